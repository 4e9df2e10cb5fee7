/- The document's All of layer 8, walked. (gen_clall.py) -/
import Derived.Test.YtclamhhgldkhnaaGreatDoorZwQClBm
import Derived.Test.YtclamhhgldkhnaaGreatDoorZwAG
import Derived.Test.YtclamhhgldkhnaaGreatDoorZwAE
import Derived.Test.YtclamhhgldkhnaaGreatDoorZwP
import Derived.Test.YtclamhhgldkhnaaGreatDoorZwB
import Derived.Deep.RegionHeld3
namespace Go.Proofs.YtclamhhgldkhnaaGreatDoor
open Go.RowKit
set_option linter.unusedVariables false
set_option maxHeartbeats 16000000
theorem Zhp {W W':World} {g:Nat} {cs:Array Value} {T:TypeId} {row:Option Nat} (h:BK W g cs T) (hg:W.grownBy W' row) (hne:¬ row=some g):BK W' g cs T:=(hg.block g h.lt (fun e=>hne e.symm)).trans h
theorem Znj {x y:Option Nat} {g h:Nat} (b:x=y∨x=some h) (hn:¬ y=some g) (hg:g<h):¬ x=some g:=fun e=>by
 rcases b with b | b
 ·exact hn (b.symm.trans e)
 ·have:=b.symm.trans e
  injection this with this
  omega
theorem Zgr {α:Type} {f:α→List Int} {b n:Nat} {l:List α} (h:∀ x∈l,(f x).length≤b) (hn:l.length≤n) (k:Nat):((l.take k).flatMap f).length≤n*b:=by
 have h1:=ZcV (f:=f) (b:=b) (l:=l.take k) fun x hx=>h x (List.mem_of_mem_take hx)
 have h2:(l.take k).length≤n:=by rw [List.length_take];omega
 exact Nat.le_trans h1 (Nat.mul_le_mul_right b h2)
theorem ZfR {α:Type} {f:α→List Int} {l t:List α} {x:α} (h:t=l++[x]):t.flatMap f=l.flatMap f++f x:=by
 rw [h,List.flatMap_append]
 simp
theorem ZnR (f:Fd):fdZ f=(nu (flg f.st)++txA f.nm)++txA (bs (Zal (tyD f.ty))):=by unfold fdZ;simp only [List.append_assoc]
theorem Zou (c:Cl):clZ c=((((((((([87,66,1]++Zbd c.pool)++nu (flg c.inf))++txA c.nm)++txA c.sup)++nu (c.ifs.length:Int))++(c.ifs.take c.ifs.length).flatMap txA)++nu (c.fds.length:Int))++(c.fds.take c.fds.length).flatMap fdZ)++nu (c.mts.length:Int))++(c.mts.take c.mts.length).flatMap meZ:=by
 unfold clZ tlZ lsZ
 simp only [List.append_assoc,List.take_length]
set_option maxRecDepth 100000 in
theorem Zmw (c:Cl) (vp vi vf vm:Value) (w:World) (h:ClAt w c vp vi vf vm) (hr:ClRoom c) (hg:Good c) (hok:okCl c=true) (hT:Tabs w) (hR:Room c.pool) (hZ:(Zbd c.pool).length+6000000≤140737488355328) :
 Calls Tryz.prog 26 #[.agg (c.vals vp vi vf vm)] w (Ret w (fun u w'=>Own w.heap.size w' 5 .u8 u (clZ c))):=by
 obtain⟨p1,p2,p3,p4,p5,p6,p7,p8,p9⟩:=Zao hok
 have hpl:=(Zb8 p1).1
 obtain⟨n1,n2,n3⟩:=ZaJ p2
 have hs:TX c.sup∧c.sup.size≤64∧(txA c.sup).length≤72:=by
  rcases p3 with h3 | h3
  ·rw [h3]
   have e:(ByteArray.empty).size=0:=rfl
   have t:TX .empty:=Nat.zero_le _
   have:=ZcQ _ t
   exact⟨t,by omega,by omega⟩
  ·exact ZaJ h3
 obtain⟨s1,s2,s3⟩:=hs
 have HSr:=Lh h.2.1
 have HFr:=Lh h.2.2.1
 have HMr:=Lh h.2.2.2
 obtain⟨Ap,Akp,rfl,-⟩:=h.1.cut
 obtain⟨Ai,Aki,rfl,ki1,km1,-⟩:=h.2.1.cut
 obtain⟨Af,Akf,rfl,ki2,km2,-⟩:=h.2.2.1.cut
 obtain⟨Am,Akm,rfl,ki3,km3,-⟩:=h.2.2.2.cut
 unfold maxLen at km1 km2 km3
 have HS:=Lh (show w.heap.size≤(w.alloc (.cells (c.vals (.slice Ap c.pool.length Akp) (.slice Ai c.ifs.length Aki) (.slice Af c.fds.length Akf) (.slice Am c.mts.length Akm)) 27)).heap.size by simp)
 obtain⟨w0,hw0⟩:∃ W,w.alloc (.cells (c.vals (.slice Ap c.pool.length Akp) (.slice Ai c.ifs.length Aki) (.slice Af c.fds.length Akf) (.slice Am c.mts.length Akm)) 27)=W:=⟨_,rfl⟩
 have E0:=Lh (show Ext w w0 from hw0 ▸ (Ext.refl w).alloc _)
 have BX:=Lh (fun W (e:Ext w0 W)=>(show BK w0 w.heap.size (c.vals (.slice Ap c.pool.length Akp) (.slice Ai c.ifs.length Aki) (.slice Af c.fds.length Akf) (.slice Am c.mts.length Akm)) 27 from hw0 ▸ BK.new w _ _).ext e)
 rw [hw0] at HS
 have X0:=Lh (Ext.refl w0)
 have HW:=Lh hw0
 clear hw0
 have C1:=Lh (fun W (e:Ext w0 W)=>Zir (.slice Ap c.pool.length Akp) c.pool W (Ze1 (h.1.ext (E0.out.trans e)) fun x hx=>(hr.pool x hx).1) (hT.ext (E0.out.trans e)) hR (fun _=>by omega))
 have HP0:=Lh p1
 have C2:=Lh (Zmj (flg c.inf) (ZbG c.inf).1)
 have Q2:=Lh (Zg6 (ZbG c.inf).1)
 have C3:=Lh (fun W=>ZaZ c.nm W (by omega))
 have C4:=Lh (fun W=>ZaZ c.sup W (by omega))
 have C5:=Lh (Zmj (c.ifs.length:Int) ⟨by omega,by omega⟩)
 have Q5:=Lh (Zg6 (n:=(c.ifs.length:Int)) ⟨by omega,by omega⟩)
 have C6:=Lh (fun x (hx:x∈c.ifs) W=>ZaZ x W (by have:=(ZaJ (p5 x hx)).2.1;omega))
 have C7:=Lh (Zmj (c.fds.length:Int) ⟨by omega,by omega⟩)
 have Q7:=Lh (Zg6 (n:=(c.fds.length:Int)) ⟨by omega,by omega⟩)
 have C9:=Lh (Zmj (c.mts.length:Int) ⟨by omega,by omega⟩)
 have Q9:=Lh (Zg6 (n:=(c.mts.length:Int)) ⟨by omega,by omega⟩)
 have HOF:=Lh p7
 have HTY:=Lh (fun x (hx:x∈c.fds)=>(hr.fds x hx).2)
 have C10:=Lh (fun x (hx:x∈c.mts) W va vc vh (ha:MeAt W x va vc vh)=>Zeq c.pool W x va vc vh ha hpl (p9 x hx) (hg.2 x hx) (hr.mts x hx))
 have ZI:=Lh (Zgr (f:=txA) (fun x hx=>(ZaJ (p5 x hx)).2.2) p4)
 have ZI1:=Lh (fun x hx=>(ZaJ (p5 x hx)).2.2)
 have ZF:=Lh (Zgr (f:=fdZ) (fun x hx=>Zhj (p7 x hx)) p6)
 have ZM:=Lh (Zgr (f:=meZ) (fun x hx=>Zj2 hpl (p9 x hx) (hg.2 x hx)) p8)
 have ZM1:=Lh (fun x hx=>Zj2 hpl (p9 x hx) (hg.2 x hx))
 have z2:=Zaz (ZbG c.inf).1
 have z5:=Zaz (n:=(c.ifs.length:Int)) ⟨by omega,by omega⟩
 have z7:=Zaz (n:=(c.fds.length:Int)) ⟨by omega,by omega⟩
 have z9:=Zaz (n:=(c.mts.length:Int)) ⟨by omega,by omega⟩
 have hfz:=Zou c
 obtain⟨Z,hZz⟩:∃ x,clZ c=x:=⟨_,rfl⟩
 rw [hZz] at hfz ⊢
 clear hZz
 obtain⟨ni,hni⟩:∃ n,c.ifs.length=n:=⟨_,rfl⟩
 obtain⟨nf,hnf⟩:∃ n,c.fds.length=n:=⟨_,rfl⟩
 obtain⟨nm,hnm⟩:∃ n,c.mts.length=n:=⟨_,rfl⟩
 rw [hni] at C5 Q5 z5
 rw [hnf] at C7 Q7 z7
 rw [hnm] at C9 Q9 z9
 rw [hni,hnf,hnm] at BX HW hfz ⊢
 rw [hni] at HSr ki1
 rw [hnf] at HFr ki2
 rw [hnm] at HMr ki3
 have Hni:=Lh hni
 have Hnf:=Lh hnf
 have Hnm:=Lh hnm
 obtain⟨kd,hkd⟩:∃ x,flg c.inf=x:=⟨_,rfl⟩
 have HK:=Lh hkd
 rw [hkd] at C2 Q2 z2 hfz
 obtain⟨PZ,hPZ⟩:∃ x,Zbd c.pool=x:=⟨_,rfl⟩
 have HPZ:=Lh hPZ
 rw [hPZ] at hZ hfz
 obtain⟨PL,hPL⟩:∃ x,PZ.length=x:=⟨_,rfl⟩
 rw [hPL] at hZ
 obtain⟨N2,hN2⟩:∃ x,nu kd=x:=⟨_,rfl⟩
 obtain⟨N3,hN3⟩:∃ x,txA c.nm=x:=⟨_,rfl⟩
 obtain⟨N4,hN4⟩:∃ x,txA c.sup=x:=⟨_,rfl⟩
 obtain⟨N5,hN5⟩:∃ x,nu (ni:Int)=x:=⟨_,rfl⟩
 obtain⟨N7,hN7⟩:∃ x,nu (nf:Int)=x:=⟨_,rfl⟩
 obtain⟨N9,hN9⟩:∃ x,nu (nm:Int)=x:=⟨_,rfl⟩
 rw [hN2] at z2 C2 hfz
 rw [hN3] at n3 C3 hfz
 rw [hN4] at s3 C4 hfz
 rw [hN5] at z5 C5 hfz
 rw [hN7] at z7 C7 hfz
 rw [hN9] at z9 C9 hfz
 have HZ:=Lh hfz
 clear hfz h hr hg hok hT hR p1 p2 p3 p4 p5 p6 p7 p8 p9 hpl n1 n2 s1 s2 hN2 hN3 hN4 hN5 hN7 hN9 hni hnf hnm hPZ hkd
 obtain⟨pool,inf,nam,sup,ifs,fds,mts⟩:=c
 unfold Cl.vals at BX HW ⊢
 simp only at HZ C1 C3 C4 C6 C10 HOF HTY ZI ZI1 ZF ZM ZM1 HK HP0 HPZ Hni Hnf Hnm HSr HFr HMr BX HW ⊢
 go_enter Tryz.func26,Tryz.ntmps26
 go_wp2_with fail
 rw [HW.out]
 refine(C1.out w0 X0.out).mono ?_
 rintro x w1 ⟨u1,rfl,(⟨-,b1,rfl,o1⟩ | ⟨hn,-⟩),x1⟩
 rotate_left
 ·exact absurd HP0.out hn
 rw [HPZ.out] at o1
 have X1:=Lh x1
 have X1a:=Lh (x1.alloc (.cells #[.int .u8 87,.int .u8 66,.int .u8 1] 5))
 have R1:=Lh (o1.row.ext ((Ext.refl w1).alloc (.cells #[.int .u8 87,.int .u8 66,.int .u8 1] 5)))
 have O1:=Lh (show Own w0.heap.size (w1.alloc (.cells #[.int .u8 87,.int .u8 66,.int .u8 1] 5)) 5 .u8 (.slice (some ⟨w1.heap.size,0,none⟩) 3 3) [87,66,1] from(Own.built w1 [87,66,1] (by intro x hx;simp at hx;rcases hx with rfl | rfl | rfl <;> decide) (by simp)).base x1.size)
 obtain⟨A1,k1,rfl,-⟩:=id o1.row
 rw [hPL] at R1
 have zPZ:PZ.length=PL:=hPL
 clear o1 x1
 go_wp2_with (at_builtin;go_loud (refine wpList_app _ rfl _ _ w0.heap.size 29 5 _ 1 .u8 rfl Tryz.underlying29 Zaq rfl (by omega) _ [87,66,1] rfl O1.out _ PZ rfl R1.out (by rw [zPZ];simp only [List.length_cons,List.length_nil];omega) (by exact X1a.out.size) ?_);intro v4 w4 o4 g4 b4;have X4:=Lh (X1a.out.grown g4 O1.out.low);have O4:=Lh o4;clear o4 g4 b4;have c3:w4.cell? ⟨w.heap.size,3,none⟩=some (.bool inf):=(BX.out w4 X4.out).cell 3)
 obtain⟨L1,hL1⟩:∃ x,[87,66,1]++PZ=x:=⟨_,rfl⟩
 have zL1:L1.length≤PL+3:=by rw [← hL1];rw [List.length_append,zPZ];simp only [List.length_cons,List.length_nil];omega
 rw [hL1] at O4
 have h:=HZ.out
 rw [hL1] at h
 have HZ:=Lh h
 clear h hL1
 refine(Zfs _ _).mono ?_
 rintro e w' ⟨rfl,hw'⟩
 rw [hw',HK.out]
 clear hw' w'
 go_wp2_with fail
 refine(C2.out _ _ (ZbQ _ _ [kd] rfl (Q2.out) (by simp))).mono ?_
 rintro e w5 ⟨v5,rfl,o5,x5⟩
 have O5:=Lh (o5.base (show w0.heap.size≤_ by have:=X4.out.size;simp;omega))
 have E5:=Lh (((Ext.refl w4).alloc _).trans x5)
 have X5:=Lh (X4.out.trans E5.out)
 have O4:=Lh (O4.out.ext E5.out)
 have R5:=Lh o5.row
 obtain⟨A5,k5,rfl,-⟩:=id o5.row
 clear o5 x5
 clear c3
 go_wp2_with (at_builtin;go_loud (refine wpList_app _ rfl _ _ w0.heap.size 29 5 _ 1 .u8 rfl Tryz.underlying29 Zaq rfl (by omega) _ (L1) rfl O4.out _ (N2) rfl R5.out (by first | omega | (simp only [List.length_append];omega)) (by exact X5.out.size) ?_);intro v6 w6 o6 g6 b6;have X6:=Lh (X5.out.grown g6 O4.out.low);have O6:=Lh o6;clear o6 g6 b6;have c1:w6.cell? ⟨w.heap.size,1,none⟩=some (.string nam):=(BX.out w6 X6.out).cell 1;have c2:w6.cell? ⟨w.heap.size,2,none⟩=some (.string sup):=(BX.out w6 X6.out).cell 2)
 have zz6:w6.cell? ⟨w.heap.size,1,none⟩=some (.string nam)∧w6.cell? ⟨w.heap.size,2,none⟩=some (.string sup):=⟨c1,c2⟩
 go_region_held3 (fun w'=>w'.cell? ⟨w.heap.size,1,none⟩=some (.string nam)∧w'.cell? ⟨w.heap.size,2,none⟩=some (.string sup)) (first | go_keep | assumption) (first
  | (go_at_call 68;((with_reducible refine(C3.out _).mono ?_);rintro e w7 ⟨v7,rfl,o7,x7⟩);have x7:=((Ext.refl w6).drew).trans x7;have E7:=Lh x7;have X7:=Lh (X6.out.trans x7);have O7:=Lh (O6.out.ext x7);have R7:=Lh o7.row;have zw7:w7.cell? ⟨w.heap.size,1,none⟩=some (.string nam)∧w7.cell? ⟨w.heap.size,2,none⟩=some (.string sup):=⟨(BX.out w7 X7.out).cell 1,(BX.out w7 X7.out).cell 2⟩;clear o7 x7)
  | ((refine ZaM rfl _ _ w0.heap.size 29 5 _ 1 .u8 rfl Tryz.underlying29 Zaq rfl (by omega) v6 (L1++N2) rfl O7.out v7 (N3) rfl R7.out (by first | omega | (simp only [List.length_append];omega)) (by exact X7.out.size) ?_);intro v8 w8 o8 g8 b8;have X8:=Lh (X7.out.grown g8 O7.out.low);have O8:=Lh o8;have zw8:w8.cell? ⟨w.heap.size,1,none⟩=some (.string nam)∧w8.cell? ⟨w.heap.size,2,none⟩=some (.string sup):=⟨(BX.out w8 X8.out).cell 1,(BX.out w8 X8.out).cell 2⟩;clear o8 g8 b8)
  | (go_at_call 68;((with_reducible refine(C4.out _).mono ?_);rintro e w9 ⟨v9,rfl,o9,x9⟩);have E9:=Lh x9;have X9:=Lh (X8.out.trans x9);have O9:=Lh (O8.out.ext x9);have R9:=Lh o9.row;have zw9:w9.cell? ⟨w.heap.size,1,none⟩=some (.string nam)∧w9.cell? ⟨w.heap.size,2,none⟩=some (.string sup):=⟨(BX.out w9 X9.out).cell 1,(BX.out w9 X9.out).cell 2⟩;clear o9 x9)
  | ((refine ZaM rfl _ _ w0.heap.size 29 5 _ 1 .u8 rfl Tryz.underlying29 Zaq rfl (by omega) v8 ((L1++N2)++N3) rfl O9.out v9 (N4) rfl R9.out (by first | omega | (simp only [List.length_append];omega)) (by exact X9.out.size) ?_);intro v10 w10 o10 g10 b10;have X10:=Lh (X9.out.grown g10 O9.out.low);have O10:=Lh o10;have zw10:w10.cell? ⟨w.heap.size,1,none⟩=some (.string nam)∧w10.cell? ⟨w.heap.size,2,none⟩=some (.string sup):=⟨(BX.out w10 X10.out).cell 1,(BX.out w10 X10.out).cell 2⟩;clear o10 g10 b10))
 have c4:w10.cell? ⟨w.heap.size,4,none⟩=some (.slice Ai ni Aki):=(BX.out w10 X10.out).cell 4
 go_wp2_with fail
 refine(C5.out _ _ (ZbQ _ _ [(ni:Int)] rfl (Q5.out) (by simp))).mono ?_
 rintro e w11 ⟨v11,rfl,o11,x11⟩
 have O11:=Lh (o11.base (show w0.heap.size≤_ by have:=X10.out.size;simp;omega))
 have E11:=Lh (((Ext.refl w10).alloc _).trans x11)
 have X11:=Lh (X10.out.trans E11.out)
 have O10:=Lh (O10.out.ext E11.out)
 have R11:=Lh o11.row
 obtain⟨A11,k11,rfl,-⟩:=id o11.row
 clear o11 x11
 clear c4
 go_wp2_with (at_builtin;go_loud (refine wpList_app _ rfl _ _ w0.heap.size 29 5 _ 1 .u8 rfl Tryz.underlying29 Zaq rfl (by omega) _ (((L1++N2)++N3)++N4) rfl O10.out _ (N5) rfl R11.out (by first | omega | (simp only [List.length_append];omega)) (by exact X11.out.size) ?_);intro v12 w12 o12 g12 b12;have X12:=Lh (X11.out.grown g12 O10.out.low);have O12:=Lh o12;clear o12 g12 b12)
 obtain⟨L5,hL5⟩:∃ x,(((L1++N2)++N3)++N4)++N5=x:=⟨_,rfl⟩
 have zL5:L5.length≤PL+200:=by rw [← hL5];simp only [List.length_append];omega
 rw [hL5] at O12
 have h:=HZ.out
 rw [hL5] at h
 have HZ:=Lh h
 clear h hL5 zL1 z2 n3 s3 z5
 go_wp2_with fail
 go_loopw [5,6] (fun o i wr=>∃ k:Nat,i=.int .i64 k∧k≤ni∧Own w0.heap.size wr 5 .u8 o (L5++(ifs.take k).flatMap txA)∧Ext w0 wr) (fun _ i _=>ni-(intOf i).toNat)
 case atStart=>exact⟨0,rfl,by omega,by simpa using O12.out,X12.out⟩
 case round =>
  obtain⟨k,rfl,hk,ho,hx⟩:=hrel
  rename World=>wr
  have O20:=Lh ho
  have X20:=Lh hx
  clear ho hx
  have c4:wr.cell? ⟨w.heap.size,4,none⟩=some (.slice Ai ni Aki):=(BX.out wr X20.out).cell 4
  by_cases hlt:k<ni
  ·have hkl:k<ifs.length:=by have:=Hni.out;omega
   obtain⟨b1,o1,rfl,hx1⟩:=ZcT HSr.out (by have:=Hni.out;omega)
   have y0:=hx1 wr (E0.out.trans X20.out) k hkl
   have ht:=Lh (Zd5 hkl)
   have hm:=Zgd hkl
   have D8:=Lh (C6.out _ hm)
   have z8:=ZI1.out _ hm
   have zF:=ZI.out k
   obtain⟨fl,hfl⟩:∃ x,(ifs.take k).flatMap txA=x:=⟨_,rfl⟩
   obtain⟨x,hxx⟩:∃ x,gs ifs k=x:=⟨_,rfl⟩
   have hfl':=Lh (show (ifs.take (k+1)).flatMap txA=fl++txA x by rw [ZfR (f:=txA) ht.out,hfl,hxx])
   rw [hfl] at O20 zF
   rw [hxx] at y0 D8 z8
   obtain⟨N8,hN8⟩:∃ y,txA x=y:=⟨_,rfl⟩
   rw [hN8] at D8 z8 hfl'
   clear hx1 hm hxx hfl hkl ht hN8
   go_wp2_with fail
   refine(D8.out wr).mono ?_
   rintro e w21 ⟨v21,rfl,o21,x21⟩
   have O21:=Lh (o21.base X20.out.size)
   have E21:=Lh x21
   have X21:=Lh (X20.out.trans E21.out)
   have O20:=Lh (O20.out.ext E21.out)
   have R21:=Lh o21.row
   obtain⟨A21,k21,rfl,-⟩:=id o21.row
   clear o21 x21
   go_wp2_with (at_builtin;go_loud (refine wpList_app _ rfl _ _ w0.heap.size 29 5 _ 1 .u8 rfl Tryz.underlying29 Zaq rfl (by omega) _ (L5++fl) rfl O20.out _ (N8) rfl R21.out (by first | omega | (simp only [List.length_append];omega)) (by exact X21.out.size) ?_);intro v22 w22 o22 g22 b22;have X22:=Lh (X21.out.grown g22 O20.out.low);have O22:=Lh o22;clear o22 g22 b22)
   go_wp2_with fail
   go_roundw
   case rel=>exact⟨k+1,by go_num,by omega,by rw [hfl'.out,← List.append_assoc];exact O22.out,X22.out⟩
   case measure=>simp [intOf];omega
  ·obtain rfl:ni=k:=by omega
   obtain⟨FI,hFI⟩:∃ x,(ifs.take ni).flatMap txA=x:=⟨_,rfl⟩
   have zFI:=ZI.out ni
   rw [hFI] at zFI O20
   have h:=HZ.out
   rw [hFI] at h
   have HZ:=Lh h
   clear h hFI
   have ec4:wr.cell? ⟨w.heap.size,5,none⟩=some (.slice Af nf Akf):=(BX.out wr X20.out).cell 5
   go_wp2_with fail
   refine(C7.out _ _ (ZbQ _ _ [(nf:Int)] rfl (Q7.out) (by simp))).mono ?_
   rintro e w31 ⟨v31,rfl,o31,x31⟩
   have O31:=Lh (o31.base (show w0.heap.size≤_ by have:=X20.out.size;simp;omega))
   have E31:=Lh (((Ext.refl wr).alloc _).trans x31)
   have X31:=Lh (X20.out.trans E31.out)
   have O20:=Lh (O20.out.ext E31.out)
   have R31:=Lh o31.row
   obtain⟨A31,k31,rfl,-⟩:=id o31.row
   clear o31 x31
   clear ec4 c4
   go_wp2_with (at_builtin;go_loud (refine wpList_app _ rfl _ _ w0.heap.size 29 5 _ 1 .u8 rfl Tryz.underlying29 Zaq rfl (by omega) _ (L5++FI) rfl O20.out _ (N7) rfl R31.out (by first | omega | (simp only [List.length_append];omega)) (by exact X31.out.size) ?_);intro v32 w32 o32 g32 b32;have X32:=Lh (X31.out.grown g32 O20.out.low);have O32:=Lh o32;clear o32 g32 b32)
   obtain⟨L7,hL7⟩:∃ x,(L5++FI)++N7=x:=⟨_,rfl⟩
   have zL7:L7.length≤PL+6000:=by rw [← hL7];simp only [List.length_append];omega
   rw [hL7] at O32
   have h:=HZ.out
   rw [hL7] at h
   have HZ:=Lh h
   clear h hL7 zL5 z7
   go_wp2_with fail
   go_loopw [5,7] (fun o i ws=>∃ k:Nat,i=.int .i64 k∧k≤nf∧Own w0.heap.size ws 5 .u8 o (L7++(fds.take k).flatMap fdZ)∧Ext w0 ws) (fun _ i _=>nf-(intOf i).toNat)
   case atStart=>exact⟨0,rfl,by omega,by simpa using O32.out,X32.out⟩
   case round =>
    obtain⟨k,rfl,hk,ho,hx⟩:=hrel
    rename World=>ws
    have O40:=Lh ho
    have X40:=Lh hx
    clear ho hx
    have c5:ws.cell? ⟨w.heap.size,5,none⟩=some (.slice Af nf Akf):=(BX.out ws X40.out).cell 5
    by_cases hlt:k<nf
    ·have hkl:k<fds.length:=by have:=Hnf.out;omega
     obtain⟨b1,o1,rfl,hx1⟩:=ZcL HFr.out (by have:=Hnf.out;omega)
     obtain⟨y0,y1,y2,y3⟩:=hx1 ws (E0.out.trans X40.out) k hkl
     have ht:=Lh (ZdW hkl)
     have hm:=Zex hkl
     have hof:=HOF.out _ hm
     have hty:=HTY.out _ hm
     have zF:=ZF.out k
     obtain⟨fl,hfl⟩:∃ x,(fds.take k).flatMap fdZ=x:=⟨_,rfl⟩
     obtain⟨x,hxx⟩:∃ x,gf fds k=x:=⟨_,rfl⟩
     have hfl':=Lh (show (fds.take (k+1)).flatMap fdZ=fl++fdZ x by rw [ZfR (f:=fdZ) ht.out,hfl,hxx])
     rw [hfl] at O40 zF
     rw [hxx] at y0 y1 y2 y3 hof hty
     unfold okFd at hof
     rw [Bool.and_eq_true] at hof
     obtain⟨f1,f2,f3⟩:=ZaJ hof.1
     obtain⟨t1,t2,t3⟩:=Zjt hof.2
     have t4:=ZcQ _ t2
     have a1:=Zaz (ZbG x.st).1
     have D1:=Lh (fun W=>ZgM x.ty W hty)
     rw [t1] at D1
     have D2:=Lh (Zrd (flg x.st) (ZbG x.st).1)
     have D0:=Lh (fun W=>Zfs x.st W)
     have D3:=Lh (fun W=>ZaZ x.nm W (by omega))
     have D4:=Lh (fun W=>ZaZ (bs (Zal (tyD x.ty))) W (by omega))
     have a3:(txA (bs (Zal (tyD x.ty)))).length≤75:=by omega
     rw [ZnR] at hfl'
     obtain⟨tx,htx⟩:∃ y,bs (Zal (tyD x.ty))=y:=⟨_,rfl⟩
     simp only [htx] at D1 D4 a3 hfl'
     obtain⟨kx,hkx⟩:∃ y,flg x.st=y:=⟨_,rfl⟩
     simp only [hkx] at D0
     rw [hkx] at D2 a1 hfl'
     obtain⟨M1,hM1⟩:∃ y,nu kx=y:=⟨_,rfl⟩
     obtain⟨M2,hM2⟩:∃ y,txA x.nm=y:=⟨_,rfl⟩
     obtain⟨M3,hM3⟩:∃ y,txA tx=y:=⟨_,rfl⟩
     rw [hM1] at D2 a1 hfl'
     rw [hM2] at D3 f3 hfl'
     rw [hM3] at D4 a3 hfl'
     clear hx1 hm hxx hfl hkl ht hof hty f1 f2 t1 t2 t3 t4 htx hkx hM1 hM2 hM3
     obtain⟨fst,fnm,fty⟩:=x
     obtain⟨fk,fs⟩:=fty
     simp only at y0 y1 y2 y3 D1 D3 D0
     have HN20:=Lh (fun e=>Nat.lt_irrefl _ (O40.out.high ws.heap.size e))
     have HFB:=Lh (fun W (e:Ext (ws.alloc (.cells #[.bool fst,.string fnm,.int .i64 fk,.string fs] 59)) W)=>(BK.new ws #[.bool fst,.string fnm,.int .i64 fk,.string fs] 59).ext e)
     have X40a:=Lh (X40.out.alloc (.cells #[.bool fst,.string fnm,.int .i64 fk,.string fs] 59))
     have O40:=Lh (O40.out.ext ((Ext.refl ws).alloc (.cells #[.bool fst,.string fnm,.int .i64 fk,.string fs] 59)))
     go_wp2_with fail
     refine(D1.out _).mono ?_
     rintro e w21 ⟨rfl,x21⟩
     have X21:=Lh (X40a.out.trans x21)
     have O40:=Lh (O40.out.ext x21)
     have HB21:=Lh (HFB.out w21 x21)
     have z21:w21.cell? ⟨ws.heap.size,0,none⟩=some (.bool fst)∧w21.cell? ⟨ws.heap.size,1,none⟩=some (.string fnm):=⟨HB21.out.cell 0,HB21.out.cell 1⟩
     have d0:=z21.1
     have d1:=z21.2
     clear x21
     go_wp2_with fail
     go_region_held3 (fun w'=>w'.cell? ⟨ws.heap.size,0,none⟩=some (.bool fst)∧w'.cell? ⟨ws.heap.size,1,none⟩=some (.string fnm)) (first | go_keep | assumption) (first
      | (go_at_call 67;((with_reducible refine(D0.out _).mono ?_);rintro e w' ⟨rfl,hw'⟩);rw [hw'];clear hw' w')
      | (go_at_call 66;((with_reducible refine(D2.out _ _ _ (by first | rfl | simp)).mono ?_);rintro e w22 ⟨v22,rfl,o22,x22⟩);have X22:=Lh (X21.out.trans x22);have O22:=Lh (O40.out.ext x22);have R22:=Lh o22.row;have HB22:=Lh (HB21.out.ext x22);have z22:w22.cell? ⟨ws.heap.size,0,none⟩=some (.bool fst)∧w22.cell? ⟨ws.heap.size,1,none⟩=some (.string fnm):=⟨HB22.out.cell 0,HB22.out.cell 1⟩;clear o22 x22)
      | ((refine ZaM rfl _ _ w0.heap.size 29 5 _ 1 .u8 rfl Tryz.underlying29 Zaq rfl (by omega) _ (L7++fl) rfl O22.out v22 (M1) rfl R22.out (by first | omega | (simp only [List.length_append];omega)) (by exact X22.out.size) ?_);intro v23 w23 o23 g23 b23;have X23:=Lh (X22.out.grown g23 O22.out.low);have O23:=Lh o23;have HB23:=Lh (Zhp HB22.out g23 HN20.out);have z23:w23.cell? ⟨ws.heap.size,0,none⟩=some (.bool fst)∧w23.cell? ⟨ws.heap.size,1,none⟩=some (.string fnm):=⟨HB23.out.cell 0,HB23.out.cell 1⟩;have HN23:=Lh (Znj b23 HN20.out HB22.out.lt);clear o23 g23 b23)
      | (go_at_call 68;((with_reducible refine(D3.out _).mono ?_);rintro e w24 ⟨v24,rfl,o24,x24⟩);have E24:=Lh x24;have X24:=Lh (X23.out.trans x24);have O24:=Lh (O23.out.ext x24);have R24:=Lh o24.row;have HB24:=Lh (HB23.out.ext x24);have z24:w24.cell? ⟨ws.heap.size,0,none⟩=some (.bool fst)∧w24.cell? ⟨ws.heap.size,1,none⟩=some (.string fnm):=⟨HB24.out.cell 0,HB24.out.cell 1⟩;clear o24 x24)
      | ((refine ZaM rfl _ _ w0.heap.size 29 5 _ 1 .u8 rfl Tryz.underlying29 Zaq rfl (by omega) v23 ((L7++fl)++M1) rfl O24.out v24 (M2) rfl R24.out (by first | omega | (simp only [List.length_append];omega)) (by exact X24.out.size) ?_);intro v25 w25 o25 g25 b25;have X25:=Lh (X24.out.grown g25 O24.out.low);have O25:=Lh o25;have HB25:=Lh (Zhp HB24.out g25 HN23.out);have z25:w25.cell? ⟨ws.heap.size,0,none⟩=some (.bool fst)∧w25.cell? ⟨ws.heap.size,1,none⟩=some (.string fnm):=⟨HB25.out.cell 0,HB25.out.cell 1⟩;have HN25:=Lh (Znj b25 HN23.out HB24.out.lt);clear o25 g25 b25)
      | (go_at_call 68;((with_reducible refine(D4.out _).mono ?_);rintro e w26 ⟨v26,rfl,o26,x26⟩);have E26:=Lh x26;have X26:=Lh (X25.out.trans x26);have O26:=Lh (O25.out.ext x26);have R26:=Lh o26.row;have HB26:=Lh (HB25.out.ext x26);have z26:w26.cell? ⟨ws.heap.size,0,none⟩=some (.bool fst)∧w26.cell? ⟨ws.heap.size,1,none⟩=some (.string fnm):=⟨HB26.out.cell 0,HB26.out.cell 1⟩;clear o26 x26)
      | ((refine ZaM rfl _ _ w0.heap.size 29 5 _ 1 .u8 rfl Tryz.underlying29 Zaq rfl (by omega) v25 (((L7++fl)++M1)++M2) rfl O26.out v26 (M3) rfl R26.out (by first | omega | (simp only [List.length_append];omega)) (by exact X26.out.size) ?_);intro v27 w27 o27 g27 b27;have X27:=Lh (X26.out.grown g27 O26.out.low);have O27:=Lh o27;have HB27:=Lh (Zhp HB26.out g27 HN25.out);have z27:w27.cell? ⟨ws.heap.size,0,none⟩=some (.bool fst)∧w27.cell? ⟨ws.heap.size,1,none⟩=some (.string fnm):=⟨HB27.out.cell 0,HB27.out.cell 1⟩;clear o27 g27 b27))
     go_wp2_with fail
     go_roundw
     case rel=>exact⟨k+1,by go_num,by omega,by rw [hfl'.out];simpa only [List.append_assoc] using O27.out,X27.out⟩
     case measure=>simp [intOf];omega
    ·obtain rfl:nf=k:=by omega
     obtain⟨FF,hFF⟩:∃ x,(fds.take nf).flatMap fdZ=x:=⟨_,rfl⟩
     have zFF:=ZF.out nf
     rw [hFF] at zFF O40
     have h:=HZ.out
     rw [hFF] at h
     have HZ:=Lh h
     clear h hFF
     have ec5:ws.cell? ⟨w.heap.size,6,none⟩=some (.slice Am nm Akm):=(BX.out ws X40.out).cell 6
     go_wp2_with fail
     refine(C9.out _ _ (ZbQ _ _ [(nm:Int)] rfl (Q9.out) (by simp))).mono ?_
     rintro e w51 ⟨v51,rfl,o51,x51⟩
     have O51:=Lh (o51.base (show w0.heap.size≤_ by have:=X40.out.size;simp;omega))
     have E51:=Lh (((Ext.refl ws).alloc _).trans x51)
     have X51:=Lh (X40.out.trans E51.out)
     have O40:=Lh (O40.out.ext E51.out)
     have R51:=Lh o51.row
     obtain⟨A51,k51,rfl,-⟩:=id o51.row
     clear o51 x51
     clear ec5 c5
     go_wp2_with (at_builtin;go_loud (refine wpList_app _ rfl _ _ w0.heap.size 29 5 _ 1 .u8 rfl Tryz.underlying29 Zaq rfl (by omega) _ (L7++FF) rfl O40.out _ (N9) rfl R51.out (by first | omega | (simp only [List.length_append];omega)) (by exact X51.out.size) ?_);intro v52 w52 o52 g52 b52;have X52:=Lh (X51.out.grown g52 O40.out.low);have O52:=Lh o52;clear o52 g52 b52)
     obtain⟨L9,hL9⟩:∃ x,(L7++FF)++N9=x:=⟨_,rfl⟩
     have zL9:L9.length≤PL+60000:=by rw [← hL9];simp only [List.length_append];omega
     rw [hL9] at O52
     have h:=HZ.out
     rw [hL9] at h
     have HZ:=Lh h
     clear h hL9 zL7 z9
     go_wp2_with fail
     go_loopw [5,11] (fun o i wt=>∃ k:Nat,i=.int .i64 k∧k≤nm∧Own w0.heap.size wt 5 .u8 o (L9++(mts.take k).flatMap meZ)∧Ext w0 wt) (fun _ i _=>nm-(intOf i).toNat)
     case atStart=>exact⟨0,rfl,by omega,by simpa using O52.out,X52.out⟩
     case round =>
      obtain⟨k,rfl,hk,ho,hx⟩:=hrel
      rename World=>wt
      have O60:=Lh ho
      have X60:=Lh hx
      clear ho hx
      have c6:wt.cell? ⟨w.heap.size,6,none⟩=some (.slice Am nm Akm):=(BX.out wt X60.out).cell 6
      by_cases hlt:k<nm
      ·have hkl:k<mts.length:=by have:=Hnm.out;omega
       obtain⟨b1,o1,rfl,hx1⟩:=HMr.out.at (by have:=Hnm.out;omega)
       obtain⟨va,vc,vh,hx1⟩:=hx1 k hkl
       have ht:=Lh (Zdm hkl)
       have hm:=Zc8 hkl
       have D8:=Lh (C10.out _ hm)
       have z8:=ZM1.out _ hm
       have zF:=ZM.out k
       obtain⟨fl,hfl⟩:∃ x,(mts.take k).flatMap meZ=x:=⟨_,rfl⟩
       obtain⟨x,hxx⟩:∃ x,gm mts k=x:=⟨_,rfl⟩
       have hfl':=Lh (show (mts.take (k+1)).flatMap meZ=fl++meZ x by rw [ZfR (f:=meZ) ht.out,hfl,hxx])
       rw [hfl] at O60 zF
       rw [hxx] at hx1 D8 z8
       obtain⟨⟨y0,y1,y2,y3,y4,y5,y6,y7,y8,y9⟩,m1⟩:=hx1 wt (E0.out.trans X60.out)
       have D9:=Lh (D8.out wt va vc vh m1)
       obtain⟨N8,hN8⟩:∃ y,meZ x=y:=⟨_,rfl⟩
       rw [hN8] at D9 z8 hfl'
       unfold Me.vals at D9
       clear hx1 hm hxx hfl hkl ht hN8 m1 D8
       go_wp2_with fail
       refine D9.out.mono ?_
       rintro e w21 ⟨v21,rfl,o21,x21⟩
       have X21:=Lh (X60.out.trans x21)
       have O60:=Lh (O60.out.ext x21)
       have R21:=Lh o21.row
       obtain⟨A21,k21,rfl,-⟩:=id o21.row
       clear o21 x21 y0 y1 y2 y3 y4 y5 y6 y7 y8 y9
       go_wp2_with (at_builtin;go_loud (refine wpList_app _ rfl _ _ w0.heap.size 29 5 _ 1 .u8 rfl Tryz.underlying29 Zaq rfl (by omega) _ (L9++fl) rfl O60.out _ (N8) rfl R21.out (by first | omega | (simp only [List.length_append];omega)) (by exact X21.out.size) ?_);intro v22 w22 o22 g22 b22;have X22:=Lh (X21.out.grown g22 O60.out.low);have O22:=Lh o22;clear o22 g22 b22)
       go_wp2_with fail
       go_roundw
       case rel=>exact⟨k+1,by go_num,by omega,by rw [hfl'.out,← List.append_assoc];exact O22.out,X22.out⟩
       case measure=>simp [intOf];omega
      ·obtain rfl:nm=k:=by omega
       go_wp2
       go_ret
       rw [HZ.out]
       exact Ret.mk (O60.out.base HS.out) (E0.out.trans X60.out)
end Go.Proofs.YtclamhhgldkhnaaGreatDoor
