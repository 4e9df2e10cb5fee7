/- Several texts of this proof, one behind the other. -/
import Derived.Test.YtclamhhgldkhnaaGreatDoorZwAJ
import Derived.Test.YtclamhhgldkhnaaGreatDoorZwW
namespace Go.Proofs.YtclamhhgldkhnaaGreatDoor
open Go.RowKit
set_option linter.unusedVariables false
set_option maxHeartbeats 16000000
theorem ZoH (w0 w:World) (g:Nat) (s:RSt) (h:RK w0 w g s) (hT:Tabs w0) (hl:s.1.length≤140737488351232) :
 Calls Tryz.prog 86 #[.pointer (some ⟨g,0,none⟩)] w fun x w'=>∃ v,KRet w0 w g (Zb4 s).2 v x w'∧ShC.Own w.heap.size w' v (Zb4 s).1:=by
 obtain⟨A,c,hc1,hc2,hrow,a0,a1,f0,f1⟩:=h.cells
 unfold maxLen at hc2
 have hfit:=h.fit
 have hsl:=(ZhH hfit).2.length_le
 have HP:=Lh (ZnO _ s.1 w (hrow.ext h.ext0) (hT.ext h.ext0) hl)
 have HK:=Lh (fun W e (hW:RK w0 W g s)=>Zfy w0 W g s e hW)
 have hlt:=h.lt
 have H:=Lh h
 obtain⟨l,b⟩:=s
 simp only at a0 a1 hc1 HP HK hsl hfit ⊢
 have HSL:=Lh hsl
 obtain⟨G,hGG⟩:∃ G,Zb4 (l,b)=G:=⟨_,rfl⟩
 have HGG:=Lh hGG
 rw [hGG]
 clear h hrow hfit hsl hT hGG
 go_enter Tryz.func86,Tryz.ntmps86
 go_wp2_with fail
 refine HP.out.mono ?_
 rintro x w1 ⟨v1,rfl,ha,x1⟩
 rcases ha with⟨he,xv,yv,rfl,hox,hoy⟩ | ⟨he,rfl⟩
 ·have hG:G=((Zcn l).1,if b=true then (l,true) else (l.drop (l.length-(Zcn l).2.1.length),false)):=by rw [← HGG.out];unfold Zb4;rw [if_pos he]
  obtain⟨ps,hps⟩:∃ y,(Zcn l).1=y:=⟨_,rfl⟩
  obtain⟨rest,hrest⟩:∃ y,(Zcn l).2.1=y:=⟨_,rfl⟩
  rw [hps] at hox hG
  rw [hrest] at hoy HSL hG
  have HE:=Lh hG
  have HX:=Lh hox.shp
  obtain⟨Ax,cx,rfl,-⟩:=hox.shp.slice
  obtain⟨_,_,rfl,-⟩:=hoy.row
  have H1:=Lh (HK.out w1 0 (H.out.ext x1))
  rw [show (b || decide ((0:Int)≠0))=b by simp] at H1
  have X1:=Lh x1
  clear hox hoy x1 hG hps hrest he a0 a1 f0 f1
  go_wp2_with fail
  refine H1.out.mono ?_
  rintro x w2 ⟨rfl,h2,g2⟩
  have O2:=Lh (HX.out.keptU g2 hlt (fun _ h=>h))
  have G2:=Lh (Zae (ZaB X1.out (some g)) g2)
  obtain⟨A2,c2,-,-,-,d0,d1,e0,e1⟩:=h2.cells
  simp only at d0 d1
  have hrl:=HSL.out
  have hw2:IntKind.i64.wrap ((l.length:Int)-(rest.length:Int))=((l.length-rest.length:Nat):Int):=by rw [IntKind.wrap_i64];omega
  have HB:=Lh (ZbX w0 w2 g (l,b) ((l.length-rest.length:Nat):Int) (by omega) h2)
  have eB:(gB ((l.length-rest.length:Nat):Int) (l,b)).2=if b=true then (l,true) else (l.drop (l.length-rest.length),false):=by
   unfold gB
   cases b
   ·rw [if_neg (by simp)]
    simp
   ·rw [if_pos (.inl rfl)]
    rfl
  rw [eB] at HB
  clear h2 g2 hrl eB
  go_wp2_with fail
  refine HB.out.mono ?_
  rintro x w3 ⟨v3,⟨rfl,h3,g3⟩,r3⟩
  have O3:=Lh (O2.out.keptU g3 hlt (fun _ h=>h))
  have H3:=Lh h3
  have G3:=Lh (Zae G2.out g3)
  obtain⟨_,_,rfl,-⟩:=r3
  clear h3 g3
  go_wp2
  go_ret
  rw [HE.out]
  exact⟨_,⟨rfl,H3.out,G3.out⟩,O3.out⟩
 ·have HE:=Lh (show G=([],l,true) by rw [← HGG.out];unfold Zb4;rw [if_neg he])
  obtain⟨e,hee⟩:∃ e,errZ l=e:=⟨_,rfl⟩
  rw [hee] at he ⊢
  have H1:=Lh (HK.out w1 e (H.out.ext x1))
  rw [show (b || decide (e≠0))=true by rw [decide_eq_true he];simp] at H1
  have X1:=Lh x1
  clear x1 hee he a0 a1 f0 f1
  go_wp2_with fail
  refine H1.out.mono ?_
  rintro x w2 ⟨rfl,h2,g2⟩
  have G2:=Lh (Zae (ZaB X1.out (some g)) g2)
  obtain⟨A2,c2,-,-,-,d0,d1,e0,e1⟩:=h2.cells
  simp only at d0 d1
  have hw2:IntKind.i64.wrap (l.length:Int)=l.length:=by rw [IntKind.wrap_i64];omega
  have HB:=Lh (ZbX w0 w2 g (l,true) (l.length:Int) (by omega) h2)
  have eB:(gB (l.length:Int) (l,true)).2=(l,true):=by
   unfold gB
   rw [if_pos (.inl rfl)]
  rw [eB] at HB
  clear h2 g2 eB
  go_wp2_with fail
  refine HB.out.mono ?_
  rintro x w3 ⟨v3,⟨rfl,h3,g3⟩,r3⟩
  have H3:=Lh h3
  have G3:=Lh (Zae G2.out g3)
  obtain⟨_,_,rfl,-⟩:=r3
  clear h3 g3
  go_wp2
  go_ret
  rw [HE.out]
  exact⟨_,⟨rfl,H3.out,G3.out⟩,Shp.Own.nil _ _ _⟩
def sets7 (W:World) (r:Nat) (a0 a1 a2 a3 a4 a5 a6:Value):World :=
 ((((((W.setCell ⟨r,0,none⟩ a0).setCell ⟨r,1,none⟩ a1).setCell ⟨r,2,none⟩ a2).setCell ⟨r,3,none⟩ a3).setCell ⟨r,4,none⟩ a4).setCell ⟨r,5,none⟩ a5).setCell ⟨r,6,none⟩ a6
theorem ZaU (W:World) (r:Nat) (a0 a1 a2 a3 a4 a5 a6:Value):W.grownBy (sets7 W r a0 a1 a2 a3 a4 a5 a6) (some r) :=
 Zaa (Zaa (Zaa (Zaa (Zaa (Zaa (Zaa (World.grownBy.refl W (some r)) 0 a0) 1 a1) 2 a2) 3 a3) 4 a4) 5 a5) 6 a6
theorem RKG.sets7 {w0 w W:World} {g:Nat} {s:RSt} (h:RKG w0 w W g s) (a0 a1 a2 a3 a4 a5 a6:Value):RKG w0 w (sets7 W w.heap.size a0 a1 a2 a3 a4 a5 a6) g s :=
 ((((((h.set 0 a0).set 1 a1).set 2 a2).set 3 a3).set 4 a4).set 5 a5).set 6 a6
def ClOwn (B:Nat) (w:World) (c:Cl) (vp vi vf vm:Value):Prop:=ShC.Own B w vp c.pool∧ShS.Own B w vi c.ifs∧ShF.Own B w vf c.fds∧OwnM B w vm c.mts
theorem OwnM.keptU {B:Nat} {w w':World} {v:Value} {l:List Me} {g:Nat} (h:OwnM B w v l) (hg:w.grownBy w' (some g)) (hlt:g<B):OwnM B w' v l:=by
 obtain⟨es,e,h⟩:=h
 exact⟨es,e,h.keptU hg hlt (fun _ h=>NestMO.keptU h hg hlt)⟩
theorem OwnM.base {B B':Nat} {w:World} {v:Value} {l:List Me} (h:OwnM B w v l) (hB:B'≤B):OwnM B' w v l:=by
 obtain⟨es,e,h⟩:=h
 exact⟨es,e,h.baseF hB (fun _ h=>NestMO.base h hB)⟩
theorem ClOwn.keptU {B:Nat} {w w':World} {c:Cl} {vp vi vf vm:Value} {g:Nat} (h:ClOwn B w c vp vi vf vm) (hg:w.grownBy w' (some g)) (hlt:g<B):ClOwn B w' c vp vi vf vm :=
 ⟨h.1.keptU hg hlt (fun _ h=>h),h.2.1.keptU hg hlt (fun _ h=>h),h.2.2.1.keptU hg hlt (fun _ h=>h),h.2.2.2.keptU hg hlt⟩
theorem ClOwn.base {B B':Nat} {w:World} {c:Cl} {vp vi vf vm:Value} (h:ClOwn B w c vp vi vf vm) (hB:B'≤B):ClOwn B' w c vp vi vf vm :=
 ⟨h.1.baseF hB (fun _ h=>h),h.2.1.baseF hB (fun _ h=>h),h.2.2.1.baseF hB (fun _ h=>h),h.2.2.2.base hB⟩
theorem ClOwn.ext {B:Nat} {w w':World} {c:Cl} {vp vi vf vm:Value} (h:ClOwn B w c vp vi vf vm) (e:Ext w w'):ClOwn B w' c vp vi vf vm:=⟨h.1.ext e,h.2.1.ext e,h.2.2.1.ext e,h.2.2.2.ext e⟩
theorem ClOwn.at {B:Nat} {w:World} {c:Cl} {vp vi vf vm:Value} (h:ClOwn B w c vp vi vf vm):ClAt w c vp vi vf vm:=⟨h.1.row,h.2.1.row,h.2.2.1.row,h.2.2.2.row⟩
theorem Zg8 {w0 w W:World} {g:Nat} {s:RSt} {x:Cl} {vp vi vf vm:Value} {B:Nat} (h:RKG w0 w W g s) (ho:ClOwn B W x vp vi vf vm) (hB:w.heap.size<B) (a0 a1 a2 a3 a4 a5 a6:Value) :
 KRet w0 w g s (.agg (x.vals vp vi vf vm)) (.returned (.agg (x.vals vp vi vf vm))) (sets7 W w.heap.size a0 a1 a2 a3 a4 a5 a6)∧ClOwn w.heap.size (sets7 W w.heap.size a0 a1 a2 a3 a4 a5 a6) x vp vi vf vm :=
 ⟨⟨rfl,(h.sets7 a0 a1 a2 a3 a4 a5 a6).1,(h.sets7 a0 a1 a2 a3 a4 a5 a6).2.1⟩,(ho.keptU (ZaU W w.heap.size a0 a1 a2 a3 a4 a5 a6) hB).base (Nat.le_of_lt hB)⟩
theorem ZpI {l:List Int} (hf:Fit .u8 l):((strOfNums l).toList==[87,66,1])=decide (l=[87,66,1]):=by
 have h:=ZeD hf (m:=[87,66,1]) (fun x hx=>by simp at hx;rcases hx with rfl | rfl | rfl <;> exact Zbp (by decide) (by decide))
 rw [← h,show (strOfNums [87,66,1]).toList=[87,66,1] by rw [Lib.strOfNums_toList];rfl]
set_option maxRecDepth 100000 in
theorem Zmo (w0 w:World) (g:Nat) (b:List Int) (h:RK w0 w g (b,false)) (hT:Tabs w0) (hM:Most w0) (hl:b.length≤140737488351232) :
 Calls Tryz.prog 40 #[.pointer (some ⟨g,0,none⟩)] w fun x w'=>∃ vp vi vf vm,KRet w0 w g (gCl b).2 (.agg ((gCl b).1.vals vp vi vf vm)) x w'∧ClOwn w.heap.size w' (gCl b).1 vp vi vf vm:=by
 have hlt:=h.lt
 have hb0':w0.heap.size≤w.heap.size:=h.ext0.size
 have hfit:Fit .u8 b:=h.fit
 have D1:=Lh (ZbX w0 _ g (b,false) 3 (by decide) (h.ext (((Ext.refl w).alloc (.cells #[Value.slice none 0 0,Value.string ⟨#[]⟩,Value.string ⟨#[]⟩,Value.bool false,Value.slice none 0 0,Value.slice none 0 0,Value.slice none 0 0] 27)).alloc (.cells #[Value.slice none 0 0,Value.string ⟨#[]⟩,Value.string ⟨#[]⟩,Value.bool false,Value.slice none 0 0,Value.slice none 0 0,Value.slice none 0 0] 27))))
 have hH:ZcD b=((gB 3 (b,false)).2.1,(gB 3 (b,false)).2.2 || decide ((gB 3 (b,false)).1≠[87,66,1])):=rfl
 have hbf:=(Zkz (n:=3) (s:=(b,false)) hfit).1
 have hlh:(ZcD b).1.length≤b.length:=(Zjq 3 (b,false)).1
 have D2:=Lh (fun W (hW:RK w0 W g (ZcD b))=>ZoH w0 W g _ hW hT (by omega))
 have hlp:(Zb4 (ZcD b)).2.1.length≤(ZcD b).1.length:=by
  unfold Zb4
  split
  ·simp only
   split
   ·exact Nat.le_refl _
   ·simp
  ·exact Nat.le_refl _
 have D3:=Lh (fun W (hW:RK w0 W g (Zb4 (ZcD b)).2)=>Zb1 w0 W g _ 1 hW)
 have hC:gCl b=gTl (Zb4 (ZcD b)).1 (Zb4 (ZcD b)).2:=rfl
 obtain⟨G,hGG⟩:∃ G,gCl b=G:=⟨_,rfl⟩
 rw [hGG] at hC ⊢
 obtain⟨Y,hY⟩:∃ Y,Zb4 (ZcD b)=Y:=⟨_,rfl⟩
 rw [hY] at D2 D3 hC hlp
 obtain⟨X,hX⟩:∃ X,ZcD b=X:=⟨_,rfl⟩
 rw [hX] at D2 hH hlh hlp
 obtain⟨ps,s2⟩:=Y
 simp only at D2 D3 hC hlp
 have hu:gTl ps s2=(⟨ps,decide ((gUp 1 s2).1=1),(gTx (gUp 1 s2).2).1,(gTx (gTx (gUp 1 s2).2).2).1,(gLs 64 gTx (gTx (gTx (gUp 1 s2).2).2).2).1,(gLs 256 gFd (gLs 64 gTx (gTx (gTx (gUp 1 s2).2).2).2).2).1,(gLs 256 gMe (gLs 256 gFd (gLs 64 gTx (gTx (gTx (gUp 1 s2).2).2).2).2).2).1⟩,(gLs 256 gMe (gLs 256 gFd (gLs 64 gTx (gTx (gTx (gUp 1 s2).2).2).2).2).2).2):=rfl
 rw [hu] at hC
 have q1:=ZbA 1 s2
 have q2:=(ZbH (gUp 1 s2).2).1
 have q3:=(ZbH (gTx (gUp 1 s2).2).2).1
 have q4:=Zn8 (k:=64) (fun s=>(ZbH s).1) (gTx (gTx (gUp 1 s2).2).2).2
 have q5:=Zn8 (k:=256) (one:=gFd) (fun s=>by have a:=ZbA 1 s;have b:=(ZbH (gUp 1 s).2).1;have c:=(ZbH (gTx (gUp 1 s).2).2).1;unfold gFd gTy;simp only;omega) (gLs 64 gTx (gTx (gTx (gUp 1 s2).2).2).2).2
 have D4:=Lh (fun W (hW:RK w0 W g (gUp 1 s2).2)=>Zbz w0 W g _ hW)
 have D5:=Lh (fun W (hW:RK w0 W g (gTx (gUp 1 s2).2).2)=>Zbz w0 W g _ hW)
 have D6:=Lh (fun W (hW:RK w0 W g (gTx (gTx (gUp 1 s2).2).2).2)=>Zms w0 W g _ 88 gTx 0 (by decide) 0 rfl 64 rfl hW (hM.ext hW.ext0) (fun args W=>Tryz.call88 args W) (fun s=>(ZbH s).1) (fun W2 s2 h2 _=>Zbz w0 W2 g s2 h2))
 have D7:=Lh (fun W (hW:RK w0 W g (gLs 64 gTx (gTx (gTx (gUp 1 s2).2).2).2).2)=>ZlD w0 W g _ 91 gFd 1 (by decide) 1 rfl 256 rfl hW (hM.ext hW.ext0) (fun args W=>Tryz.call91 args W) (fun s=>by have a:=ZbA 1 s;have b:=(ZbH (gUp 1 s).2).1;have c:=(ZbH (gTx (gUp 1 s).2).2).1;unfold gFd gTy;simp only;omega) (fun W2 s2 h2 hs=>Zl3 w0 W2 g s2 h2 (by omega)))
 have D8:=Lh (fun W (hW:RK w0 W g (gLs 256 gFd (gLs 64 gTx (gTx (gTx (gUp 1 s2).2).2).2).2).2)=>Zmh w0 W g _ 93 gMe 2 (by decide) 2 rfl 256 rfl hW (hM.ext hW.ext0) (fun args W=>Tryz.call93 args W) Ztk (fun W2 s2 h2 hs=>ZjO w0 W2 g s2 h2 hM (by omega)))
 clear q1 q2 q3 q4 q5 hu
 obtain⟨Y8,hY8⟩:∃ X,gLs 256 gMe (gLs 256 gFd (gLs 64 gTx (gTx (gTx (gUp 1 s2).2).2).2).2).2=X:=⟨_,rfl⟩
 rw [hY8] at D8 hC
 obtain⟨Y7,hY7⟩:∃ X,gLs 256 gFd (gLs 64 gTx (gTx (gTx (gUp 1 s2).2).2).2).2=X:=⟨_,rfl⟩
 rw [hY7] at D7 D8 hC
 obtain⟨Y6,hY6⟩:∃ X,gLs 64 gTx (gTx (gTx (gUp 1 s2).2).2).2=X:=⟨_,rfl⟩
 rw [hY6] at D6 D7 hC
 obtain⟨Y5,hY5⟩:∃ X,gTx (gTx (gUp 1 s2).2).2=X:=⟨_,rfl⟩
 rw [hY5] at D5 D6 hC
 obtain⟨Y4,hY4⟩:∃ X,gTx (gUp 1 s2).2=X:=⟨_,rfl⟩
 rw [hY4] at D4 D5 hC
 obtain⟨Y3,hY3⟩:∃ X,gUp 1 s2=X:=⟨_,rfl⟩
 rw [hY3] at D3 D4 hC
 obtain⟨k3,s3⟩:=Y3
 obtain⟨t4,s4⟩:=Y4
 obtain⟨t5,s5⟩:=Y5
 obtain⟨l6,s6⟩:=Y6
 obtain⟨l7,s7⟩:=Y7
 obtain⟨l8,s8⟩:=Y8
 simp only at D3 D4 D5 D6 D7 D8 hC
 obtain⟨b3,hb3⟩:∃ b:Bool,(k3==1)=b:=⟨_,rfl⟩
 have hd3:decide (k3=1)=b3:=by rw [← hb3];by_cases e:k3=1 <;> simp [e]
 rw [hd3] at hC
 have HC:=Lh hC
 obtain⟨Q,hQ⟩:∃ Q,gB 3 (b,false)=Q:=⟨_,rfl⟩
 rw [hQ] at D1 hH hbf
 obtain⟨xb,lb,wb⟩:=Q
 simp only at D1 hH hbf
 have hne:=ZpI hbf
 obtain⟨e0,he0⟩:∃ e,decide (xb=[87,66,1])=e:=⟨_,rfl⟩
 rw [he0] at hne
 have HH:=Lh (show X=(lb,wb || !e0) by rw [hH,← he0];by_cases e:xb=[87,66,1] <;> simp [e])
 clear h hT hM hl hC hGG hX hY hH hlh hlp hY3 hY4 hY5 hY6 hY7 hY8 hd3 hQ hbf he0 hfit
 go_enter Tryz.func40,Tryz.ntmps40
 go_wp2_with fail
 refine D1.out.mono ?_
 rintro x w1 ⟨v1,⟨rfl,h1,g1⟩,r1⟩
 have R1:=((BK.new w #[Value.slice none 0 0,Value.string ⟨#[]⟩,Value.string ⟨#[]⟩,Value.bool false,Value.slice none 0 0,Value.slice none 0 0,Value.slice none 0 0] 27).ext ((Ext.refl _).alloc (.cells #[Value.slice none 0 0,Value.string ⟨#[]⟩,Value.string ⟨#[]⟩,Value.bool false,Value.slice none 0 0,Value.slice none 0 0,Value.slice none 0 0] 27))).kept g1 (by omega)
 have B1:=(show BK ((w.alloc (.cells #[Value.slice none 0 0,Value.string ⟨#[]⟩,Value.string ⟨#[]⟩,Value.bool false,Value.slice none 0 0,Value.slice none 0 0,Value.slice none 0 0] 27)).alloc (.cells #[Value.slice none 0 0,Value.string ⟨#[]⟩,Value.string ⟨#[]⟩,Value.bool false,Value.slice none 0 0,Value.slice none 0 0,Value.slice none 0 0] 27)) (w.heap.size+1) #[Value.slice none 0 0,Value.string ⟨#[]⟩,Value.string ⟨#[]⟩,Value.bool false,Value.slice none 0 0,Value.slice none 0 0,Value.slice none 0 0] 27 by have:=BK.new (w.alloc (.cells #[Value.slice none 0 0,Value.string ⟨#[]⟩,Value.string ⟨#[]⟩,Value.bool false,Value.slice none 0 0,Value.slice none 0 0,Value.slice none 0 0] 27)) #[Value.slice none 0 0,Value.string ⟨#[]⟩,Value.string ⟨#[]⟩,Value.bool false,Value.slice none 0 0,Value.slice none 0 0,Value.slice none 0 0] 27;simpa using this).kept g1 (by omega)
 have M1:Hid (MI 27 #[Value.slice none 0 0,Value.string ⟨#[]⟩,Value.string ⟨#[]⟩,Value.bool false,Value.slice none 0 0,Value.slice none 0 0,Value.slice none 0 0] w0 w w1 g (w.heap.size+1) (lb,wb) #[Value.slice none 0 0,Value.string ⟨#[]⟩,Value.string ⟨#[]⟩,Value.bool false,Value.slice none 0 0,Value.slice none 0 0,Value.slice none 0 0]):=Lh ⟨h1,B1,R1,Zae (ZaB (((Ext.refl w).alloc _).alloc _) (some g)) g1,hlt,by omega,hb0'⟩
 have hcv:=(r1.ext h1.ext0).conv
 obtain⟨A2,c2,-,-,-,d0,d1,e0',e1'⟩:=h1.cells
 obtain⟨_,_,rfl,-⟩:=r1
 simp only at d0 d1
 clear h1 g1 R1 B1 D1
 cases e0
 case false =>
  have hX2:X=(lb,true):=by rw [HH.out];simp
  subst hX2
  have M2:Hid (MI 27 #[Value.slice none 0 0,Value.string ⟨#[]⟩,Value.string ⟨#[]⟩,Value.bool false,Value.slice none 0 0,Value.slice none 0 0,Value.slice none 0 0] w0 w (w1.setCell ⟨g,1,none⟩ (.bool true)) g (w.heap.size+1) (lb,true) #[Value.slice none 0 0,Value.string ⟨#[]⟩,Value.string ⟨#[]⟩,Value.bool false,Value.slice none 0 0,Value.slice none 0 0,Value.slice none 0 0]):=Lh (M1.out.call (M1.out.rk.setBad true) (Zac w1 g 1 (.bool true)))
  go_wp2_with fail
  refine(D2.out _ M2.out.rk).mono ?_
  rintro x wp ⟨vp,⟨rfl,hh,gg⟩,ho⟩
  have MC0:=Lh (M2.out.call hh gg)
  have lt_wp:=MC0.out.bk.lt
  obtain⟨Ap,cp,rfl,-⟩:=ho.slice
  have OP:=Lh (ho.baseF (B':=w.heap.size+2) (by have:=M2.out.bk.lt;omega) (fun _ h=>h))
  obtain⟨np,hnp⟩:∃ n,ps.length=n:=⟨_,rfl⟩
  rw [hnp] at OP ⊢
  clear hh gg ho hnp
  have c0:wp.cell? ⟨w.heap.size+1,0,none⟩=some (Value.slice none 0 0):=MC0.out.bk.cell 0
  have f0:=MC0.out.bk.free 0
  have MS1:Hid (MI 27 #[Value.slice none 0 0,Value.string ⟨#[]⟩,Value.string ⟨#[]⟩,Value.bool false,Value.slice none 0 0,Value.slice none 0 0,Value.slice none 0 0] w0 w (wp.setCell ⟨w.heap.size+1,0,none⟩ (Value.slice Ap np cp)) g (w.heap.size+1) s2 #[Value.slice Ap np cp,Value.string ⟨#[]⟩,Value.string ⟨#[]⟩,Value.bool false,Value.slice none 0 0,Value.slice none 0 0,Value.slice none 0 0]):=Lh (MC0.out.put 0 (Value.slice Ap np cp))
  have O2:=Lh (OP.out.keptU (Zac _ (w.heap.size+1) 0 (Value.slice Ap np cp)) (by omega) (fun _ h=>h))
  clear OP
  go_wp2_with fail
  refine(D3.out _ MS1.out.rk).mono ?_
  rintro x w3 ⟨rfl,hh,gg⟩
  have MC3:=Lh (MS1.out.call hh gg)
  have O4:=Lh (O2.out.keptU gg (by omega) (fun _ h=>h))
  clear O2
  have lt_w3:=MC3.out.bk.lt
  clear hh gg c0 f0
  have c3:w3.cell? ⟨w.heap.size+1,3,none⟩=some (Value.bool false):=MC3.out.bk.cell 3
  have f3:=MC3.out.bk.free 3
  have MS5:Hid (MI 27 #[Value.slice none 0 0,Value.string ⟨#[]⟩,Value.string ⟨#[]⟩,Value.bool false,Value.slice none 0 0,Value.slice none 0 0,Value.slice none 0 0] w0 w (w3.setCell ⟨w.heap.size+1,3,none⟩ (Value.bool b3)) g (w.heap.size+1) s3 #[Value.slice Ap np cp,Value.string ⟨#[]⟩,Value.string ⟨#[]⟩,Value.bool b3,Value.slice none 0 0,Value.slice none 0 0,Value.slice none 0 0]):=Lh (MC3.out.put 3 (Value.bool b3))
  have O6:=Lh (O4.out.keptU (Zac _ (w.heap.size+1) 3 (Value.bool b3)) (by omega) (fun _ h=>h))
  clear O4
  go_wp2_with fail
  refine(D4.out _ MS5.out.rk).mono ?_
  rintro x w4 ⟨rfl,hh,gg⟩
  have MC7:=Lh (MS5.out.call hh gg)
  have O8:=Lh (O6.out.keptU gg (by omega) (fun _ h=>h))
  clear O6
  have lt_w4:=MC7.out.bk.lt
  clear hh gg c3 f3
  go_wp2_with fail
  refine(D5.out _ MC7.out.rk).mono ?_
  rintro x w5 ⟨rfl,hh,gg⟩
  have MC9:=Lh (MC7.out.call hh gg)
  have O10:=Lh (O8.out.keptU gg (by omega) (fun _ h=>h))
  clear O8
  have lt_w5:=MC9.out.bk.lt
  clear hh gg
  have c1:w5.cell? ⟨w.heap.size+1,1,none⟩=some (Value.string ⟨#[]⟩):=MC9.out.bk.cell 1
  have f1:=MC9.out.bk.free 1
  have MS11:Hid (MI 27 #[Value.slice none 0 0,Value.string ⟨#[]⟩,Value.string ⟨#[]⟩,Value.bool false,Value.slice none 0 0,Value.slice none 0 0,Value.slice none 0 0] w0 w (w5.setCell ⟨w.heap.size+1,1,none⟩ (Value.string t4)) g (w.heap.size+1) s5 #[Value.slice Ap np cp,Value.string t4,Value.string ⟨#[]⟩,Value.bool b3,Value.slice none 0 0,Value.slice none 0 0,Value.slice none 0 0]):=Lh (MC9.out.put 1 (Value.string t4))
  have O12:=Lh (O10.out.keptU (Zac _ (w.heap.size+1) 1 (Value.string t4)) (by omega) (fun _ h=>h))
  clear O10
  have c2:w5.cell? ⟨w.heap.size+1,2,none⟩=some (Value.string ⟨#[]⟩):=MC9.out.bk.cell 2
  have f2:=MC9.out.bk.free 2
  have MS13:Hid (MI 27 #[Value.slice none 0 0,Value.string ⟨#[]⟩,Value.string ⟨#[]⟩,Value.bool false,Value.slice none 0 0,Value.slice none 0 0,Value.slice none 0 0] w0 w ((w5.setCell ⟨w.heap.size+1,1,none⟩ (Value.string t4)).setCell ⟨w.heap.size+1,2,none⟩ (Value.string t5)) g (w.heap.size+1) s5 #[Value.slice Ap np cp,Value.string t4,Value.string t5,Value.bool b3,Value.slice none 0 0,Value.slice none 0 0,Value.slice none 0 0]):=Lh (MS11.out.put 2 (Value.string t5))
  have O14:=Lh (O12.out.keptU (Zac _ (w.heap.size+1) 2 (Value.string t5)) (by omega) (fun _ h=>h))
  clear O12
  go_wp2_with fail
  refine(D6.out _ MS13.out.rk).mono ?_
  rintro x w6 ⟨v6,⟨rfl,hh,gg⟩,ho⟩
  have MC15:=Lh (MS13.out.call hh gg)
  have O16:=Lh (O14.out.keptU gg (by omega) (fun _ h=>h))
  clear O14
  have lt_w6:=MC15.out.bk.lt
  obtain⟨A6,c6',rfl,-⟩:=ho.slice
  have OI:=Lh (ho.baseF (B':=w.heap.size+2) (by have:=MS13.out.bk.lt;omega) (fun _ h=>h))
  obtain⟨n6,hn6⟩:∃ n,l6.length=n:=⟨_,rfl⟩
  rw [hn6] at OI ⊢
  clear hh gg ho hn6 c1 f1 c2 f2
  have c4:w6.cell? ⟨w.heap.size+1,4,none⟩=some (Value.slice none 0 0):=MC15.out.bk.cell 4
  have f4:=MC15.out.bk.free 4
  have MS17:Hid (MI 27 #[Value.slice none 0 0,Value.string ⟨#[]⟩,Value.string ⟨#[]⟩,Value.bool false,Value.slice none 0 0,Value.slice none 0 0,Value.slice none 0 0] w0 w (w6.setCell ⟨w.heap.size+1,4,none⟩ (Value.slice A6 n6 c6')) g (w.heap.size+1) s6 #[Value.slice Ap np cp,Value.string t4,Value.string t5,Value.bool b3,Value.slice A6 n6 c6',Value.slice none 0 0,Value.slice none 0 0]):=Lh (MC15.out.put 4 (Value.slice A6 n6 c6'))
  have O18:=Lh (O16.out.keptU (Zac _ (w.heap.size+1) 4 (Value.slice A6 n6 c6')) (by omega) (fun _ h=>h))
  clear O16
  have O19:=Lh (OI.out.keptU (Zac _ (w.heap.size+1) 4 (Value.slice A6 n6 c6')) (by omega) (fun _ h=>h))
  clear OI
  go_wp2_with fail
  refine(D7.out _ MS17.out.rk).mono ?_
  rintro x w7 ⟨v7,⟨rfl,hh,gg⟩,ho⟩
  have MC20:=Lh (MS17.out.call hh gg)
  have O21:=Lh (O18.out.keptU gg (by omega) (fun _ h=>h))
  clear O18
  have O22:=Lh (O19.out.keptU gg (by omega) (fun _ h=>h))
  clear O19
  have lt_w7:=MC20.out.bk.lt
  obtain⟨A7,c7',rfl,-⟩:=ho.slice
  have OF:=Lh (ho.baseF (B':=w.heap.size+2) (by have:=MS17.out.bk.lt;omega) (fun _ h=>h))
  obtain⟨n7,hn7⟩:∃ n,l7.length=n:=⟨_,rfl⟩
  rw [hn7] at OF ⊢
  clear hh gg ho hn7 c4 f4
  have c5:w7.cell? ⟨w.heap.size+1,5,none⟩=some (Value.slice none 0 0):=MC20.out.bk.cell 5
  have f5:=MC20.out.bk.free 5
  have MS23:Hid (MI 27 #[Value.slice none 0 0,Value.string ⟨#[]⟩,Value.string ⟨#[]⟩,Value.bool false,Value.slice none 0 0,Value.slice none 0 0,Value.slice none 0 0] w0 w (w7.setCell ⟨w.heap.size+1,5,none⟩ (Value.slice A7 n7 c7')) g (w.heap.size+1) s7 #[Value.slice Ap np cp,Value.string t4,Value.string t5,Value.bool b3,Value.slice A6 n6 c6',Value.slice A7 n7 c7',Value.slice none 0 0]):=Lh (MC20.out.put 5 (Value.slice A7 n7 c7'))
  have O24:=Lh (O21.out.keptU (Zac _ (w.heap.size+1) 5 (Value.slice A7 n7 c7')) (by omega) (fun _ h=>h))
  clear O21
  have O25:=Lh (O22.out.keptU (Zac _ (w.heap.size+1) 5 (Value.slice A7 n7 c7')) (by omega) (fun _ h=>h))
  clear O22
  have O26:=Lh (OF.out.keptU (Zac _ (w.heap.size+1) 5 (Value.slice A7 n7 c7')) (by omega) (fun _ h=>h))
  clear OF
  go_wp2_with fail
  refine(D8.out _ MS23.out.rk).mono ?_
  rintro x w8 ⟨v8,⟨rfl,hh,gg⟩,ho⟩
  have MC27:=Lh (MS23.out.call hh gg)
  have O28:=Lh (O24.out.keptU gg (by omega) (fun _ h=>h))
  clear O24
  have O29:=Lh (O25.out.keptU gg (by omega) (fun _ h=>h))
  clear O25
  have O30:=Lh (O26.out.keptU gg (by omega) (fun _ h=>h))
  clear O26
  have lt_w8:=MC27.out.bk.lt
  obtain⟨A8,c8',rfl,-⟩:=ho.slice
  have OM:=Lh (ho.base (B':=w.heap.size+2) (by have:=MS23.out.bk.lt;omega))
  obtain⟨n8,hn8⟩:∃ n,l8.length=n:=⟨_,rfl⟩
  rw [hn8] at OM ⊢
  clear hh gg ho hn8 c5 f5
  have c6:w8.cell? ⟨w.heap.size+1,6,none⟩=some (Value.slice none 0 0):=MC27.out.bk.cell 6
  have f6:=MC27.out.bk.free 6
  have MS31:Hid (MI 27 #[Value.slice none 0 0,Value.string ⟨#[]⟩,Value.string ⟨#[]⟩,Value.bool false,Value.slice none 0 0,Value.slice none 0 0,Value.slice none 0 0] w0 w (w8.setCell ⟨w.heap.size+1,6,none⟩ (Value.slice A8 n8 c8')) g (w.heap.size+1) s8 #[Value.slice Ap np cp,Value.string t4,Value.string t5,Value.bool b3,Value.slice A6 n6 c6',Value.slice A7 n7 c7',Value.slice A8 n8 c8']):=Lh (MC27.out.put 6 (Value.slice A8 n8 c8'))
  have O32:=Lh (O28.out.keptU (Zac _ (w.heap.size+1) 6 (Value.slice A8 n8 c8')) (by omega) (fun _ h=>h))
  clear O28
  have O33:=Lh (O29.out.keptU (Zac _ (w.heap.size+1) 6 (Value.slice A8 n8 c8')) (by omega) (fun _ h=>h))
  clear O29
  have O34:=Lh (O30.out.keptU (Zac _ (w.heap.size+1) 6 (Value.slice A8 n8 c8')) (by omega) (fun _ h=>h))
  clear O30
  have O35:=Lh (OM.out.keptU (Zac _ (w.heap.size+1) 6 (Value.slice A8 n8 c8')) (by omega))
  clear OM
  clear c6
  obtain⟨y0,y1,y2,y3,y4,y5,y6⟩:=ZaC MC27.out.bk
  obtain⟨z0,z1,z2,z3,z4,z5,z6⟩:=ZaC MC27.out.rz
  have g0:=MC27.out.rz.free 0
  have g1:=MC27.out.rz.free 1
  have g2:=MC27.out.rz.free 2
  have g3:=MC27.out.rz.free 3
  have g4:=MC27.out.rz.free 4
  have g5:=MC27.out.rz.free 5
  have g6:=MC27.out.rz.free 6
  go_wp2
  refine bodyPost_ret (v:=.agg #[Value.slice Ap np cp,Value.string t4,Value.string t5,Value.bool b3,Value.slice A6 n6 c6',Value.slice A7 n7 c7',Value.slice A8 n8 c8'])
   (by simp [results,Tryz.results40,go_sem,z0,z1,z2,z3,z4,z5,z6];try first | exact⟨rfl,rfl⟩ | rfl) rfl ?_
  rw [HC.out]
  exact⟨_,_,_,_,Zg8 (x:=⟨ps,b3,t4,t5,l6,l7,l8⟩) (vp:=Value.slice Ap np cp) (vi:=Value.slice A6 n6 c6') (vf:=Value.slice A7 n7 c7') (vm:=Value.slice A8 n8 c8') (B:=w.heap.size+2) MS31.out.rkg ⟨O32.out,O33.out,O34.out,O35.out⟩ (by omega) _ _ _ _ _ _ _⟩
 case true =>
  have hX2:X=(lb,wb):=by rw [HH.out];simp
  subst hX2
  have M2:=M1
  go_wp2_with fail
  refine(D2.out _ M2.out.rk).mono ?_
  rintro x wp ⟨vp,⟨rfl,hh,gg⟩,ho⟩
  have MC0:=Lh (M2.out.call hh gg)
  have lt_wp:=MC0.out.bk.lt
  obtain⟨Ap,cp,rfl,-⟩:=ho.slice
  have OP:=Lh (ho.baseF (B':=w.heap.size+2) (by have:=M2.out.bk.lt;omega) (fun _ h=>h))
  obtain⟨np,hnp⟩:∃ n,ps.length=n:=⟨_,rfl⟩
  rw [hnp] at OP ⊢
  clear hh gg ho hnp
  have c0:wp.cell? ⟨w.heap.size+1,0,none⟩=some (Value.slice none 0 0):=MC0.out.bk.cell 0
  have f0:=MC0.out.bk.free 0
  have MS1:Hid (MI 27 #[Value.slice none 0 0,Value.string ⟨#[]⟩,Value.string ⟨#[]⟩,Value.bool false,Value.slice none 0 0,Value.slice none 0 0,Value.slice none 0 0] w0 w (wp.setCell ⟨w.heap.size+1,0,none⟩ (Value.slice Ap np cp)) g (w.heap.size+1) s2 #[Value.slice Ap np cp,Value.string ⟨#[]⟩,Value.string ⟨#[]⟩,Value.bool false,Value.slice none 0 0,Value.slice none 0 0,Value.slice none 0 0]):=Lh (MC0.out.put 0 (Value.slice Ap np cp))
  have O2:=Lh (OP.out.keptU (Zac _ (w.heap.size+1) 0 (Value.slice Ap np cp)) (by omega) (fun _ h=>h))
  clear OP
  go_wp2_with fail
  refine(D3.out _ MS1.out.rk).mono ?_
  rintro x w3 ⟨rfl,hh,gg⟩
  have MC3:=Lh (MS1.out.call hh gg)
  have O4:=Lh (O2.out.keptU gg (by omega) (fun _ h=>h))
  clear O2
  have lt_w3:=MC3.out.bk.lt
  clear hh gg c0 f0
  have c3:w3.cell? ⟨w.heap.size+1,3,none⟩=some (Value.bool false):=MC3.out.bk.cell 3
  have f3:=MC3.out.bk.free 3
  have MS5:Hid (MI 27 #[Value.slice none 0 0,Value.string ⟨#[]⟩,Value.string ⟨#[]⟩,Value.bool false,Value.slice none 0 0,Value.slice none 0 0,Value.slice none 0 0] w0 w (w3.setCell ⟨w.heap.size+1,3,none⟩ (Value.bool b3)) g (w.heap.size+1) s3 #[Value.slice Ap np cp,Value.string ⟨#[]⟩,Value.string ⟨#[]⟩,Value.bool b3,Value.slice none 0 0,Value.slice none 0 0,Value.slice none 0 0]):=Lh (MC3.out.put 3 (Value.bool b3))
  have O6:=Lh (O4.out.keptU (Zac _ (w.heap.size+1) 3 (Value.bool b3)) (by omega) (fun _ h=>h))
  clear O4
  go_wp2_with fail
  refine(D4.out _ MS5.out.rk).mono ?_
  rintro x w4 ⟨rfl,hh,gg⟩
  have MC7:=Lh (MS5.out.call hh gg)
  have O8:=Lh (O6.out.keptU gg (by omega) (fun _ h=>h))
  clear O6
  have lt_w4:=MC7.out.bk.lt
  clear hh gg c3 f3
  go_wp2_with fail
  refine(D5.out _ MC7.out.rk).mono ?_
  rintro x w5 ⟨rfl,hh,gg⟩
  have MC9:=Lh (MC7.out.call hh gg)
  have O10:=Lh (O8.out.keptU gg (by omega) (fun _ h=>h))
  clear O8
  have lt_w5:=MC9.out.bk.lt
  clear hh gg
  have c1:w5.cell? ⟨w.heap.size+1,1,none⟩=some (Value.string ⟨#[]⟩):=MC9.out.bk.cell 1
  have f1:=MC9.out.bk.free 1
  have MS11:Hid (MI 27 #[Value.slice none 0 0,Value.string ⟨#[]⟩,Value.string ⟨#[]⟩,Value.bool false,Value.slice none 0 0,Value.slice none 0 0,Value.slice none 0 0] w0 w (w5.setCell ⟨w.heap.size+1,1,none⟩ (Value.string t4)) g (w.heap.size+1) s5 #[Value.slice Ap np cp,Value.string t4,Value.string ⟨#[]⟩,Value.bool b3,Value.slice none 0 0,Value.slice none 0 0,Value.slice none 0 0]):=Lh (MC9.out.put 1 (Value.string t4))
  have O12:=Lh (O10.out.keptU (Zac _ (w.heap.size+1) 1 (Value.string t4)) (by omega) (fun _ h=>h))
  clear O10
  have c2:w5.cell? ⟨w.heap.size+1,2,none⟩=some (Value.string ⟨#[]⟩):=MC9.out.bk.cell 2
  have f2:=MC9.out.bk.free 2
  have MS13:Hid (MI 27 #[Value.slice none 0 0,Value.string ⟨#[]⟩,Value.string ⟨#[]⟩,Value.bool false,Value.slice none 0 0,Value.slice none 0 0,Value.slice none 0 0] w0 w ((w5.setCell ⟨w.heap.size+1,1,none⟩ (Value.string t4)).setCell ⟨w.heap.size+1,2,none⟩ (Value.string t5)) g (w.heap.size+1) s5 #[Value.slice Ap np cp,Value.string t4,Value.string t5,Value.bool b3,Value.slice none 0 0,Value.slice none 0 0,Value.slice none 0 0]):=Lh (MS11.out.put 2 (Value.string t5))
  have O14:=Lh (O12.out.keptU (Zac _ (w.heap.size+1) 2 (Value.string t5)) (by omega) (fun _ h=>h))
  clear O12
  go_wp2_with fail
  refine(D6.out _ MS13.out.rk).mono ?_
  rintro x w6 ⟨v6,⟨rfl,hh,gg⟩,ho⟩
  have MC15:=Lh (MS13.out.call hh gg)
  have O16:=Lh (O14.out.keptU gg (by omega) (fun _ h=>h))
  clear O14
  have lt_w6:=MC15.out.bk.lt
  obtain⟨A6,c6',rfl,-⟩:=ho.slice
  have OI:=Lh (ho.baseF (B':=w.heap.size+2) (by have:=MS13.out.bk.lt;omega) (fun _ h=>h))
  obtain⟨n6,hn6⟩:∃ n,l6.length=n:=⟨_,rfl⟩
  rw [hn6] at OI ⊢
  clear hh gg ho hn6 c1 f1 c2 f2
  have c4:w6.cell? ⟨w.heap.size+1,4,none⟩=some (Value.slice none 0 0):=MC15.out.bk.cell 4
  have f4:=MC15.out.bk.free 4
  have MS17:Hid (MI 27 #[Value.slice none 0 0,Value.string ⟨#[]⟩,Value.string ⟨#[]⟩,Value.bool false,Value.slice none 0 0,Value.slice none 0 0,Value.slice none 0 0] w0 w (w6.setCell ⟨w.heap.size+1,4,none⟩ (Value.slice A6 n6 c6')) g (w.heap.size+1) s6 #[Value.slice Ap np cp,Value.string t4,Value.string t5,Value.bool b3,Value.slice A6 n6 c6',Value.slice none 0 0,Value.slice none 0 0]):=Lh (MC15.out.put 4 (Value.slice A6 n6 c6'))
  have O18:=Lh (O16.out.keptU (Zac _ (w.heap.size+1) 4 (Value.slice A6 n6 c6')) (by omega) (fun _ h=>h))
  clear O16
  have O19:=Lh (OI.out.keptU (Zac _ (w.heap.size+1) 4 (Value.slice A6 n6 c6')) (by omega) (fun _ h=>h))
  clear OI
  go_wp2_with fail
  refine(D7.out _ MS17.out.rk).mono ?_
  rintro x w7 ⟨v7,⟨rfl,hh,gg⟩,ho⟩
  have MC20:=Lh (MS17.out.call hh gg)
  have O21:=Lh (O18.out.keptU gg (by omega) (fun _ h=>h))
  clear O18
  have O22:=Lh (O19.out.keptU gg (by omega) (fun _ h=>h))
  clear O19
  have lt_w7:=MC20.out.bk.lt
  obtain⟨A7,c7',rfl,-⟩:=ho.slice
  have OF:=Lh (ho.baseF (B':=w.heap.size+2) (by have:=MS17.out.bk.lt;omega) (fun _ h=>h))
  obtain⟨n7,hn7⟩:∃ n,l7.length=n:=⟨_,rfl⟩
  rw [hn7] at OF ⊢
  clear hh gg ho hn7 c4 f4
  have c5:w7.cell? ⟨w.heap.size+1,5,none⟩=some (Value.slice none 0 0):=MC20.out.bk.cell 5
  have f5:=MC20.out.bk.free 5
  have MS23:Hid (MI 27 #[Value.slice none 0 0,Value.string ⟨#[]⟩,Value.string ⟨#[]⟩,Value.bool false,Value.slice none 0 0,Value.slice none 0 0,Value.slice none 0 0] w0 w (w7.setCell ⟨w.heap.size+1,5,none⟩ (Value.slice A7 n7 c7')) g (w.heap.size+1) s7 #[Value.slice Ap np cp,Value.string t4,Value.string t5,Value.bool b3,Value.slice A6 n6 c6',Value.slice A7 n7 c7',Value.slice none 0 0]):=Lh (MC20.out.put 5 (Value.slice A7 n7 c7'))
  have O24:=Lh (O21.out.keptU (Zac _ (w.heap.size+1) 5 (Value.slice A7 n7 c7')) (by omega) (fun _ h=>h))
  clear O21
  have O25:=Lh (O22.out.keptU (Zac _ (w.heap.size+1) 5 (Value.slice A7 n7 c7')) (by omega) (fun _ h=>h))
  clear O22
  have O26:=Lh (OF.out.keptU (Zac _ (w.heap.size+1) 5 (Value.slice A7 n7 c7')) (by omega) (fun _ h=>h))
  clear OF
  go_wp2_with fail
  refine(D8.out _ MS23.out.rk).mono ?_
  rintro x w8 ⟨v8,⟨rfl,hh,gg⟩,ho⟩
  have MC27:=Lh (MS23.out.call hh gg)
  have O28:=Lh (O24.out.keptU gg (by omega) (fun _ h=>h))
  clear O24
  have O29:=Lh (O25.out.keptU gg (by omega) (fun _ h=>h))
  clear O25
  have O30:=Lh (O26.out.keptU gg (by omega) (fun _ h=>h))
  clear O26
  have lt_w8:=MC27.out.bk.lt
  obtain⟨A8,c8',rfl,-⟩:=ho.slice
  have OM:=Lh (ho.base (B':=w.heap.size+2) (by have:=MS23.out.bk.lt;omega))
  obtain⟨n8,hn8⟩:∃ n,l8.length=n:=⟨_,rfl⟩
  rw [hn8] at OM ⊢
  clear hh gg ho hn8 c5 f5
  have c6:w8.cell? ⟨w.heap.size+1,6,none⟩=some (Value.slice none 0 0):=MC27.out.bk.cell 6
  have f6:=MC27.out.bk.free 6
  have MS31:Hid (MI 27 #[Value.slice none 0 0,Value.string ⟨#[]⟩,Value.string ⟨#[]⟩,Value.bool false,Value.slice none 0 0,Value.slice none 0 0,Value.slice none 0 0] w0 w (w8.setCell ⟨w.heap.size+1,6,none⟩ (Value.slice A8 n8 c8')) g (w.heap.size+1) s8 #[Value.slice Ap np cp,Value.string t4,Value.string t5,Value.bool b3,Value.slice A6 n6 c6',Value.slice A7 n7 c7',Value.slice A8 n8 c8']):=Lh (MC27.out.put 6 (Value.slice A8 n8 c8'))
  have O32:=Lh (O28.out.keptU (Zac _ (w.heap.size+1) 6 (Value.slice A8 n8 c8')) (by omega) (fun _ h=>h))
  clear O28
  have O33:=Lh (O29.out.keptU (Zac _ (w.heap.size+1) 6 (Value.slice A8 n8 c8')) (by omega) (fun _ h=>h))
  clear O29
  have O34:=Lh (O30.out.keptU (Zac _ (w.heap.size+1) 6 (Value.slice A8 n8 c8')) (by omega) (fun _ h=>h))
  clear O30
  have O35:=Lh (OM.out.keptU (Zac _ (w.heap.size+1) 6 (Value.slice A8 n8 c8')) (by omega))
  clear OM
  clear c6
  obtain⟨y0,y1,y2,y3,y4,y5,y6⟩:=ZaC MC27.out.bk
  obtain⟨z0,z1,z2,z3,z4,z5,z6⟩:=ZaC MC27.out.rz
  have g0:=MC27.out.rz.free 0
  have g1:=MC27.out.rz.free 1
  have g2:=MC27.out.rz.free 2
  have g3:=MC27.out.rz.free 3
  have g4:=MC27.out.rz.free 4
  have g5:=MC27.out.rz.free 5
  have g6:=MC27.out.rz.free 6
  go_wp2
  refine bodyPost_ret (v:=.agg #[Value.slice Ap np cp,Value.string t4,Value.string t5,Value.bool b3,Value.slice A6 n6 c6',Value.slice A7 n7 c7',Value.slice A8 n8 c8'])
   (by simp [results,Tryz.results40,go_sem,z0,z1,z2,z3,z4,z5,z6];try first | exact⟨rfl,rfl⟩ | rfl) rfl ?_
  rw [HC.out]
  exact⟨_,_,_,_,Zg8 (x:=⟨ps,b3,t4,t5,l6,l7,l8⟩) (vp:=Value.slice Ap np cp) (vi:=Value.slice A6 n6 c6') (vf:=Value.slice A7 n7 c7') (vm:=Value.slice A8 n8 c8') (B:=w.heap.size+2) MS31.out.rkg ⟨O32.out,O33.out,O34.out,O35.out⟩ (by omega) _ _ _ _ _ _ _⟩
end Go.Proofs.YtclamhhgldkhnaaGreatDoor
