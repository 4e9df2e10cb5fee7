/- The document's Copy of classes, walked. (gen_clcp.py) -/
import Derived.Test.YtclamhhgldkhnaaGreatDoorZwAC
import Derived.Test.YtclamhhgldkhnaaGreatDoorZwAL
import Derived.Test.YtclamhhgldkhnaaGreatDoorZwA
import Derived.Test.YtclamhhgldkhnaaGreatDoorZwAE
namespace Go.Proofs.YtclamhhgldkhnaaGreatDoor
open Go.RowKit
set_option linter.unusedVariables false
set_option maxHeartbeats 16000000
theorem Ztu:(Tryz.prog.info? 49).map (fun i=>(i.zero,i.size,i.bytes))=some (some (.agg #[.int .i64 0,.string ⟨#[]⟩,.int .i64 0,.int .i64 0,.int .i64 0,.int .i64 0]),ShC.n,56):=by kernel_rfl
theorem ZsD:(Tryz.prog.info? 41).map (fun i=>(i.zero,i.size,i.bytes))=some (some (.agg #[.int .i64 0,.string ⟨#[]⟩]),ShT.n,24):=by kernel_rfl
theorem Shp.Own.setT {α:Type} {S:Shp α} {B g:Nat} {W:World} {v:Value} {l:List α} {cs:Array Value} {T:TypeId} (h:S.Own B W v l) (hk:BK W g cs T) (hT:T≠S.T) (j:Nat) (u:Value) (hf:∀ x,S.nestO B W x→S.nestO B (W.setCell ⟨g,j,none⟩ u) x):S.Own B (W.setCell ⟨g,j,none⟩ u) v l :=
 h.kept (Zac W g j u) (fun k hk' e=>by injection e with e;subst e;exact h.ne hk hT hk') (fun x _ hx=>hf x hx)
theorem Own.setT {B g:Nat} {W:World} {v:Value} {l:List Int} {cs:Array Value} {T:TypeId} (h:Own B W 5 .u8 v l) (hk:BK W g cs T) (hT:T≠5) (j:Nat) (u:Value):Own B (W.setCell ⟨g,j,none⟩ u) 5 .u8 v l :=
 h.kept (Zac W g j u) (fun k hk' e=>by injection e with e;subst e;exact Zau h hk hT hk')
theorem NestMO.setM {B g:Nat} {W:World} {x:MeV} {cs:Array Value} (h:NestMO B W x) (hk:BK W g cs 47) (j:Nat) (u:Value):NestMO B (W.setCell ⟨g,j,none⟩ u) x :=
 ⟨h.1.setT hk (by decide) j u (fun _ h=>h),h.2.1.setT hk (by decide) j u,h.2.2.setT hk (by decide) j u (fun _ h=>h)⟩
theorem OwnM.setM {B g:Nat} {W:World} {v:Value} {l:List Me} {cs:Array Value} (h:OwnM B W v l) (hk:BK W g cs 47) (hne:v.ownBlock≠some g) (j:Nat) (u:Value):OwnM B (W.setCell ⟨g,j,none⟩ u) v l:=by
 obtain⟨es,e,h⟩:=h
 exact⟨es,e,h.kept (Zac W g j u) (fun k hk' e=>by injection e with e;subst e;exact hne hk') (fun x _ hx=>hx.setM hk j u)⟩
theorem Shp.Own.apart {α β:Type} {S:Shp α} {S':Shp β} {B B':Nat} {W:World} {v v':Value} {l:List α} {l':List β} (h:S.Own B W v l) (h':S'.Own B' W v' l') (hT:S.T≠S'.T):∀ g,v.ownBlock=some g→v'.ownBlock≠some g:=fun g hg hg'=>by
 obtain⟨c,z,e⟩:=h.typed g hg
 obtain⟨c',z',e'⟩:=h'.typed g hg'
 rw [e] at e'
 injection e' with e'
 injection e' with _ e' _
 exact hT e'
theorem BK.keptO {W W':World} {g:Nat} {cs:Array Value} {T:TypeId} {row:Option Nat} (h:BK W g cs T) (hg:W.grownBy W' row) (hne:row≠some g):BK W' g cs T:=(hg.block g h.lt hne.symm).trans h
theorem OwnM.setU {B g:Nat} {W:World} {v:Value} {l:List Me} (h:OwnM B W v l) (hlt:g<B) (j:Nat) (u:Value):OwnM B (W.setCell ⟨g,j,none⟩ u) v l:=h.keptU (Zac W g j u) hlt
set_option maxRecDepth 100000 in
theorem Zht (c:Cl) (vp vi vf vm:Value) (w:World) (h:ClAt w c vp vi vf vm) (hz:ClSize c) :
 Calls Tryz.prog 6 #[.agg (c.vals vp vi vf vm)] w fun e w'=>∃ vp' vi' vf' vm',e=.returned (.agg (c.vals vp' vi' vf' vm'))∧ClOwn w.heap.size w' c vp' vi' vf' vm'∧Ext w w':=by
 have HP:=Lh h.1
 have HS:=Lh h.2.1
 have HF:=Lh h.2.2.1
 have HM:=Lh h.2.2.2
 have HZ:=Lh hz.each
 have z1:=hz.pool
 have z2:=hz.ifs
 have z3:=hz.fds
 have z4:=hz.mts
 obtain⟨Ap,Akp,rfl,-⟩:=h.1.cut
 obtain⟨Ai,Aki,rfl,-⟩:=h.2.1.cut
 obtain⟨Af,Akf,rfl,-⟩:=h.2.2.1.cut
 obtain⟨Am,Akm,rfl,-⟩:=h.2.2.2.cut
 have X0:=Lh ((((Ext.refl w).alloc (.cells #[.slice Ap c.pool.length Akp,.string c.nm,.string c.sup,.bool c.inf,.slice Ai c.ifs.length Aki,.slice Af c.fds.length Akf,.slice Am c.mts.length Akm] 27)).alloc (.cells #[.slice none 0 0,.string ⟨#[]⟩,.string ⟨#[]⟩,.bool false,.slice none 0 0,.slice none 0 0,.slice none 0 0] 27)).alloc (.cells #[.slice Ap c.pool.length Akp,.string c.nm,.string c.sup,.bool c.inf,.slice Ai c.ifs.length Aki,.slice Af c.fds.length Akf,.slice Am c.mts.length Akm] 27))
 obtain⟨W0,hW0⟩:∃ W0,W0=(((w.alloc (.cells #[.slice Ap c.pool.length Akp,.string c.nm,.string c.sup,.bool c.inf,.slice Ai c.ifs.length Aki,.slice Af c.fds.length Akf,.slice Am c.mts.length Akm] 27)).alloc (.cells #[.slice none 0 0,.string ⟨#[]⟩,.string ⟨#[]⟩,.bool false,.slice none 0 0,.slice none 0 0,.slice none 0 0] 27)).alloc (.cells #[.slice Ap c.pool.length Akp,.string c.nm,.string c.sup,.bool c.inf,.slice Ai c.ifs.length Aki,.slice Af c.fds.length Akf,.slice Am c.mts.length Akm] 27)):=⟨_,rfl⟩
 have KC0:BK W0 w.heap.size #[.slice Ap c.pool.length Akp,.string c.nm,.string c.sup,.bool c.inf,.slice Ai c.ifs.length Aki,.slice Af c.fds.length Akf,.slice Am c.mts.length Akm] 27:=by rw [hW0];exact((BK.new w _ _).ext ((Ext.refl _).alloc _)).ext ((Ext.refl _).alloc _)
 have KR0:BK W0 (w.heap.size+1) #[.slice none 0 0,.string ⟨#[]⟩,.string ⟨#[]⟩,.bool false,.slice none 0 0,.slice none 0 0,.slice none 0 0] 27:=by rw [hW0];have:=BK.new (w.alloc (.cells #[.slice Ap c.pool.length Akp,.string c.nm,.string c.sup,.bool c.inf,.slice Ai c.ifs.length Aki,.slice Af c.fds.length Akf,.slice Am c.mts.length Akm] 27)) #[.slice none 0 0,.string ⟨#[]⟩,.string ⟨#[]⟩,.bool false,.slice none 0 0,.slice none 0 0,.slice none 0 0] 27;exact(show BK _ (w.heap.size+1) _ _ by simpa [BK] using this).ext ((Ext.refl _).alloc _)
 have KO0:BK W0 (w.heap.size+1+1) #[.slice Ap c.pool.length Akp,.string c.nm,.string c.sup,.bool c.inf,.slice Ai c.ifs.length Aki,.slice Af c.fds.length Akf,.slice Am c.mts.length Akm] 27:=by rw [hW0];have:=BK.new ((w.alloc (.cells #[.slice Ap c.pool.length Akp,.string c.nm,.string c.sup,.bool c.inf,.slice Ai c.ifs.length Aki,.slice Af c.fds.length Akf,.slice Am c.mts.length Akm] 27)).alloc (.cells #[.slice none 0 0,.string ⟨#[]⟩,.string ⟨#[]⟩,.bool false,.slice none 0 0,.slice none 0 0,.slice none 0 0] 27)) #[.slice Ap c.pool.length Akp,.string c.nm,.string c.sup,.bool c.inf,.slice Ai c.ifs.length Aki,.slice Af c.fds.length Akf,.slice Am c.mts.length Akm] 27;simpa [BK] using this
 have hs0:W0.heap.size=w.heap.size+3:=by rw [hW0];simp
 have HX0:=Lh (show Ext w W0 by rw [hW0];exact X0.out)
 have HKC0:=Lh KC0
 have HKR0:=Lh KR0
 have HKO0:=Lh KO0
 clear h hz X0 KC0 KR0 KO0
 unfold Cl.vals
 go_enter Tryz.func6,Tryz.ntmps6
 go_wp2_with (first
  | (
   at_builtin;go_loud (refine Shp.wpList_app ShC _ rfl _ _ (w.heap.size+3) 22 _ 56 rfl Tryz.underlying22 Ztu rfl (by omega) (.slice none 0 0) [] rfl (Shp.Own.nil _ _ _) (.slice Ap c.pool.length Akp) c.pool rfl (HP.out.ext ((((Ext.refl w).alloc _).alloc _).alloc _)) (fun _ _=>trivial) (by simp;omega) (by simp) ?_);intro u1 w1 o1 g1 _;rw [← hW0] at g1
   rw [List.nil_append] at o1
   have x1:Ext W0 w1:=(Ext.refl W0).grown g1 (fun g h=>by cases h)
   obtain⟨U1,C1,rfl,-⟩:=o1.slice
   have O1:=Lh o1
   have KC1:=Lh (HKC0.out.ext x1)
   have KR1:=Lh (HKR0.out.ext x1)
   have KO1:=Lh (HKO0.out.ext x1)
   have X1:=Lh (HX0.out.trans x1)
   have s1:w.heap.size+3≤w1.heap.size:=by have:=x1.size;omega
   clear x1 o1 g1 hW0
   have q4:w1.cell? ⟨w.heap.size,4,none⟩=some (.slice Ai c.ifs.length Aki):=KC1.out.cell 4
   have o0:w1.cell? ⟨w.heap.size+1+1,0,none⟩=some (.slice Ap c.pool.length Akp):=KO1.out.cell 0
   have f0:=KO1.out.free)
  | (
   at_builtin;go_loud (refine Shp.wpList_app ShS _ rfl _ _ (w.heap.size+3) 23 _ 16 rfl Tryz.underlying23 ZqJ rfl (by omega) (.slice none 0 0) [] rfl (Shp.Own.nil _ _ _) (.slice Ai c.ifs.length Aki) c.ifs rfl (HS.out.ext (X1.out.set_ (p:=⟨w.heap.size+1+1,0,none⟩) (by show _≤w.heap.size+1+1;omega) (.slice U1 c.pool.length C1))) (fun _ _=>trivial) (by simp;omega) (by simp;omega) ?_);intro u2 w2 o2 g2 _
   rw [List.nil_append] at o2
   have x2:Ext (w1.setCell ⟨w.heap.size+1+1,0,none⟩ (.slice U1 c.pool.length C1)) w2:=(Ext.refl _).grown g2 (fun g h=>by cases h)
   obtain⟨U2,C2,rfl,-⟩:=o2.slice
   have O2:=Lh o2
   have P2:=Lh ((O1.out.keptU (Zac w1 (w.heap.size+1+1) 0 (.slice U1 c.pool.length C1)) (by omega) (fun _ h=>h)).ext x2)
   have KC2:=Lh ((KC1.out.other (p:=⟨w.heap.size+1+1,0,none⟩) (by show ¬ w.heap.size+1+1=_;omega) (.slice U1 c.pool.length C1)).ext x2)
   have KR2:=Lh ((KR1.out.other (p:=⟨w.heap.size+1+1,0,none⟩) (by show ¬ w.heap.size+1+1=_;omega) (.slice U1 c.pool.length C1)).ext x2)
   have KO2:Hid (BK w2 (w.heap.size+1+1) #[.slice U1 c.pool.length C1,.string c.nm,.string c.sup,.bool c.inf,.slice Ai c.ifs.length Aki,.slice Af c.fds.length Akf,.slice Am c.mts.length Akm] 27):=Lh ((KO1.out.put 0 (.slice U1 c.pool.length C1)).ext x2)
   have X2:=Lh ((X1.out.set_ (p:=⟨w.heap.size+1+1,0,none⟩) (by show _≤w.heap.size+1+1;omega) (.slice U1 c.pool.length C1)).trans x2)
   have s2:w.heap.size+3≤w2.heap.size:=by have:=x2.size;simp at this;omega
   clear x2 o2 g2 f0 q4 o0
   have q5:w2.cell? ⟨w.heap.size,5,none⟩=some (.slice Af c.fds.length Akf):=KC2.out.cell 5
   have o4:w2.cell? ⟨w.heap.size+1+1,4,none⟩=some (.slice Ai c.ifs.length Aki):=KO2.out.cell 4
   have f0:=KO2.out.free)
  | (
   at_builtin;go_loud (refine Shp.wpList_app ShF _ rfl _ _ (w.heap.size+3) 24 _ 48 rfl Tryz.underlying24 ZqO rfl (by omega) (.slice none 0 0) [] rfl (Shp.Own.nil _ _ _) (.slice Af c.fds.length Akf) c.fds rfl (HF.out.ext (X2.out.set_ (p:=⟨w.heap.size+1+1,4,none⟩) (by show _≤w.heap.size+1+1;omega) (.slice U2 c.ifs.length C2))) (fun _ _=>trivial) (by simp;omega) (by simp;omega) ?_);intro u3 w3 o3 g3 _
   rw [List.nil_append] at o3
   have x3:Ext (w2.setCell ⟨w.heap.size+1+1,4,none⟩ (.slice U2 c.ifs.length C2)) w3:=(Ext.refl _).grown g3 (fun g h=>by cases h)
   obtain⟨U3,C3,rfl,-⟩:=o3.slice
   have O3:=Lh o3
   have P3:=Lh ((P2.out.keptU (Zac w2 (w.heap.size+1+1) 4 (.slice U2 c.ifs.length C2)) (by omega) (fun _ h=>h)).ext x3)
   have Q3:=Lh ((O2.out.keptU (Zac w2 (w.heap.size+1+1) 4 (.slice U2 c.ifs.length C2)) (by omega) (fun _ h=>h)).ext x3)
   have KC3:=Lh ((KC2.out.other (p:=⟨w.heap.size+1+1,4,none⟩) (by show ¬ w.heap.size+1+1=_;omega) (.slice U2 c.ifs.length C2)).ext x3)
   have KR3:=Lh ((KR2.out.other (p:=⟨w.heap.size+1+1,4,none⟩) (by show ¬ w.heap.size+1+1=_;omega) (.slice U2 c.ifs.length C2)).ext x3)
   have KO3:Hid (BK w3 (w.heap.size+1+1) #[.slice U1 c.pool.length C1,.string c.nm,.string c.sup,.bool c.inf,.slice U2 c.ifs.length C2,.slice Af c.fds.length Akf,.slice Am c.mts.length Akm] 27):=Lh ((KO2.out.put 4 (.slice U2 c.ifs.length C2)).ext x3)
   have X3:=Lh ((X2.out.set_ (p:=⟨w.heap.size+1+1,4,none⟩) (by show _≤w.heap.size+1+1;omega) (.slice U2 c.ifs.length C2)).trans x3)
   have s3:w.heap.size+3≤w3.heap.size:=by have:=x3.size;simp at this;omega
   clear x3 o3 g3 f0 q5 o4
   have o5:w3.cell? ⟨w.heap.size+1+1,5,none⟩=some (.slice Af c.fds.length Akf):=KO3.out.cell 5
   have o6:w3.cell? ⟨w.heap.size+1+1,6,none⟩=some (.slice Am c.mts.length Akm):=KO3.out.cell 6
   have f0:=KO3.out.free))
 obtain⟨nm,hnm⟩:∃ n,c.mts.length=n:=⟨_,rfl⟩
 have Hnm:=Lh hnm
 have KO4:=Lh (show BK ((w3.setCell ⟨w.heap.size+1+1,5,none⟩ (.slice U3 c.fds.length C3)).setCell ⟨w.heap.size+1+1,6,none⟩ (.slice none 0 0)) (w.heap.size+1+1) #[.slice U1 c.pool.length C1,.string c.nm,.string c.sup,.bool c.inf,.slice U2 c.ifs.length C2,.slice U3 c.fds.length C3,.slice none 0 0] 27 from(KO3.out.put 5 (.slice U3 c.fds.length C3)).put 6 (.slice none 0 0))
 have KC4:=Lh ((KC3.out.other (p:=⟨w.heap.size+1+1,5,none⟩) (by show ¬ w.heap.size+1+1=_;omega) (.slice U3 c.fds.length C3)).other (p:=⟨w.heap.size+1+1,6,none⟩) (by show ¬ w.heap.size+1+1=_;omega) (.slice none 0 0))
 have KR4:=Lh ((KR3.out.other (p:=⟨w.heap.size+1+1,5,none⟩) (by show ¬ w.heap.size+1+1=_;omega) (.slice U3 c.fds.length C3)).other (p:=⟨w.heap.size+1+1,6,none⟩) (by show ¬ w.heap.size+1+1=_;omega) (.slice none 0 0))
 have P4:=Lh ((P3.out.keptU (Zac w3 (w.heap.size+1+1) 5 (.slice U3 c.fds.length C3)) (by omega) (fun _ h=>h)).keptU (Zac _ (w.heap.size+1+1) 6 (.slice none 0 0)) (by omega) (fun _ h=>h))
 have Q4:=Lh ((Q3.out.keptU (Zac w3 (w.heap.size+1+1) 5 (.slice U3 c.fds.length C3)) (by omega) (fun _ h=>h)).keptU (Zac _ (w.heap.size+1+1) 6 (.slice none 0 0)) (by omega) (fun _ h=>h))
 have R4:=Lh ((O3.out.keptU (Zac w3 (w.heap.size+1+1) 5 (.slice U3 c.fds.length C3)) (by omega) (fun _ h=>h)).keptU (Zac _ (w.heap.size+1+1) 6 (.slice none 0 0)) (by omega) (fun _ h=>h))
 have X4:=Lh ((X3.out.set_ (p:=⟨w.heap.size+1+1,5,none⟩) (by show _≤w.heap.size+1+1;omega) (.slice U3 c.fds.length C3)).set_ (p:=⟨w.heap.size+1+1,6,none⟩) (by show _≤w.heap.size+1+1;omega) (.slice none 0 0))
 clear f0 hnm o5 o6
 go_loopw [4] (fun i wr=>∃ (k:Nat) (V:Option Addr) (vc:Nat),i=.int .i64 k∧k≤nm∧Hid (w.heap.size+3≤wr.heap.size)∧Hid (BK wr (w.heap.size+1+1) #[.slice U1 c.pool.length C1,.string c.nm,.string c.sup,.bool c.inf,.slice U2 c.ifs.length C2,.slice U3 c.fds.length C3,.slice V k vc] 27)∧Hid (BK wr w.heap.size #[.slice Ap c.pool.length Akp,.string c.nm,.string c.sup,.bool c.inf,.slice Ai c.ifs.length Aki,.slice Af c.fds.length Akf,.slice Am c.mts.length Akm] 27)∧Hid (BK wr (w.heap.size+1) #[.slice none 0 0,.string ⟨#[]⟩,.string ⟨#[]⟩,.bool false,.slice none 0 0,.slice none 0 0,.slice none 0 0] 27)∧Hid (Ext w wr)∧Hid (ShC.Own (w.heap.size+3) wr (.slice U1 c.pool.length C1) c.pool)∧Hid (ShS.Own (w.heap.size+3) wr (.slice U2 c.ifs.length C2) c.ifs)∧Hid (ShF.Own (w.heap.size+3) wr (.slice U3 c.fds.length C3) c.fds)∧Hid (OwnM (w.heap.size+3) wr (.slice V k vc) (c.mts.take k))) (fun i _=>nm-(intOf i).toNat)
 case atStart=>exact⟨0,none,0,rfl,by omega,Lh (by simp [World.setCell];omega),KO4,KC4,KR4,X4,P4,Q4,R4,Lh (OwnM.nil _ _)⟩
 case round =>
  obtain⟨k,V,vcap,rfl,hk,HSZ,HKO,HKC,HKR,HX,HPo,HQo,HRo,HMo⟩:=hrel
  rename World=>wr
  have q6:wr.cell? ⟨w.heap.size,6,none⟩=some (.slice Am c.mts.length Akm):=HKC.out.cell 6
  by_cases hlt:k<nm
  ·have hkl:k<c.mts.length:=by have:=Hnm.out;omega
   have hlt2:(k:Int)<(c.mts.length:Int):=by omega
   obtain⟨b1,o1,rfl,hx1⟩:=HM.out.at (by omega)
   obtain⟨va,vc,vh,hx1⟩:=hx1 k hkl
   have hok:=HZ.out _ (Zc8 hkl)
   have ht1:=Lh (Zdm hkl)
   obtain⟨x,hx⟩:∃ x,gm c.mts k=x:=⟨_,rfl⟩
   rw [hx] at hx1 hok ht1
   obtain⟨⟨y0,y1,y2,y3,y4,y5,y6,y7,y8,y9⟩,m1⟩:=hx1 wr HX.out
   obtain⟨Va,ca,rfl,-⟩:=(show ShT.Row wr va x.args from m1.1).cut
   obtain⟨Vc,cc,rfl,-⟩:=id (show Row wr .u8 vc x.code from m1.2.1)
   obtain⟨Vh,ch,rfl,-⟩:=(show ShH.Row wr vh x.hs from m1.2.2).cut
   obtain⟨r1,r2,r3,-,-⟩:=hok
   have e47:reachBytes=140737488351232:=rfl
   rw [e47] at r1 r2 r3
   have hsz:=HSZ.out
   have HM1:=Lh m1
   have KM0:=Lh (BK.new wr #[.bool x.st,.bool x.ab,.string x.nm,.int .i64 x.ret.k,.string x.ret.s,.slice Va x.args.length ca,.int .i64 x.sk,.int .i64 x.lo,.slice Vc x.code.length cc,.slice Vh x.hs.length ch] 47)
   clear hx1 hx m1 hkl
   go_wp2_with (first
    | (
     at_builtin;go_loud (refine Shp.wpList_app ShT _ rfl _ _ (w.heap.size+3) 42 _ 24 rfl Tryz.underlying42 ZsD rfl (by omega) (.slice none 0 0) [] rfl (Shp.Own.nil _ _ _) (.slice Va x.args.length ca) x.args rfl (HM1.out.1.ext ((Ext.refl wr).alloc _)) (fun _ _=>trivial) (by simp;omega) (by simp;omega) ?_);intro u5 w5 o5 g5 _
     rw [List.nil_append] at o5
     have x5:Ext (wr.alloc (.cells #[.bool x.st,.bool x.ab,.string x.nm,.int .i64 x.ret.k,.string x.ret.s,.slice Va x.args.length ca,.int .i64 x.sk,.int .i64 x.lo,.slice Vc x.code.length cc,.slice Vh x.hs.length ch] 47)) w5:=(Ext.refl _).grown g5 (fun g h=>by cases h)
     obtain⟨U5,C5,rfl,-⟩:=o5.slice
     have KM5:=Lh (KM0.out.ext x5)
     have O5:=Lh o5
     have E5:=Lh (((Ext.refl wr).alloc (.cells #[.bool x.st,.bool x.ab,.string x.nm,.int .i64 x.ret.k,.string x.ret.s,.slice Va x.args.length ca,.int .i64 x.sk,.int .i64 x.lo,.slice Vc x.code.length cc,.slice Vh x.hs.length ch] 47)).trans x5)
     have f5:=KM5.out.free
     have m5:w5.cell? ⟨wr.heap.size,5,none⟩=some (.slice Va x.args.length ca):=KM5.out.cell 5
     have p8:w5.cell? ⟨wr.heap.size,8,none⟩=some (.slice Vc x.code.length cc):=KM5.out.cell 8
     clear x5 o5 g5 y0 y1 y2 y3 y4 y5 y6 y7 y8 y9))
   refine(Zhh (.slice Vc x.code.length cc) x.code _ (HM1.out.2.1.ext (E5.out.set_ (p:=⟨wr.heap.size,5,none⟩) (Nat.le_refl _) (.slice U5 x.args.length C5))) (by omega)).mono ?_
   rintro e w6 ⟨v6,rfl,o6,x6⟩
   obtain⟨A6,n6,c6,rfl⟩:=o6.slice
   have KM6:Hid (BK w6 wr.heap.size #[.bool x.st,.bool x.ab,.string x.nm,.int .i64 x.ret.k,.string x.ret.s,.slice U5 x.args.length C5,.int .i64 x.sk,.int .i64 x.lo,.slice Vc x.code.length cc,.slice Vh x.hs.length ch] 47):=Lh ((KM5.out.put 5 (.slice U5 x.args.length C5)).ext x6)
   have O56:=Lh ((O5.out.setT KM5.out (by decide) 5 (.slice U5 x.args.length C5) (fun _ h=>h)).ext x6)
   have E6:=Lh ((E5.out.set_ (p:=⟨wr.heap.size,5,none⟩) (Nat.le_refl _) (.slice U5 x.args.length C5)).trans x6)
   have O6:=Lh (o6.base (show w.heap.size+3≤_ by have:=E5.out.size;simp [World.setCell];omega))
   have f6:=KM6.out.free
   have m8:w6.cell? ⟨wr.heap.size,8,none⟩=some (.slice Vc x.code.length cc):=KM6.out.cell 8
   have p9:w6.cell? ⟨wr.heap.size,9,none⟩=some (.slice Vh x.hs.length ch):=KM6.out.cell 9
   have hs6:=E6.out.size
   clear x6 o6 f5 p8 m5
   go_wp2_with (first
    | (
     at_builtin;go_loud (refine Shp.wpList_app ShH _ rfl _ _ (w.heap.size+3) 45 _ 32 rfl Tryz.underlying45 ZqR rfl (by omega) (.slice none 0 0) [] rfl (Shp.Own.nil _ _ _) (.slice Vh x.hs.length ch) x.hs rfl (HM1.out.2.2.ext (E6.out.set_ (p:=⟨wr.heap.size,8,none⟩) (Nat.le_refl _) (.slice A6 n6 c6))) (fun _ _=>trivial) (by simp;omega) (by simp;omega) ?_);intro u7 w7 o7 g7 _
     rw [List.nil_append] at o7
     have x7:Ext (w6.setCell ⟨wr.heap.size,8,none⟩ (.slice A6 n6 c6)) w7:=(Ext.refl _).grown g7 (fun g h=>by cases h)
     obtain⟨U7,C7,rfl,-⟩:=o7.slice
     have KM7:Hid (BK w7 wr.heap.size #[.bool x.st,.bool x.ab,.string x.nm,.int .i64 x.ret.k,.string x.ret.s,.slice U5 x.args.length C5,.int .i64 x.sk,.int .i64 x.lo,.slice A6 n6 c6,.slice Vh x.hs.length ch] 47):=Lh ((KM6.out.put 8 (.slice A6 n6 c6)).ext x7)
     have O57:=Lh ((O56.out.setT KM6.out (by decide) 8 (.slice A6 n6 c6) (fun _ h=>h)).ext x7)
     have O67:=Lh ((O6.out.setT KM6.out (by decide) 8 (.slice A6 n6 c6)).ext x7)
     have O7:=Lh o7
     have E7:=Lh ((E6.out.set_ (p:=⟨wr.heap.size,8,none⟩) (Nat.le_refl _) (.slice A6 n6 c6)).trans x7)
     have E7m:=Lh (E7.out.set_ (p:=⟨wr.heap.size,9,none⟩) (Nat.le_refl _) (.slice U7 x.hs.length C7))
     have KM7m:Hid (BK (w7.setCell ⟨wr.heap.size,9,none⟩ (.slice U7 x.hs.length C7)) wr.heap.size #[.bool x.st,.bool x.ab,.string x.nm,.int .i64 x.ret.k,.string x.ret.s,.slice U5 x.args.length C5,.int .i64 x.sk,.int .i64 x.lo,.slice A6 n6 c6,.slice U7 x.hs.length C7] 47):=Lh (KM7.out.put 9 (.slice U7 x.hs.length C7))
     have N7:Hid (NestMO (w.heap.size+3) (w7.setCell ⟨wr.heap.size,9,none⟩ (.slice U7 x.hs.length C7)) (x,.slice U5 x.args.length C5,.slice A6 n6 c6,.slice U7 x.hs.length C7)):=Lh ⟨O57.out.setT KM7.out (by decide) 9 (.slice U7 x.hs.length C7) (fun _ h=>h),O67.out.setT KM7.out (by decide) 9 (.slice U7 x.hs.length C7),O7.out.setT KM7.out (by decide) 9 (.slice U7 x.hs.length C7) (fun _ h=>h)⟩
     have f7:=KM7.out.free
     have m9:w7.cell? ⟨wr.heap.size,9,none⟩=some (.slice Vh x.hs.length ch):=KM7.out.cell 9
     have nb2:¬ wr.heap.size=w.heap.size+1+1:=by omega
     have nb3:¬ w.heap.size+1+1=wr.heap.size:=by omega
     have p0:w7.cell? ⟨w.heap.size+1+1,6,none⟩=some (.slice V k vcap):=(HKO.out.ext E7.out).cell 6
     have r0:w7.cell? ⟨wr.heap.size,0,none⟩=some (.bool x.st):=KM7.out.cell 0
     have r1':w7.cell? ⟨wr.heap.size,1,none⟩=some (.bool x.ab):=KM7.out.cell 1
     have r2':w7.cell? ⟨wr.heap.size,2,none⟩=some (.string x.nm):=KM7.out.cell 2
     have r3':w7.cell? ⟨wr.heap.size,3,none⟩=some (.int .i64 x.ret.k):=KM7.out.cell 3
     have r4:w7.cell? ⟨wr.heap.size,4,none⟩=some (.string x.ret.s):=KM7.out.cell 4
     have r5:w7.cell? ⟨wr.heap.size,5,none⟩=some (.slice U5 x.args.length C5):=KM7.out.cell 5
     have r6:w7.cell? ⟨wr.heap.size,6,none⟩=some (.int .i64 x.sk):=KM7.out.cell 6
     have r7:w7.cell? ⟨wr.heap.size,7,none⟩=some (.int .i64 x.lo):=KM7.out.cell 7
     have r8:w7.cell? ⟨wr.heap.size,8,none⟩=some (.slice A6 n6 c6):=KM7.out.cell 8
     have hs7:=E7.out.size
     have BKN:Hid (BK ((w7.setCell ⟨wr.heap.size,9,none⟩ (.slice U7 x.hs.length C7)).alloc (.cells #[.bool x.st,.bool x.ab,.string x.nm,.int .i64 x.ret.k,.string x.ret.s,.slice U5 x.args.length C5,.int .i64 x.sk,.int .i64 x.lo,.slice A6 n6 c6,.slice U7 x.hs.length C7] 47)) w7.heap.size #[.bool x.st,.bool x.ab,.string x.nm,.int .i64 x.ret.k,.string x.ret.s,.slice U5 x.args.length C5,.int .i64 x.sk,.int .i64 x.lo,.slice A6 n6 c6,.slice U7 x.hs.length C7] 47):=Lh (by
      have h:=BK.new (w7.setCell ⟨wr.heap.size,9,none⟩ (.slice U7 x.hs.length C7)) #[.bool x.st,.bool x.ab,.string x.nm,.int .i64 x.ret.k,.string x.ret.s,.slice U5 x.args.length C5,.int .i64 x.sk,.int .i64 x.lo,.slice A6 n6 c6,.slice U7 x.hs.length C7] 47
      rw [show (w7.setCell ⟨wr.heap.size,9,none⟩ (.slice U7 x.hs.length C7)).heap.size=w7.heap.size from by simp [World.setCell]] at h
      exact h)
     obtain⟨es,hes,hE⟩:=HMo.out
     have HES:=Lh hes
     have HLE:Hid (es.length=k):=Lh (by have h1:=congrArg List.length hes;rw [List.length_map,List.length_take] at h1;have:=Hnm.out;omega)
     have HEE:=Lh hE
     clear x7 o7 g7 f6 p9 m8 hes hE)
    | (
     at_builtin;go_loud (refine Shp.wpList_app ShM _ rfl _ _ (w.heap.size+3) 25 _ 136 rfl Tryz.underlying25 ZqU rfl (by decide) (.slice V k vcap) es rfl (HEE.out.ext (E7m.out.alloc _)) (.slice (some ⟨w7.heap.size,0,none⟩) 1 1) [(x,.slice U5 x.args.length C5,Value.slice A6 n6 c6,Value.slice U7 x.hs.length C7)] rfl (Shp.Row.single (S:=ShM) BKN.out (ShM.low (ShM.extO N7.out ((Ext.refl _).alloc _)))) (fun e he=>by rw [List.mem_singleton.1 he];exact ShM.extO N7.out ((Ext.refl _).alloc _)) (by rw [HLE.out];have:=Hnm.out;simp;omega) (by simp;omega) ?_);intro v8 w8 o8 g8 hb8
     clear p0 r0 r1' r2' r3' r4 r5 r6 r7 r8 f7 m9
     have EA:=Lh (E7m.out.alloc (.cells #[.bool x.st,.bool x.ab,.string x.nm,.int .i64 x.ret.k,.string x.ret.s,.slice U5 x.args.length C5,.int .i64 x.sk,.int .i64 x.lo,.slice A6 n6 c6,.slice U7 x.hs.length C7] 47))
     have hlow:=(HEE.out.ext EA.out).low
     have KO8:=Lh ((HKO.out.ext EA.out).keptO g8 (fun e=>by have:=hlow _ e;omega))
     have KC8:=Lh ((HKC.out.ext EA.out).keptO g8 (fun e=>by have:=hlow _ e;omega))
     have KR8:=Lh ((HKR.out.ext EA.out).keptO g8 (fun e=>by have:=hlow _ e;omega))
     have X8:=Lh ((HX.out.trans EA.out).grown g8 (fun g e=>by have:=hlow g e;omega))
     have P8:=Lh ((HPo.out.ext EA.out).kept g8 ((HPo.out.ext EA.out).apart (HEE.out.ext EA.out) (by decide)) (fun _ _ h=>h))
     have Q8:=Lh ((HQo.out.ext EA.out).kept g8 ((HQo.out.ext EA.out).apart (HEE.out.ext EA.out) (by decide)) (fun _ _ h=>h))
     have R8:=Lh ((HRo.out.ext EA.out).kept g8 ((HRo.out.ext EA.out).apart (HEE.out.ext EA.out) (by decide)) (fun _ _ h=>h))
     obtain⟨A8,c8,rfl,-⟩:=o8.slice
     have hel:(es++[((x,.slice U5 x.args.length C5,Value.slice A6 n6 c6,Value.slice U7 x.hs.length C7):MeV)]).length=k+1:=by rw [List.length_append,HLE.out];rfl
     rw [hel] at o8 ⊢
     have O8:Hid (OwnM (w.heap.size+3) w8 (.slice A8 (k+1) c8) (c.mts.take (k+1))):=Lh ⟨_,by rw [List.map_append,HES.out,ht1.out];rfl,o8⟩
     have hs8:=g8.size
     have f8:=KO8.out.free
     have o8':w8.cell? ⟨w.heap.size+1+1,6,none⟩=some (.slice V k vcap):=KO8.out.cell 6
     clear o8 g8 hlow hb8 hel))
   go_roundw
   case rel =>
    refine⟨k+1,A8,c8,by go_num,by omega,Lh ?_,Lh ((KO8.out.put 6 (.slice A8 (k+1) c8))),Lh (KC8.out.other (p:=⟨w.heap.size+1+1,6,none⟩) (by show ¬ w.heap.size+1+1=_;omega) _),Lh (KR8.out.other (p:=⟨w.heap.size+1+1,6,none⟩) (by show ¬ w.heap.size+1+1=_;omega) _),Lh (X8.out.set_ (p:=⟨w.heap.size+1+1,6,none⟩) (by show _≤w.heap.size+1+1;omega) _),Lh (P8.out.keptU (Zac w8 (w.heap.size+1+1) 6 _) (by omega) (fun _ h=>h)),Lh (Q8.out.keptU (Zac w8 (w.heap.size+1+1) 6 _) (by omega) (fun _ h=>h)),Lh (R8.out.keptU (Zac w8 (w.heap.size+1+1) 6 _) (by omega) (fun _ h=>h)),Lh (O8.out.setU (by omega) 6 _)⟩
    have:=EA.out.size
    simp [World.setCell] at hs8 this ⊢
    omega
   case measure=>simp [intOf];omega
  ·obtain rfl:k=nm:=by omega
   have hlt2:¬ (k:Int)<(c.mts.length:Int):=by have:=Hnm.out;omega
   have hall:c.mts.take k=c.mts:=by rw [List.take_of_length_le (by have:=Hnm.out;omega)]
   have hme:=HMo.out
   rw [hall] at hme
   have hco:ClOwn (w.heap.size+3) wr c (.slice U1 c.pool.length C1) (.slice U2 c.ifs.length C2) (.slice U3 c.fds.length C3) (.slice V k vcap):=⟨HPo.out,HQo.out,HRo.out,hme⟩
   have HCO:=Lh hco
   clear hco hme hall
   obtain⟨o0,o1,o2,o3,o4,o5,o6⟩:=ZaC HKO.out
   obtain⟨z0',z1',z2',z3',z4',z5',z6'⟩:=ZaC HKR.out
   have g0:=HKR.out.free 0
   have g1:=HKR.out.free 1
   have g2:=HKR.out.free 2
   have g3:=HKR.out.free 3
   have g4:=HKR.out.free 4
   have g5:=HKR.out.free 5
   have g6:=HKR.out.free 6
   go_wp2
   have KS:=Lh (show BK (sets7 wr (w.heap.size+1) (.slice U1 c.pool.length C1) (.string c.nm) (.string c.sup) (.bool c.inf) (.slice U2 c.ifs.length C2) (.slice U3 c.fds.length C3) (.slice V k vcap)) (w.heap.size+1) #[.slice U1 c.pool.length C1,.string c.nm,.string c.sup,.bool c.inf,.slice U2 c.ifs.length C2,.slice U3 c.fds.length C3,.slice V k vcap] 27 from HKR.out.sets7 (.slice U1 c.pool.length C1) (.string c.nm) (.string c.sup) (.bool c.inf) (.slice U2 c.ifs.length C2) (.slice U3 c.fds.length C3) (.slice V k vcap))
   clear o0 o1 o2 o3 o4 o5 o6 z0' z1' z2' z3' z4' z5' z6' g0 g1 g2 g3 g4 g5 g6
   obtain⟨e0,e1,e2,e3,e4,e5,e6⟩:=ZaC KS.out
   refine bodyPost_ret (v:=.agg #[.slice U1 c.pool.length C1,.string c.nm,.string c.sup,.bool c.inf,.slice U2 c.ifs.length C2,.slice U3 c.fds.length C3,.slice V k vcap]) (by change (results _ _).run _ (sets7 wr (w.heap.size+1) (.slice U1 c.pool.length C1) (.string c.nm) (.string c.sup) (.bool c.inf) (.slice U2 c.ifs.length C2) (.slice U3 c.fds.length C3) (.slice V k vcap))=_;simp [results,Tryz.results6,go_sem,e0,e1,e2,e3,e4,e5,e6];try rfl) rfl ?_
   refine⟨_,_,_,_,rfl,(HCO.out.keptU (ZaU wr (w.heap.size+1) (.slice U1 c.pool.length C1) (.string c.nm) (.string c.sup) (.bool c.inf) (.slice U2 c.ifs.length C2) (.slice U3 c.fds.length C3) (.slice V k vcap)) (by omega)).base (by omega),?_⟩
   exact HX.out.grown (ZaU wr (w.heap.size+1) (.slice U1 c.pool.length C1) (.string c.nm) (.string c.sup) (.bool c.inf) (.slice U2 c.ifs.length C2) (.slice U3 c.fds.length C3) (.slice V k vcap)) (fun g hg=>by injection hg with hg;omega)
end Go.Proofs.YtclamhhgldkhnaaGreatDoor
