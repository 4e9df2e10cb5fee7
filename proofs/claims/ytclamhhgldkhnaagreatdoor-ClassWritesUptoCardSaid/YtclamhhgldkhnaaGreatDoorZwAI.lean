/- Several texts of this proof, one behind the other. -/
import Derived.Test.YtclamhhgldkhnaaGreatDoorZwAD
import Derived.Test.YtclamhhgldkhnaaGreatDoorZwAC
namespace Go.Proofs.YtclamhhgldkhnaaGreatDoor
open Go.RowKit
set_option linter.unusedVariables false
set_option maxHeartbeats 16000000
def slen:Value→Nat
 | .slice _ n _=>n
 | _=>0
theorem ZdI {w w1 w2 w3:World} {g:Nat} {v:Value} (h:w.grownBy w1 (some g)) (e:Ext w1 w2) (h2:w2.grownBy w3 v.ownBlock) (hl:∀ k,v.ownBlock=some k→w.heap.size≤k):w.grownBy w3 (some g):=by
 have h1:=Zbl h e
 refine⟨h2.os.trans h1.os,h2.tape.trans h1.tape,h2.output.trans h1.output,Nat.le_trans h1.size h2.size,fun i hi hne=>?_⟩
 rw [h2.block i (Nat.lt_of_lt_of_le hi h1.size) (fun e=>by have:=hl i e.symm;omega)]
 exact h1.block i hi hne
theorem ZfA {α:Type} {one:RSt→α × RSt} {N q:Nat} {acc:List α} {s:RSt} (h:q<N) (hs:s.2=false):gIt one (N-q) acc s=gIt one (N-(q+1)) (acc++[(one s).1]) (one s).2:=by
 rw [show N-q=(N-(q+1))+1 by omega,gIt,if_neg (by rw [hs];decide)]
theorem Zcl {α:Type} {one:RSt→α × RSt} {N q:Nat} {acc:List α} {s:RSt} (h:¬ q<N∨s.2=true):gIt one (N-q) acc s=(acc,s):=by
 rcases h with h | h
 ·rw [show N-q=0 by omega,gIt]
 ·generalize N-q=n
  cases n with
  | zero=>rfl
  | succ n=>rw [gIt,if_pos h]
theorem ZqJ:(Tryz.prog.info? 9).map (fun i=>(i.zero,i.size,i.bytes))=some (some (.string ⟨#[]⟩),ShS.n,16):=by kernel_rfl
set_option maxRecDepth 100000 in
theorem Zms (w0 w:World) (g:Nat) (s:RSt) (fid:FuncId) (one:RSt→ByteArray × RSt) (i:Nat) (hi:i<4) (I:Int) (hI:I=i) (K:Int) (hK:mst i=K) (h:RK w0 w g s) (hM:Most w)
 (hc:∀ args W,(callFunc fid args).run Tryz.prog W=.ok (.enter fid args) W)
 (hle:∀ s',(one s').2.1.length≤s'.1.length)
 (hone:∀ W s',RK w0 W g s'→s'.1.length≤s.1.length→Calls Tryz.prog fid #[.pointer (some ⟨g,0,none⟩)] W (KRet w0 W g (one s').2 (.string (one s').1))) :
 Calls Tryz.prog 89 #[.pointer (some ⟨g,0,none⟩),.int .i64 I,.func (.func fid) #[.pointer (some ⟨g,0,none⟩)] #[]] w fun x w'=>∃ v,KRet w0 w g (gLs K one s).2 v x w'∧ShS.Own w.heap.size w' v (gLs K one s).1:=by
 subst hI
 have y0:=hM.2 i hi
 have l0:=hM.1
 rw [hK] at y0
 have hK0:0≤K∧K≤256:=by
  rw [← hK]
  unfold mst
  split <;> omega
 have hi2:(i:Int)<4:=by omega
 have HU:=Lh (Zb1 w0 w g s K h)
 have hN:=Zk3 hK0.1 h.fit
 have hsl:=ZbA K s
 have hlt:=h.lt
 have hge:w0.heap.size≤g:=h.base
 have hF:gLs K one s=gIt one (gUp K s).1.toNat [] (gUp K s).2:=rfl
 obtain⟨F,hFF⟩:∃ F,gLs K one s=F:=⟨_,rfl⟩
 rw [hFF] at hF ⊢
 obtain⟨U,hU⟩:∃ U,gUp K s=U:=⟨_,rfl⟩
 rw [hU] at HU hN hsl hF
 obtain⟨n,s1⟩:=U
 simp only at HU hN hsl hF
 obtain⟨N,rfl⟩:∃ N:Nat,n=N:=⟨n.toNat,by omega⟩
 rw [Int.toNat_natCast] at hF
 have hN2:N≤256:=by omega
 have HF:=Lh hF
 have HO:=Lh hone
 have HL:=Lh hle
 have HSL:=Lh hsl
 clear h hM hone hle hN hK hU hF hFF hsl hK0
 go_enter Tryz.func89,Tryz.ntmps89
 go_wp2_with fail
 refine HU.out.mono ?_
 rintro x w1 ⟨rfl,h1,g1⟩
 have H1:=Lh h1
 have G1:=Lh g1
 clear h1 g1 y0 l0
 go_wp2_with fail
 go_loopw [8] (fun v wr=>∃ (acc:List ByteArray) (s':RSt) (A:Option Addr) (c:Nat),v=.slice A acc.length c∧acc.length≤N∧Hid (F=gIt one (N-acc.length) acc s')∧Hid (RK w0 wr g s')∧Hid (ShS.Own w.heap.size wr v acc)∧Hid (w.grownBy wr (some g))∧Hid (s'.1.length≤s.1.length)) (fun v _=>N-slen v)
 case atStart=>exact⟨[],s1,none,0,rfl,Nat.zero_le _,Lh HF.out,H1,Lh (Shp.Own.nil _ _ _),G1,HSL⟩
 case round =>
  obtain⟨acc,s',A,c,rfl,hq,HQ,HR,HA,HG,HS⟩:=hrel
  rename World=>wo
  obtain⟨q,hqq⟩:∃ q,acc.length=q:=⟨_,rfl⟩
  rw [hqq] at hq HQ HA ⊢
  have HQQ:=Lh hqq
  clear hqq
  obtain⟨A2,c2,-,-,-,d0,d1,e0,e1⟩:=HR.out.cells
  have hgo:=HR.out.lt
  obtain⟨l',b'⟩:=s'
  simp only at d0 d1 HS
  by_cases hlq:q<N
  ·cases b'
   ·have HE:=Lh (HQ.out.trans (ZfA hlq rfl))
    have HC:=Lh (HO.out wo (l',false) HR.out HS.out)
    have HL2:=Lh (HL.out (l',false))
    obtain⟨Y,hY⟩:∃ Y,one (l',false)=Y:=⟨_,rfl⟩
    rw [hY] at HE HC HL2
    obtain⟨y,s2⟩:=Y
    simp only at HE HC HL2
    clear hY
    go_wp2_with fail
    refine HC.out.mono ?_
    rintro x w2 ⟨rfl,h2,g2⟩
    have H2:=Lh h2
    have HO2:=Lh (HA.out.keptU g2 hlt (fun _ h=>h))
    have HG2:=Lh (Zae HG.out g2)
    have hs2:=g2.size
    have hs3:=HG.out.size
    clear h2 g2  d0 d1 e0 e1
    go_wp2_with (at_builtin;go_loud (refine Shp.wpList_app ShS _ rfl _ _ w.heap.size 23 _ 16 rfl Tryz.underlying23 ZqJ rfl (by decide) (.slice A q c) acc rfl (HO2.out.ext ((Ext.refl w2).alloc _)) (.slice (some ⟨w2.heap.size,0,none⟩) 1 1) [y] rfl (Shp.Row.single (S:=ShS) (BK.new w2 _ _) trivial) (fun _ _=>trivial) (by rw [HQQ.out];simp;omega) (by simp;omega) ?_);intro v3 w3 o3 g3 hb3)
    have H3:=(H2.out.ext ((Ext.refl w2).alloc (.cells #[.string y] 9))).kept g3 (fun k hk=>⟨fun e=>by have:=HO2.out.low k hk;omega,by have:=HO2.out.low k hk;omega⟩)
    have G3:=ZdI HG2.out ((Ext.refl w2).alloc (.cells #[.string y] 9)) g3 (fun k hk=>HO2.out.low k hk)
    obtain⟨A3,c3,rfl,-⟩:=o3.slice
    have hq1:(acc++[y]).length=q+1:=by rw [List.length_append,HQQ.out];rfl
    rw [hq1] at o3 ⊢
    refine⟨⟨acc++[y],s2,A3,c3,by rw [hq1],by omega,Lh (by rw [hq1];exact HE.out),Lh H3,Lh o3,Lh G3,Lh (Nat.le_trans HL2.out HS.out)⟩,by show N-(q+1)<N-q;omega⟩
   ·have HE:=Lh (HQ.out.trans (Zcl (.inr rfl)))
    go_wp2
    go_ret
    rw [HE.out]
    exact⟨_,⟨rfl,HR.out,HG.out⟩,HA.out⟩
  ·have HE:=Lh (HQ.out.trans (Zcl (.inl hlq)))
   clear d0 d1 e0 e1
   go_wp2
   go_ret
   rw [HE.out]
   exact⟨_,⟨rfl,HR.out,HG.out⟩,HA.out⟩
theorem ZqO:(Tryz.prog.info? 59).map (fun i=>(i.zero,i.size,i.bytes))=some (some (.agg #[.bool false,.string ⟨#[]⟩,.int .i64 0,.string ⟨#[]⟩]),ShF.n,48):=by kernel_rfl
set_option maxRecDepth 100000 in
theorem ZlD (w0 w:World) (g:Nat) (s:RSt) (fid:FuncId) (one:RSt→Fd × RSt) (i:Nat) (hi:i<4) (I:Int) (hI:I=i) (K:Int) (hK:mst i=K) (h:RK w0 w g s) (hM:Most w)
 (hc:∀ args W,(callFunc fid args).run Tryz.prog W=.ok (.enter fid args) W)
 (hle:∀ s',(one s').2.1.length≤s'.1.length)
 (hone:∀ W s',RK w0 W g s'→s'.1.length≤s.1.length→Calls Tryz.prog fid #[.pointer (some ⟨g,0,none⟩)] W (KRet w0 W g (one s').2 (.agg (one s').1.vals))) :
 Calls Tryz.prog 90 #[.pointer (some ⟨g,0,none⟩),.int .i64 I,.func (.func fid) #[.pointer (some ⟨g,0,none⟩)] #[]] w fun x w'=>∃ v,KRet w0 w g (gLs K one s).2 v x w'∧ShF.Own w.heap.size w' v (gLs K one s).1:=by
 subst hI
 have y0:=hM.2 i hi
 have l0:=hM.1
 rw [hK] at y0
 have hK0:0≤K∧K≤256:=by
  rw [← hK]
  unfold mst
  split <;> omega
 have hi2:(i:Int)<4:=by omega
 have HU:=Lh (Zb1 w0 w g s K h)
 have hN:=Zk3 hK0.1 h.fit
 have hsl:=ZbA K s
 have hlt:=h.lt
 have hge:w0.heap.size≤g:=h.base
 have hF:gLs K one s=gIt one (gUp K s).1.toNat [] (gUp K s).2:=rfl
 obtain⟨F,hFF⟩:∃ F,gLs K one s=F:=⟨_,rfl⟩
 rw [hFF] at hF ⊢
 obtain⟨U,hU⟩:∃ U,gUp K s=U:=⟨_,rfl⟩
 rw [hU] at HU hN hsl hF
 obtain⟨n,s1⟩:=U
 simp only at HU hN hsl hF
 obtain⟨N,rfl⟩:∃ N:Nat,n=N:=⟨n.toNat,by omega⟩
 rw [Int.toNat_natCast] at hF
 have hN2:N≤256:=by omega
 have HF:=Lh hF
 have HO:=Lh hone
 have HL:=Lh hle
 have HSL:=Lh hsl
 clear h hM hone hle hN hK hU hF hFF hsl hK0
 go_enter Tryz.func90,Tryz.ntmps90
 go_wp2_with fail
 refine HU.out.mono ?_
 rintro x w1 ⟨rfl,h1,g1⟩
 have H1:=Lh h1
 have G1:=Lh g1
 clear h1 g1 y0 l0
 go_wp2_with fail
 go_loopw [8] (fun v wr=>∃ (acc:List Fd) (s':RSt) (A:Option Addr) (c:Nat),v=.slice A acc.length c∧acc.length≤N∧Hid (F=gIt one (N-acc.length) acc s')∧Hid (RK w0 wr g s')∧Hid (ShF.Own w.heap.size wr v acc)∧Hid (w.grownBy wr (some g))∧Hid (s'.1.length≤s.1.length)) (fun v _=>N-slen v)
 case atStart=>exact⟨[],s1,none,0,rfl,Nat.zero_le _,Lh HF.out,H1,Lh (Shp.Own.nil _ _ _),G1,HSL⟩
 case round =>
  obtain⟨acc,s',A,c,rfl,hq,HQ,HR,HA,HG,HS⟩:=hrel
  rename World=>wo
  obtain⟨q,hqq⟩:∃ q,acc.length=q:=⟨_,rfl⟩
  rw [hqq] at hq HQ HA ⊢
  have HQQ:=Lh hqq
  clear hqq
  obtain⟨A2,c2,-,-,-,d0,d1,e0,e1⟩:=HR.out.cells
  have hgo:=HR.out.lt
  obtain⟨l',b'⟩:=s'
  simp only at d0 d1 HS
  by_cases hlq:q<N
  ·cases b'
   ·have HE:=Lh (HQ.out.trans (ZfA hlq rfl))
    have HC:=Lh (HO.out wo (l',false) HR.out HS.out)
    have HL2:=Lh (HL.out (l',false))
    obtain⟨Y,hY⟩:∃ Y,one (l',false)=Y:=⟨_,rfl⟩
    rw [hY] at HE HC HL2
    obtain⟨y,s2⟩:=Y
    simp only at HE HC HL2
    clear hY
    unfold Fd.vals at HC
    go_wp2_with fail
    refine HC.out.mono ?_
    rintro x w2 ⟨rfl,h2,g2⟩
    have H2:=Lh h2
    have HO2:=Lh (HA.out.keptU g2 hlt (fun _ h=>h))
    have HG2:=Lh (Zae HG.out g2)
    have hs2:=g2.size
    have hs3:=HG.out.size
    clear h2 g2  d0 d1 e0 e1
    go_wp2_with (at_builtin;go_loud (refine Shp.wpList_app ShF _ rfl _ _ w.heap.size 24 _ 48 rfl Tryz.underlying24 ZqO rfl (by decide) (.slice A q c) acc rfl (HO2.out.ext ((Ext.refl w2).alloc _)) (.slice (some ⟨w2.heap.size,0,none⟩) 1 1) [y] rfl (Shp.Row.single (S:=ShF) (BK.new w2 _ _) trivial) (fun _ _=>trivial) (by rw [HQQ.out];simp;omega) (by simp;omega) ?_);intro v3 w3 o3 g3 hb3)
    have H3:=(H2.out.ext ((Ext.refl w2).alloc (.cells #[.bool y.st,.string y.nm,.int .i64 y.ty.k,.string y.ty.s] 59))).kept g3 (fun k hk=>⟨fun e=>by have:=HO2.out.low k hk;omega,by have:=HO2.out.low k hk;omega⟩)
    have G3:=ZdI HG2.out ((Ext.refl w2).alloc (.cells #[.bool y.st,.string y.nm,.int .i64 y.ty.k,.string y.ty.s] 59)) g3 (fun k hk=>HO2.out.low k hk)
    obtain⟨A3,c3,rfl,-⟩:=o3.slice
    have hq1:(acc++[y]).length=q+1:=by rw [List.length_append,HQQ.out];rfl
    rw [hq1] at o3 ⊢
    refine⟨⟨acc++[y],s2,A3,c3,by rw [hq1],by omega,Lh (by rw [hq1];exact HE.out),Lh H3,Lh o3,Lh G3,Lh (Nat.le_trans HL2.out HS.out)⟩,by show N-(q+1)<N-q;omega⟩
   ·have HE:=Lh (HQ.out.trans (Zcl (.inr rfl)))
    go_wp2
    go_ret
    rw [HE.out]
    exact⟨_,⟨rfl,HR.out,HG.out⟩,HA.out⟩
  ·have HE:=Lh (HQ.out.trans (Zcl (.inl hlq)))
   clear d0 d1 e0 e1
   go_wp2
   go_ret
   rw [HE.out]
   exact⟨_,⟨rfl,HR.out,HG.out⟩,HA.out⟩
theorem ZqR:(Tryz.prog.info? 53).map (fun i=>(i.zero,i.size,i.bytes))=some (some (.agg #[.int .i64 0,.int .i64 0,.int .i64 0,.int .i64 0]),ShH.n,32):=by kernel_rfl
set_option maxRecDepth 100000 in
theorem ZlE (w0 w:World) (g:Nat) (s:RSt) (fid:FuncId) (one:RSt→Hd × RSt) (i:Nat) (hi:i<4) (I:Int) (hI:I=i) (K:Int) (hK:mst i=K) (h:RK w0 w g s) (hM:Most w)
 (hc:∀ args W,(callFunc fid args).run Tryz.prog W=.ok (.enter fid args) W)
 (hle:∀ s',(one s').2.1.length≤s'.1.length)
 (hone:∀ W s',RK w0 W g s'→s'.1.length≤s.1.length→Calls Tryz.prog fid #[.pointer (some ⟨g,0,none⟩)] W (KRet w0 W g (one s').2 (.agg (one s').1.vals))) :
 Calls Tryz.prog 145 #[.pointer (some ⟨g,0,none⟩),.int .i64 I,.func (.func fid) #[.pointer (some ⟨g,0,none⟩)] #[]] w fun x w'=>∃ v,KRet w0 w g (gLs K one s).2 v x w'∧ShH.Own w.heap.size w' v (gLs K one s).1:=by
 subst hI
 have y0:=hM.2 i hi
 have l0:=hM.1
 rw [hK] at y0
 have hK0:0≤K∧K≤256:=by
  rw [← hK]
  unfold mst
  split <;> omega
 have hi2:(i:Int)<4:=by omega
 have HU:=Lh (Zb1 w0 w g s K h)
 have hN:=Zk3 hK0.1 h.fit
 have hsl:=ZbA K s
 have hlt:=h.lt
 have hge:w0.heap.size≤g:=h.base
 have hF:gLs K one s=gIt one (gUp K s).1.toNat [] (gUp K s).2:=rfl
 obtain⟨F,hFF⟩:∃ F,gLs K one s=F:=⟨_,rfl⟩
 rw [hFF] at hF ⊢
 obtain⟨U,hU⟩:∃ U,gUp K s=U:=⟨_,rfl⟩
 rw [hU] at HU hN hsl hF
 obtain⟨n,s1⟩:=U
 simp only at HU hN hsl hF
 obtain⟨N,rfl⟩:∃ N:Nat,n=N:=⟨n.toNat,by omega⟩
 rw [Int.toNat_natCast] at hF
 have hN2:N≤256:=by omega
 have HF:=Lh hF
 have HO:=Lh hone
 have HL:=Lh hle
 have HSL:=Lh hsl
 clear h hM hone hle hN hK hU hF hFF hsl hK0
 go_enter Tryz.func145,Tryz.ntmps145
 go_wp2_with fail
 refine HU.out.mono ?_
 rintro x w1 ⟨rfl,h1,g1⟩
 have H1:=Lh h1
 have G1:=Lh g1
 clear h1 g1 y0 l0
 go_wp2_with fail
 go_loopw [8] (fun v wr=>∃ (acc:List Hd) (s':RSt) (A:Option Addr) (c:Nat),v=.slice A acc.length c∧acc.length≤N∧Hid (F=gIt one (N-acc.length) acc s')∧Hid (RK w0 wr g s')∧Hid (ShH.Own w.heap.size wr v acc)∧Hid (w.grownBy wr (some g))∧Hid (s'.1.length≤s.1.length)) (fun v _=>N-slen v)
 case atStart=>exact⟨[],s1,none,0,rfl,Nat.zero_le _,Lh HF.out,H1,Lh (Shp.Own.nil _ _ _),G1,HSL⟩
 case round =>
  obtain⟨acc,s',A,c,rfl,hq,HQ,HR,HA,HG,HS⟩:=hrel
  rename World=>wo
  obtain⟨q,hqq⟩:∃ q,acc.length=q:=⟨_,rfl⟩
  rw [hqq] at hq HQ HA ⊢
  have HQQ:=Lh hqq
  clear hqq
  obtain⟨A2,c2,-,-,-,d0,d1,e0,e1⟩:=HR.out.cells
  have hgo:=HR.out.lt
  obtain⟨l',b'⟩:=s'
  simp only at d0 d1 HS
  by_cases hlq:q<N
  ·cases b'
   ·have HE:=Lh (HQ.out.trans (ZfA hlq rfl))
    have HC:=Lh (HO.out wo (l',false) HR.out HS.out)
    have HL2:=Lh (HL.out (l',false))
    obtain⟨Y,hY⟩:∃ Y,one (l',false)=Y:=⟨_,rfl⟩
    rw [hY] at HE HC HL2
    obtain⟨y,s2⟩:=Y
    simp only at HE HC HL2
    clear hY
    unfold Hd.vals at HC
    go_wp2_with fail
    refine HC.out.mono ?_
    rintro x w2 ⟨rfl,h2,g2⟩
    have H2:=Lh h2
    have HO2:=Lh (HA.out.keptU g2 hlt (fun _ h=>h))
    have HG2:=Lh (Zae HG.out g2)
    have hs2:=g2.size
    have hs3:=HG.out.size
    clear h2 g2  d0 d1 e0 e1
    go_wp2_with (at_builtin;go_loud (refine Shp.wpList_app ShH _ rfl _ _ w.heap.size 45 _ 32 rfl Tryz.underlying45 ZqR rfl (by decide) (.slice A q c) acc rfl (HO2.out.ext ((Ext.refl w2).alloc _)) (.slice (some ⟨w2.heap.size,0,none⟩) 1 1) [y] rfl (Shp.Row.single (S:=ShH) (BK.new w2 _ _) trivial) (fun _ _=>trivial) (by rw [HQQ.out];simp;omega) (by simp;omega) ?_);intro v3 w3 o3 g3 hb3)
    have H3:=(H2.out.ext ((Ext.refl w2).alloc (.cells #[.int .i64 y.f,.int .i64 y.t,.int .i64 y.a,.int .i64 y.c] 53))).kept g3 (fun k hk=>⟨fun e=>by have:=HO2.out.low k hk;omega,by have:=HO2.out.low k hk;omega⟩)
    have G3:=ZdI HG2.out ((Ext.refl w2).alloc (.cells #[.int .i64 y.f,.int .i64 y.t,.int .i64 y.a,.int .i64 y.c] 53)) g3 (fun k hk=>HO2.out.low k hk)
    obtain⟨A3,c3,rfl,-⟩:=o3.slice
    have hq1:(acc++[y]).length=q+1:=by rw [List.length_append,HQQ.out];rfl
    rw [hq1] at o3 ⊢
    refine⟨⟨acc++[y],s2,A3,c3,by rw [hq1],by omega,Lh (by rw [hq1];exact HE.out),Lh H3,Lh o3,Lh G3,Lh (Nat.le_trans HL2.out HS.out)⟩,by show N-(q+1)<N-q;omega⟩
   ·have HE:=Lh (HQ.out.trans (Zcl (.inr rfl)))
    go_wp2
    go_ret
    rw [HE.out]
    exact⟨_,⟨rfl,HR.out,HG.out⟩,HA.out⟩
  ·have HE:=Lh (HQ.out.trans (Zcl (.inl hlq)))
   clear d0 d1 e0 e1
   go_wp2
   go_ret
   rw [HE.out]
   exact⟨_,⟨rfl,HR.out,HG.out⟩,HA.out⟩
theorem ZqU:(Tryz.prog.info? 47).map (fun i=>(i.zero,i.size,i.bytes))=some (some (.agg #[.bool false,.bool false,.string ⟨#[]⟩,.int .i64 0,.string ⟨#[]⟩,.slice none 0 0,.int .i64 0,.int .i64 0,.slice none 0 0,.slice none 0 0]),ShM.n,136):=by kernel_rfl
set_option maxRecDepth 100000 in
theorem Zmh (w0 w:World) (g:Nat) (s:RSt) (fid:FuncId) (one:RSt→Me × RSt) (i:Nat) (hi:i<4) (I:Int) (hI:I=i) (K:Int) (hK:mst i=K) (h:RK w0 w g s) (hM:Most w)
 (hc:∀ args W,(callFunc fid args).run Tryz.prog W=.ok (.enter fid args) W)
 (hle:∀ s',(one s').2.1.length≤s'.1.length)
 (hone:∀ W s',RK w0 W g s'→s'.1.length≤s.1.length→Calls Tryz.prog fid #[.pointer (some ⟨g,0,none⟩)] W fun x w'=>∃ va vc vh,KRet w0 W g (one s').2 (.agg ((one s').1.vals va vc vh)) x w'∧NestMO W.heap.size w' ((one s').1,va,vc,vh)) :
 Calls Tryz.prog 92 #[.pointer (some ⟨g,0,none⟩),.int .i64 I,.func (.func fid) #[.pointer (some ⟨g,0,none⟩)] #[]] w fun x w'=>∃ v,KRet w0 w g (gLs K one s).2 v x w'∧OwnM w.heap.size w' v (gLs K one s).1:=by
 subst hI
 have y0:=hM.2 i hi
 have l0:=hM.1
 rw [hK] at y0
 have hK0:0≤K∧K≤256:=by
  rw [← hK]
  unfold mst
  split <;> omega
 have hi2:(i:Int)<4:=by omega
 have HU:=Lh (Zb1 w0 w g s K h)
 have hN:=Zk3 hK0.1 h.fit
 have hsl:=ZbA K s
 have hlt:=h.lt
 have hge:w0.heap.size≤g:=h.base
 have hF:gLs K one s=gIt one (gUp K s).1.toNat [] (gUp K s).2:=rfl
 obtain⟨F,hFF⟩:∃ F,gLs K one s=F:=⟨_,rfl⟩
 rw [hFF] at hF ⊢
 obtain⟨U,hU⟩:∃ U,gUp K s=U:=⟨_,rfl⟩
 rw [hU] at HU hN hsl hF
 obtain⟨n,s1⟩:=U
 simp only at HU hN hsl hF
 obtain⟨N,rfl⟩:∃ N:Nat,n=N:=⟨n.toNat,by omega⟩
 rw [Int.toNat_natCast] at hF
 have hN2:N≤256:=by omega
 have HF:=Lh hF
 have HO:=Lh hone
 have HL:=Lh hle
 have HSL:=Lh hsl
 clear h hM hone hle hN hK hU hF hFF hsl hK0
 go_enter Tryz.func92,Tryz.ntmps92
 go_wp2_with fail
 refine HU.out.mono ?_
 rintro x w1 ⟨rfl,h1,g1⟩
 have H1:=Lh h1
 have G1:=Lh g1
 clear h1 g1 y0 l0
 go_wp2_with fail
 go_loopw [8] (fun v wr=>∃ (acc:List Me) (es:List MeV) (s':RSt) (A:Option Addr) (c:Nat),v=.slice A acc.length c∧acc.length≤N∧Hid (F=gIt one (N-acc.length) acc s')∧Hid (RK w0 wr g s')∧Hid (ShM.Own w.heap.size wr v es∧es.map (·.1)=acc)∧Hid (w.grownBy wr (some g))∧Hid (s'.1.length≤s.1.length)) (fun v _=>N-slen v)
 case atStart=>exact⟨[],[],s1,none,0,rfl,Nat.zero_le _,Lh HF.out,H1,Lh ⟨Shp.Own.nil _ _ _,rfl⟩,G1,HSL⟩
 case round =>
  obtain⟨acc,es,s',A,c,rfl,hq,HQ,HR,HA,HG,HS⟩:=hrel
  rename World=>wo
  obtain⟨q,hqq⟩:∃ q,acc.length=q:=⟨_,rfl⟩
  rw [hqq] at hq HQ HA ⊢
  have HQQ:=Lh hqq
  clear hqq
  obtain⟨A2,c2,-,-,-,d0,d1,e0,e1⟩:=HR.out.cells
  have hgo:=HR.out.lt
  obtain⟨l',b'⟩:=s'
  simp only at d0 d1 HS
  by_cases hlq:q<N
  ·cases b'
   ·have HE:=Lh (HQ.out.trans (ZfA hlq rfl))
    have HC:=Lh (HO.out wo (l',false) HR.out HS.out)
    have HL2:=Lh (HL.out (l',false))
    obtain⟨Y,hY⟩:∃ Y,one (l',false)=Y:=⟨_,rfl⟩
    rw [hY] at HE HC HL2
    obtain⟨y,s2⟩:=Y
    simp only at HE HC HL2
    clear hY
    unfold Me.vals at HC
    go_wp2_with fail
    refine HC.out.mono ?_
    rintro x w2 ⟨va,vc,vh,⟨rfl,h2,g2⟩,hn⟩
    have H2:=Lh h2
    obtain⟨Va,ca,rfl,-⟩:=(show ShT.Own wo.heap.size w2 va y.args from hn.1).slice
    obtain⟨Vc,nc,cc,rfl⟩:=(show Own wo.heap.size w2 5 .u8 vc y.code from hn.2.1).slice
    obtain⟨Vh,ch,rfl,-⟩:=(show ShH.Own wo.heap.size w2 vh y.hs from hn.2.2).slice
    have HN0:=Lh hn
    have HO2:=Lh (HA.out.1.keptU g2 hlt (fun _ h=>NestMO.keptU h g2 hlt))
    have HE2:=Lh HA.out.2
    have HLE:Hid (es.length=q):=Lh (by have:=congrArg List.length HE2.out;rw [List.length_map] at this;rw [this];exact HQQ.out)
    have HG2:=Lh (Zae HG.out g2)
    have hs2:=g2.size
    have hs3:=HG.out.size
    clear h2 g2 hn d0 d1 e0 e1
    have HN1:Hid (ShM.nestO w.heap.size w2 (y,Value.slice Va y.args.length ca,Value.slice Vc nc cc,Value.slice Vh y.hs.length ch)):=Lh (HN0.out.base hs3)
    go_wp2_with (at_builtin;go_loud (refine Shp.wpList_app ShM _ rfl _ _ w.heap.size 25 _ 136 rfl Tryz.underlying25 ZqU rfl (by decide) (.slice A q c) es rfl (HO2.out.ext ((Ext.refl w2).alloc _)) (.slice (some ⟨w2.heap.size,0,none⟩) 1 1) [(y,Value.slice Va y.args.length ca,Value.slice Vc nc cc,Value.slice Vh y.hs.length ch)] rfl (Shp.Row.single (S:=ShM) (BK.new w2 _ _) (ShM.low (ShM.extO HN1.out ((Ext.refl w2).alloc _)))) (fun e he=>by rw [List.mem_singleton.1 he];exact ShM.extO HN1.out ((Ext.refl w2).alloc _)) (by rw [HLE.out];simp;omega) (by simp;omega) ?_);intro v3 w3 o3 g3 hb3)
    have H3:=(H2.out.ext ((Ext.refl w2).alloc (.cells #[.bool y.st,.bool y.ab,.string y.nm,.int .i64 y.ret.k,.string y.ret.s,.slice Va y.args.length ca,.int .i64 y.sk,.int .i64 y.lo,.slice Vc nc cc,.slice Vh y.hs.length ch] 47))).kept g3 (fun k hk=>⟨fun e=>by have:=HO2.out.low k hk;omega,by have:=HO2.out.low k hk;omega⟩)
    have G3:=ZdI HG2.out ((Ext.refl w2).alloc (.cells #[.bool y.st,.bool y.ab,.string y.nm,.int .i64 y.ret.k,.string y.ret.s,.slice Va y.args.length ca,.int .i64 y.sk,.int .i64 y.lo,.slice Vc nc cc,.slice Vh y.hs.length ch] 47)) g3 (fun k hk=>HO2.out.low k hk)
    obtain⟨A3,c3,rfl,-⟩:=o3.slice
    have hes:(es++[((y,Value.slice Va y.args.length ca,Value.slice Vc nc cc,Value.slice Vh y.hs.length ch):MeV)]).map (·.1)=acc++[y]:=by rw [List.map_append,HE2.out];rfl
    have hel:(es++[((y,Value.slice Va y.args.length ca,Value.slice Vc nc cc,Value.slice Vh y.hs.length ch):MeV)]).length=(acc++[y]).length:=by rw [← hes,List.length_map]
    have hq1:(acc++[y]).length=q+1:=by rw [List.length_append,HQQ.out];rfl
    rw [hel,hq1] at o3 ⊢
    refine⟨⟨acc++[y],es++[(y,Value.slice Va y.args.length ca,Value.slice Vc nc cc,Value.slice Vh y.hs.length ch)],s2,A3,c3,by rw [hq1],by omega,Lh (by rw [hq1];exact HE.out),Lh H3,Lh ⟨o3,hes⟩,Lh G3,Lh (Nat.le_trans HL2.out HS.out)⟩,by show N-(q+1)<N-q;omega⟩
   ·have HE:=Lh (HQ.out.trans (Zcl (.inr rfl)))
    go_wp2
    go_ret
    rw [HE.out]
    exact⟨_,⟨rfl,HR.out,HG.out⟩,⟨_,HA.out.2,HA.out.1⟩⟩
  ·have HE:=Lh (HQ.out.trans (Zcl (.inl hlq)))
   clear d0 d1 e0 e1
   go_wp2
   go_ret
   rw [HE.out]
   exact⟨_,⟨rfl,HR.out,HG.out⟩,⟨_,HA.out.2,HA.out.1⟩⟩
end Go.Proofs.YtclamhhgldkhnaaGreatDoor
