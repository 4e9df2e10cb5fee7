/- The document's Zen of layer 8, walked.  -/
import Derived.Test.YtclamhhgldkhnaaGreatDoorZwQClAll
import Derived.Test.YtclamhhgldkhnaaGreatDoorZwQClRc
import Derived.Test.YtclamhhgldkhnaaGreatDoorZwAH
namespace Go.Proofs.YtclamhhgldkhnaaGreatDoor
open Go.RowKit
set_option linter.unusedVariables false
set_option maxHeartbeats 16000000
set_option maxRecDepth 100000 in
theorem Ze3 (c:Cl) (vp vi vf vm:Value) (w:World) (h:ClAt w c vp vi vf vm) (hr:ClRoom c) (hg:Good c) (hT:Tabs w) (hR:Room c.pool) (hZ:okCl c=true→(Zbd c.pool).length+6000000≤140737488355328) :
 Calls Tryz.prog 8 #[.agg (c.vals vp vi vf vm)] w (Ret w (BAns w.heap.size (Zc3 c))):=by
 have X0:=(Ext.refl w).alloc (.cells (c.vals vp vi vf vm) 27)
 have HC:=Lh (ZcE c vp vi vf vm _ (h.ext X0) hr (hT.ext X0) hR)
 have B0:=Lh (BK.new w (c.vals vp vi vf vm) 27)
 obtain⟨G,hG⟩:∃ G,Zc3 c=G:=⟨_,rfl⟩
 have HX0:=Lh X0
 rw [hG]
 have H:=Lh h
 have HT:=Lh hT
 by_cases hok:okCl c=true
 ·have hck:chkK c=0:=by unfold chkK;rw [if_pos hok]
  rw [hck] at HC
  have HG:=Lh (show G=if 65535<(clZ c).length then ([],5) else (clZ c,0) by rw [← hG];unfold Zc3;rw [if_pos hok])
  have hz:=hZ hok
  have HA:=Lh (fun W (e:Ext w W)=>Zmw c vp vi vf vm W (h.ext e) hr hg hok (hT.ext e) hR hz)
  obtain⟨cz,hcz⟩:∃ l,clZ c=l:=⟨_,rfl⟩
  rw [hcz] at HG
  simp only [hcz] at HA
  clear hG h hr hg hT hZ hok hck hz hcz X0 hR
  unfold Cl.vals at HC B0 HX0 HA ⊢
  go_enter Tryz.func8,Tryz.ntmps8
  go_wp2_with fail
  refine HC.out.mono ?_
  rintro x w1 ⟨rfl,x1⟩
  have X1:=Lh (HX0.out.trans x1)
  have B1:=Lh (B0.out.ext x1)
  obtain⟨z0,z1,z2,z3,z4,z5,z6⟩:=ZaC B1.out
  clear x1
  go_wp2_with fail
  refine(HA.out w1 X1.out).mono ?_
  rintro x w2 ⟨u,rfl,o2,x2⟩
  obtain⟨A2,c2,rfl,-⟩:=id o2.row
  have O2:=Lh (o2.base X1.out.size)
  have X2:=Lh (X1.out.trans x2)
  obtain⟨m,hm⟩:∃ m,cz.length=m:=⟨_,rfl⟩
  rw [hm] at O2 HG ⊢
  clear z0 z1 z2 z3 z4 z5 z6 o2 x2 hm
  by_cases hbig:65535<m
  ·have HE:=Lh (show G=([],5) by rw [HG.out,if_pos hbig])
   go_wp2
   go_ret2
   rw [HE.out]
   exact Ret.mk ⟨_,rfl,Own.nil _ _ _ _⟩ X2.out
  ·have HE:=Lh (show G=(cz,0) by rw [HG.out,if_neg hbig])
   go_wp2
   go_ret2
   rw [HE.out]
   exact Ret.mk ⟨_,rfl,O2.out⟩ X2.out
 ·have hck:chkK c=80:=by unfold chkK;rw [if_neg hok]
  rw [hck] at HC
  have HE:=Lh (show G=([],80) by rw [← hG];unfold Zc3;rw [if_neg hok])
  clear hG h hr hg hT hZ hok hck X0 hR
  unfold Cl.vals at HC B0 HX0 ⊢
  go_enter Tryz.func8,Tryz.ntmps8
  go_wp2_with fail
  refine HC.out.mono ?_
  rintro x w1 ⟨rfl,x1⟩
  have X1:=Lh (HX0.out.trans x1)
  clear x1
  go_wp2
  go_ret2
  rw [HE.out]
  exact Ret.mk ⟨_,rfl,Own.nil _ _ _ _⟩ X1.out
end Go.Proofs.YtclamhhgldkhnaaGreatDoor
