/- ClassWrites, walked. -/
import Derived.Test.YtclamhhgldkhnaaGreatDoorZwAL
import Derived.Test.YtclamhhgldkhnaaGreatDoorZwAC
import Derived.Test.YtclamhhgldkhnaaGreatDoorZwQClAll2
import Derived.Test.YtclamhhgldkhnaaGreatDoorZwQClCp
import Derived.Test.YtclamhhgldkhnaaGreatDoorZwW
import Derived.Deep.RegionHeld3
namespace Go.Proofs.YtclamhhgldkhnaaGreatDoor
open Go.RowKit
set_option linter.unusedVariables false
set_option maxHeartbeats 16000000
set_option maxRecDepth 100000 in
theorem Zfj (w:World) (hT:Tabs w) (hM:Most w) (a:Cl) (vp vi vf vm:Value) (h:ClAt w a vp vi vf vm) (hr:ClRoom a) (hs:ClSize a) (hy:tot a.pool≤1048576) (b:Cl) (vp' vi' vf' vm':Value) (h':ClAt w b vp' vi' vf' vm') (hr':ClRoom b) (hs':ClSize b) (hy':tot b.pool≤1048576) :
 Calls Tryz.prog 3 #[.agg (a.vals vp vi vf vm),.agg (b.vals vp' vi' vf' vm')] w fun e w'=>e=.returned (.bool true)∧Ext w w':=by
 have hg:=Zra h hr
 have l1:=Zmd a.pool
 have hR:Room a.pool:=Zqo hy
 have hCP:=fun W (e:Ext w W)=>Zht a vp vi vf vm W (h.ext e) hs
 obtain⟨Ap,Akp,rfl,-⟩:=h.1.cut
 obtain⟨Ai,Aki,rfl,-⟩:=h.2.1.cut
 obtain⟨Af,Akf,rfl,-⟩:=h.2.2.1.cut
 obtain⟨Am,Akm,rfl,-⟩:=h.2.2.2.cut
 obtain⟨Dp,Dkp,rfl,-⟩:=h'.1.cut
 obtain⟨Di,Dki,rfl,-⟩:=h'.2.1.cut
 obtain⟨Df,Dkf,rfl,-⟩:=h'.2.2.1.cut
 obtain⟨Dm,Dkm,rfl,-⟩:=h'.2.2.2.cut
 have X0:=Lh (((Ext.refl w).alloc (.cells #[.slice Ap a.pool.length Akp,.string a.nm,.string a.sup,.bool a.inf,.slice Ai a.ifs.length Aki,.slice Af a.fds.length Akf,.slice Am a.mts.length Akm] 27)).alloc (.cells #[.slice Dp b.pool.length Dkp,.string b.nm,.string b.sup,.bool b.inf,.slice Di b.ifs.length Dki,.slice Df b.fds.length Dkf,.slice Dm b.mts.length Dkm] 27))
 have BX:=Lh (fun W (e:Ext ((w.alloc (.cells #[.slice Ap a.pool.length Akp,.string a.nm,.string a.sup,.bool a.inf,.slice Ai a.ifs.length Aki,.slice Af a.fds.length Akf,.slice Am a.mts.length Akm] 27)).alloc (.cells #[.slice Dp b.pool.length Dkp,.string b.nm,.string b.sup,.bool b.inf,.slice Di b.ifs.length Dki,.slice Df b.fds.length Dkf,.slice Dm b.mts.length Dkm] 27)) W)=>(show BK _ w.heap.size #[.slice Ap a.pool.length Akp,.string a.nm,.string a.sup,.bool a.inf,.slice Ai a.ifs.length Aki,.slice Af a.fds.length Akf,.slice Am a.mts.length Akm] 27 from(BK.new w #[.slice Ap a.pool.length Akp,.string a.nm,.string a.sup,.bool a.inf,.slice Ai a.ifs.length Aki,.slice Af a.fds.length Akf,.slice Am a.mts.length Akm] 27).ext ((Ext.refl _).alloc (.cells #[.slice Dp b.pool.length Dkp,.string b.nm,.string b.sup,.bool b.inf,.slice Di b.ifs.length Dki,.slice Df b.fds.length Dkf,.slice Dm b.mts.length Dkm] 27))).ext e)
 have BY:=Lh (fun W (e:Ext ((w.alloc (.cells #[.slice Ap a.pool.length Akp,.string a.nm,.string a.sup,.bool a.inf,.slice Ai a.ifs.length Aki,.slice Af a.fds.length Akf,.slice Am a.mts.length Akm] 27)).alloc (.cells #[.slice Dp b.pool.length Dkp,.string b.nm,.string b.sup,.bool b.inf,.slice Di b.ifs.length Dki,.slice Df b.fds.length Dkf,.slice Dm b.mts.length Dkm] 27)) W)=>(show BK _ (w.heap.size+1) #[.slice Dp b.pool.length Dkp,.string b.nm,.string b.sup,.bool b.inf,.slice Di b.ifs.length Dki,.slice Df b.fds.length Dkf,.slice Dm b.mts.length Dkm] 27 from by have:=BK.new (w.alloc (.cells #[.slice Ap a.pool.length Akp,.string a.nm,.string a.sup,.bool a.inf,.slice Ai a.ifs.length Aki,.slice Af a.fds.length Akf,.slice Am a.mts.length Akm] 27)) #[.slice Dp b.pool.length Dkp,.string b.nm,.string b.sup,.bool b.inf,.slice Di b.ifs.length Dki,.slice Df b.fds.length Dkf,.slice Dm b.mts.length Dkm] 27;simpa [BK] using this).ext e)
 have HCP:=Lh hCP
 clear hCP
 have HA:=Lh h
 have HA':=Lh h'
 unfold Cl.vals at HCP ⊢
 go_enter Tryz.func3,Tryz.ntmps3
 go_wp2_with fail
 refine(HCP.out _ X0.out).mono ?_
 rintro e w1 ⟨vp1,vi1,vf1,vm1,rfl,ho1,x1⟩
 have X1:=Lh (X0.out.trans x1)
 have E1:=Lh x1
 have h1:=ho1.at
 obtain⟨Ep',Ekp',rfl,-⟩:=h1.1.cut
 obtain⟨Ei',Eki',rfl,-⟩:=h1.2.1.cut
 obtain⟨Ef',Ekf',rfl,-⟩:=h1.2.2.1.cut
 obtain⟨Em',Ekm',rfl,-⟩:=h1.2.2.2.cut
 have XB:=Lh (X1.out.alloc (.cells #[.slice Ep' a.pool.length Ekp',.string a.nm,.string a.sup,.bool a.inf,.slice Ei' a.ifs.length Eki',.slice Ef' a.fds.length Ekf',.slice Em' a.mts.length Ekm'] 27))
 have EB:=Lh (E1.out.alloc (.cells #[.slice Ep' a.pool.length Ekp',.string a.nm,.string a.sup,.bool a.inf,.slice Ei' a.ifs.length Eki',.slice Ef' a.fds.length Ekf',.slice Em' a.mts.length Ekm'] 27))
 have BZ:=Lh (fun W (e:Ext (w1.alloc (.cells #[.slice Ep' a.pool.length Ekp',.string a.nm,.string a.sup,.bool a.inf,.slice Ei' a.ifs.length Eki',.slice Ef' a.fds.length Ekf',.slice Em' a.mts.length Ekm'] 27)) W)=>(show BK _ w1.heap.size #[.slice Ep' a.pool.length Ekp',.string a.nm,.string a.sup,.bool a.inf,.slice Ei' a.ifs.length Eki',.slice Ef' a.fds.length Ekf',.slice Em' a.mts.length Ekm'] 27 from BK.new w1 #[.slice Ep' a.pool.length Ekp',.string a.nm,.string a.sup,.bool a.inf,.slice Ei' a.ifs.length Eki',.slice Ef' a.fds.length Ekf',.slice Em' a.mts.length Ekm'] 27).ext e)
 have HI:=Lh (h1.ext ((Ext.refl w1).alloc (.cells #[.slice Ep' a.pool.length Ekp',.string a.nm,.string a.sup,.bool a.inf,.slice Ei' a.ifs.length Eki',.slice Ef' a.fds.length Ekf',.slice Em' a.mts.length Ekm'] 27)))
 have hB:=fun W (e:Ext (w1.alloc (.cells #[.slice Ep' a.pool.length Ekp',.string a.nm,.string a.sup,.bool a.inf,.slice Ei' a.ifs.length Eki',.slice Ef' a.fds.length Ekf',.slice Em' a.mts.length Ekm'] 27)) W)=>ZdS a _ _ _ _ W (HI.out.ext e) hr hg (hT.ext (XB.out.trans e)) (hM.ext (XB.out.trans e)) (fun _=>by omega)
 have hB2:=fun W (e:Ext w W)=>Ze3 a _ _ _ _ W (HA.out.ext e) hr hg (hT.ext e) hR (fun _=>by omega)
 obtain⟨⟨la,ea⟩,hea⟩:∃ r,Zc3 a=r:=⟨_,rfl⟩
 simp only [hea] at hB hB2
 have HB:=Lh hB
 have HB2:=Lh hB2
 clear hB hB2 ho1 x1 h1 hea HCP
 unfold Cl.vals at HB HB2
 go_wp2_with fail
 refine(HB.out _ (Ext.refl _)).mono ?_
 rintro e w2 ⟨u,rfl,⟨v2,rfl,ho2⟩,x2⟩
 have F2:=Lh x2
 have X2:=Lh (XB.out.trans x2)
 have R2:=Lh ho2.row
 obtain⟨A2,k2,rfl,-⟩:=id ho2.row
 obtain⟨q0,q1,q2,q3,q4,q5,q6⟩:=ZaC (BX.out w2 (EB.out.trans x2))
 clear ho2 x2
 go_wp2_with fail
 refine(HB2.out _ X2.out).mono ?_
 rintro e w3 ⟨u,rfl,⟨v3,rfl,ho3⟩,x3⟩
 have F3:=Lh (F2.out.trans x3)
 have E3:=Lh (EB.out.trans F3.out)
 have X3:=Lh (X2.out.trans x3)
 have R2':=Lh (R2.out.ext x3)
 have R3:=Lh ho3.row
 obtain⟨A3,k3,rfl,-⟩:=id ho3.row
 clear ho3 x3 q0 q1 q2 q3 q4 q5 q6
 have HFF:Hid (∀ W,Ext w3 W→(W.cell? ⟨w.heap.size,0,none⟩=some (.slice Ap a.pool.length Akp)∧W.cell? ⟨w.heap.size,1,none⟩=some (.string a.nm)∧W.cell? ⟨w.heap.size,2,none⟩=some (.string a.sup)∧W.cell? ⟨w.heap.size,3,none⟩=some (.bool a.inf)∧W.cell? ⟨w.heap.size,4,none⟩=some (.slice Ai a.ifs.length Aki)∧W.cell? ⟨w.heap.size,5,none⟩=some (.slice Af a.fds.length Akf)∧W.cell? ⟨w.heap.size,6,none⟩=some (.slice Am a.mts.length Akm))∧(W.cell? ⟨w.heap.size+1,0,none⟩=some (.slice Dp b.pool.length Dkp)∧W.cell? ⟨w.heap.size+1,1,none⟩=some (.string b.nm)∧W.cell? ⟨w.heap.size+1,2,none⟩=some (.string b.sup)∧W.cell? ⟨w.heap.size+1,3,none⟩=some (.bool b.inf)∧W.cell? ⟨w.heap.size+1,4,none⟩=some (.slice Di b.ifs.length Dki)∧W.cell? ⟨w.heap.size+1,5,none⟩=some (.slice Df b.fds.length Dkf)∧W.cell? ⟨w.heap.size+1,6,none⟩=some (.slice Dm b.mts.length Dkm))∧(W.cell? ⟨w1.heap.size,0,none⟩=some (.slice Ep' a.pool.length Ekp')∧W.cell? ⟨w1.heap.size,1,none⟩=some (.string a.nm)∧W.cell? ⟨w1.heap.size,2,none⟩=some (.string a.sup)∧W.cell? ⟨w1.heap.size,3,none⟩=some (.bool a.inf)∧W.cell? ⟨w1.heap.size,4,none⟩=some (.slice Ei' a.ifs.length Eki')∧W.cell? ⟨w1.heap.size,5,none⟩=some (.slice Ef' a.fds.length Ekf')∧W.cell? ⟨w1.heap.size,6,none⟩=some (.slice Em' a.mts.length Ekm'))):=Lh (fun W e=>⟨ZaC (BX.out W (E3.out.trans e)),ZaC (BY.out W (E3.out.trans e)),ZaC (BZ.out W (F3.out.trans e))⟩)
 obtain⟨s,hs0⟩:∃ s,decide (a=b)=s:=⟨_,rfl⟩
 obtain⟨K,hK⟩:∃ K,chkK a=K:=⟨_,rfl⟩
 have C1:=Lh (fun W (e:Hid (Ext w3 W))=>(Zcm a _ _ _ _ W (HI.out.ext (F3.out.trans e.out)) hr (hT.ext (X3.out.trans e.out)) (hM.ext (X3.out.trans e.out))).mono (R':=fun z w'=>z=.returned (.int .i64 (chkK a))∧Hid (Ext w3 w')) (fun _ _ h=>⟨h.1,Lh (e.out.trans h.2)⟩))
 have C2:=Lh (fun W (e:Hid (Ext w3 W))=>(ZcE a _ _ _ _ W (HA.out.ext (X3.out.trans e.out)) hr (hT.ext (X3.out.trans e.out)) hR).mono (R':=fun z w'=>z=.returned (.int .i64 (chkK a))∧Hid (Ext w3 w')) (fun _ _ h=>⟨h.1,Lh (e.out.trans h.2)⟩))
 have C3:=Lh (fun W (e:Hid (Ext w3 W))=>(Zgs _ _ la la W (R2'.out.ext e.out) (R3.out.ext e.out)).mono (R':=fun z w'=>z=.returned (.bool (decide (la=la)))∧Hid (Ext w3 w')) (fun _ _ h=>⟨h.1,Lh (e.out.trans h.2)⟩))
 have C4:=Lh (fun W (e:Hid (Ext w3 W))=>(Zhn a b _ _ _ _ _ _ _ _ W (HI.out.ext (F3.out.trans e.out)) (HA'.out.ext (X3.out.trans e.out)) hr hr').mono (R':=fun z w'=>z=.returned (.bool (decide (a=b)))∧Hid (Ext w3 w')) (fun _ _ h=>⟨h.1,Lh (e.out.trans h.2)⟩))
 have C5:=Lh (fun W (e:Hid (Ext w3 W))=>(ZbK a b _ _ _ _ _ _ _ _ W (HA.out.ext (X3.out.trans e.out)) (HA'.out.ext (X3.out.trans e.out)) hr hr').mono (R':=fun z w'=>z=.returned (.bool (decide (a=b)))∧Hid (Ext w3 w')) (fun _ _ h=>⟨h.1,Lh (e.out.trans h.2)⟩))
 have C6:=Lh (fun W (e:Hid (Ext w3 W))=>(ZbK a a _ _ _ _ _ _ _ _ W (HI.out.ext (F3.out.trans e.out)) (HA.out.ext (X3.out.trans e.out)) hr hr).mono (R':=fun z w'=>z=.returned (.bool (decide (a=a)))∧Hid (Ext w3 w')) (fun _ _ h=>⟨h.1,Lh (e.out.trans h.2)⟩))
 have C7:=Lh (fun W (e:Hid (Ext w3 W))=>(Zkg W (hT.ext (X3.out.trans e.out)) (hM.ext (X3.out.trans e.out))).mono (R':=fun z w'=>z=.returned (.bool true)∧Hid (Ext w3 w')) (fun _ _ h=>⟨h.1,Lh (e.out.trans h.2)⟩))
 rw [hK] at C1 C2
 rw [decide_eq_true (rfl:la=la)] at C3
 rw [hs0] at C4 C5
 rw [decide_eq_true (rfl:a=a)] at C6
 have hss:(s==s)=true:=by cases s <;> rfl
 have hee:(ea==ea)=true:=by simp
 have hkk:(K==K)=true:=by simp
 have z0:=Lh ((Ext.refl w3).drew)
 have f0:=HFF.out _ z0.out
 clear HB HB2 hs0 hK hT hM hg l1 hR hs hs' hy hy' hr hr' h h' R2 R2' R3 HA HA' HI X0 X1 X2 E1 XB EB F2 F3 E3 BX BY BZ
 unfold Cl.vals at C1 C2 C4 C5 C6
 go_wp2_with fail
 go_region_held3 (fun w'=>(w'.cell? ⟨w.heap.size,0,none⟩=some (.slice Ap a.pool.length Akp)∧w'.cell? ⟨w.heap.size,1,none⟩=some (.string a.nm)∧w'.cell? ⟨w.heap.size,2,none⟩=some (.string a.sup)∧w'.cell? ⟨w.heap.size,3,none⟩=some (.bool a.inf)∧w'.cell? ⟨w.heap.size,4,none⟩=some (.slice Ai a.ifs.length Aki)∧w'.cell? ⟨w.heap.size,5,none⟩=some (.slice Af a.fds.length Akf)∧w'.cell? ⟨w.heap.size,6,none⟩=some (.slice Am a.mts.length Akm))∧(w'.cell? ⟨w.heap.size+1,0,none⟩=some (.slice Dp b.pool.length Dkp)∧w'.cell? ⟨w.heap.size+1,1,none⟩=some (.string b.nm)∧w'.cell? ⟨w.heap.size+1,2,none⟩=some (.string b.sup)∧w'.cell? ⟨w.heap.size+1,3,none⟩=some (.bool b.inf)∧w'.cell? ⟨w.heap.size+1,4,none⟩=some (.slice Di b.ifs.length Dki)∧w'.cell? ⟨w.heap.size+1,5,none⟩=some (.slice Df b.fds.length Dkf)∧w'.cell? ⟨w.heap.size+1,6,none⟩=some (.slice Dm b.mts.length Dkm))∧(w'.cell? ⟨w1.heap.size,0,none⟩=some (.slice Ep' a.pool.length Ekp')∧w'.cell? ⟨w1.heap.size,1,none⟩=some (.string a.nm)∧w'.cell? ⟨w1.heap.size,2,none⟩=some (.string a.sup)∧w'.cell? ⟨w1.heap.size,3,none⟩=some (.bool a.inf)∧w'.cell? ⟨w1.heap.size,4,none⟩=some (.slice Ei' a.ifs.length Eki')∧w'.cell? ⟨w1.heap.size,5,none⟩=some (.slice Ef' a.fds.length Ekf')∧w'.cell? ⟨w1.heap.size,6,none⟩=some (.slice Em' a.mts.length Ekm'))) (first | with_reducible assumption) (first
  | (go_at_call 9;(with_reducible refine(C1.out _ (by assumption)).mono ?_);rintro e' y1 ⟨rfl,z1⟩;have f1:=HFF.out y1 z1.out)
  | (go_at_call 10;(with_reducible refine(C2.out _ (by assumption)).mono ?_);rintro e' y2 ⟨rfl,z2⟩;have f2:=HFF.out y2 z2.out)
  | (go_at_call 11;(with_reducible refine(C3.out _ (by assumption)).mono ?_);rintro e' y3 ⟨rfl,z3⟩;have f3:=HFF.out y3 z3.out)
  | (go_at_call 12;(with_reducible refine(C4.out _ (by assumption)).mono ?_);rintro e' y4 ⟨rfl,z4⟩;have f4:=HFF.out y4 z4.out)
  | (go_at_call 13;(with_reducible refine(C5.out _ (by assumption)).mono ?_);rintro e' y5 ⟨rfl,z5⟩;have f5:=HFF.out y5 z5.out)
  | (go_at_call 13;(with_reducible refine(C6.out _ (by assumption)).mono ?_);rintro e' y6 ⟨rfl,z6⟩;have f6:=HFF.out y6 z6.out)
  | (go_at_call 14;(with_reducible refine(C7.out _ (by assumption)).mono ?_);rintro e' y7 ⟨rfl,z7⟩;have f7:=HFF.out y7 z7.out)
  | fail)
 go_wp2
 go_ret
 exact⟨rfl,X3.out.trans z7.out⟩
end Go.Proofs.YtclamhhgldkhnaaGreatDoor
