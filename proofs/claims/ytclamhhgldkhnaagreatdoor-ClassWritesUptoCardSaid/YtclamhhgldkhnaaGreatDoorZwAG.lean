/- Several texts of this proof, one behind the other. -/
import Derived.Test.YtclamhhgldkhnaaGreatDoorZwAF
import Derived.Test.YtclamhhgldkhnaaGreatDoorZwAC
namespace Go.Proofs.YtclamhhgldkhnaaGreatDoor
open Go.RowKit
set_option linter.unusedVariables false
set_option maxHeartbeats 16000000
theorem ZcV {α:Type} {f:α→List Int} {b:Nat}:∀ {l:List α},(∀ x∈l,(f x).length≤b)→(l.flatMap f).length≤l.length*b:=by
 intro l
 induction l with
 | nil=>intro _;simp
 | cons x l ih =>
  intro h
  rw [List.flatMap_cons,List.length_append,List.length_cons,Nat.add_mul]
  have:=h x (List.mem_cons_self ..)
  have:=ih fun y hy=>h y (List.mem_cons_of_mem _ hy)
  omega
theorem ZdH {α:Type} {f:α→List Int} {l:List α} {k:Nat} {x:α} (h:l[k]?=some x):(l.take (k+1)).flatMap f=(l.take k).flatMap f++f x:=by
 obtain⟨hk,rfl⟩:=List.getElem?_eq_some_iff.1 h
 rw [List.take_succ_eq_append_getElem hk,List.flatMap_append]
 simp
theorem ZiV (w0 w:World) (g:Nat) (l:List Int) (x:Hd) (h:WR w0 w g l) (hx:HdOk x) (hz:l.length+32≤140737488355328) :
 Calls Tryz.prog 116 #[.pointer (some ⟨g,0,none⟩),.agg x.vals] w (WRet w0 w g (l++hdZ x)):=by
 obtain⟨a,b,c,d⟩:=x
 obtain⟨h1,h2,h3,h4⟩:=hx
 simp only at h1 h2 h3 h4
 have e:([a,b,c,d]:List Int).flatMap nu=hdZ ⟨a,b,c,d⟩:=by simp [hdZ]
 have HN:=Lh (ZaT w0 ((w.alloc (.cells #[.int .i64 a,.int .i64 b,.int .i64 c,.int .i64 d] 53)).alloc (.cells #[.int .i64 a,.int .i64 b,.int .i64 c,.int .i64 d] 3)) g l [a,b,c,d] (w.heap.size+1) 4 rfl (h.ext (((Ext.refl w).alloc _).alloc _)) (fun n hn=>by simp at hn;rcases hn with rfl | rfl | rfl | rfl <;> assumption) (by have:=BK.new (w.alloc (.cells #[.int .i64 a,.int .i64 b,.int .i64 c,.int .i64 d] 53)) #[.int .i64 a,.int .i64 b,.int .i64 c,.int .i64 d] 3;simpa [BK] using this) (by simp;omega))
 rw [e] at HN
 have K:=Lh (Kp.ext (((Ext.refl w).alloc (.cells #[.int .i64 a,.int .i64 b,.int .i64 c,.int .i64 d] 53)).alloc (.cells #[.int .i64 a,.int .i64 b,.int .i64 c,.int .i64 d] 3)))
 obtain⟨L,hL⟩:∃ L,l++hdZ ⟨a,b,c,d⟩=L:=⟨_,rfl⟩
 rw [hL] at HN ⊢
 unfold Hd.vals
 clear h h1 h2 h3 h4 e hL hz
 go_enter Tryz.func116,Tryz.ntmps116
 go_wp2_with fail
 refine HN.out.mono ?_
 rintro x w1 ⟨rfl,h1,k1⟩
 go_wp2
 refine bodyPost_ret (Zak rfl _ _ _) rfl ?_
 exact⟨rfl,h1,K.out.trans k1⟩
set_option maxRecDepth 100000 in
theorem ZoO (w0 w:World) (g:Nat) (l:List Int) (fid:FuncId) (enc:ByteArray→List Int) (M:Nat) (v:Value) (xs:List ByteArray) (h:WR w0 w g l) (hr:ShS.Row w0 v xs) (hn:xs.length≤256) (hz:l.length+8+xs.length*M≤140737488355328) (hm:∀ x∈xs,(enc x).length≤M)
 (hc:∀ args W,(callFunc fid args).run Tryz.prog W=.ok (.enter fid args) W) (hone:∀ W l x,x∈xs→WR w0 W g l→l.length+M≤140737488355328→Calls Tryz.prog fid #[.pointer (some ⟨g,0,none⟩),.string x] W (WRet w0 W g (l++enc x))) :
 Calls Tryz.prog 60 #[.pointer (some ⟨g,0,none⟩),v,.func (.func fid) #[.pointer (some ⟨g,0,none⟩)] #[]] w (WRet w0 w g (l++lsZ enc xs)):=by
 have HR:=Lh hr
 have HN:=Lh (ZaT w0 (w.alloc (.cells #[.int .i64 xs.length] 3)) g l [(xs.length:Int)] w.heap.size 1 rfl (h.ext ((Ext.refl w).alloc _)) (fun n hn=>by rw [List.mem_singleton.1 hn];exact⟨by omega,by omega⟩) (BK.new w _ _) (by simp;omega))
 rw [ZcN] at HN
 have K0:=Lh (Kp.ext ((Ext.refl w).alloc (.cells #[.int .i64 xs.length] 3)))
 have hl8:=Zaz (n:=(xs.length:Int)) ⟨by omega,by omega⟩
 obtain⟨A,c,rfl,hc0,hcm,-⟩:=hr.cut
 unfold maxLen at hcm
 obtain⟨n,hnn⟩:∃ n,xs.length=n:=⟨_,rfl⟩
 have HNN:=Lh hnn
 have HZ:=Lh hz
 have HM:=Lh hm
 have HO:=Lh hone
 have HE:Hid (l++lsZ enc xs=(l++nu n)++xs.flatMap enc):=Lh (by unfold lsZ;rw [hnn,List.append_assoc])
 rw [hnn] at HN K0 hc0 hl8 HR hn ⊢
 have HL8:=Lh (show (l++nu n).length≤l.length+8 by rw [List.length_append];omega)
 obtain⟨L0,hL0⟩:∃ L,l++nu (n:Int)=L:=⟨_,rfl⟩
 rw [hL0] at HN HE HL8
 obtain⟨L,hL⟩:∃ L,l++lsZ enc xs=L:=⟨_,rfl⟩
 rw [hL] at HE ⊢
 clear h hr hz hm hone hnn hl8 hL0 hL
 go_enter Tryz.func60,Tryz.ntmps60
 go_wp2_with fail
 refine HN.out.mono ?_
 rintro x w1 ⟨rfl,h1,k1⟩
 have H1:=Lh h1
 have K1:=Lh (K0.out.trans k1)
 clear h1 k1
 go_wp2_with fail
 go_loopw [15] (fun i wr=>∃ (k:Nat),i=.int .i64 k∧k≤n∧Hid (WR w0 wr g (L0++(xs.take k).flatMap enc))∧Hid (Kp w wr)) (fun i _=>n-(intOf i).toNat)
 case atStart=>exact⟨0,rfl,by omega,Lh (by simpa using H1.out),K1⟩
 case round =>
  obtain⟨k,rfl,hk,HW,HK⟩:=hrel
  rename World=>wo
  by_cases hlt:k<n
  ·have hkl:k<xs.length:=by have:=HNN.out;omega
   obtain⟨b,o,rfl,hat⟩:=ZcT HR.out (by omega)
   have y0:=hat _ HW.out.ext0 k hkl
   have hbz:(L0++(xs.take k).flatMap enc).length+M≤140737488355328:=by
    have h1:=ZcV (l:=xs.take k) fun x hx=>HM.out x (List.mem_of_mem_take hx)
    rw [List.length_take,Nat.min_eq_left (by omega)] at h1
    have h2:=HZ.out
    have h3:=HL8.out
    have h4:(k+1)*M≤xs.length*M:=Nat.mul_le_mul_right _ hkl
    rw [Nat.add_mul] at h4
    rw [List.length_append]
    omega
   have hft:=ZdH (f:=enc) (Zjs hkl)
   have hmem:gs xs k∈xs:=Zgd hkl
   obtain⟨x,hx⟩:∃ x,gs xs k=x:=⟨_,rfl⟩
   rw [hx] at y0 hft hmem
   have HFT:=Lh hft
   have HC:=Lh (HO.out wo _ x hmem HW.out hbz)
   clear hat hx hkl hbz hft
   go_wp2_with fail
   refine HC.out.mono ?_
   rintro e w2 ⟨rfl,h2,k2⟩
   have H2:=Lh h2
   have K2:=Lh (HK.out.trans k2)
   clear h2 k2
   go_wp2_with fail
   go_roundw
   case rel=>exact⟨k+1,by go_num,by omega,Lh (by rw [HFT.out,← List.append_assoc];exact H2.out),K2⟩
   case measure=>simp [intOf];omega
  ·have HE2:=Lh (show L0++(xs.take k).flatMap enc=L by rw [List.take_of_length_le (by have:=HNN.out;omega)];exact HE.out.symm)
   go_wp2
   refine bodyPost_ret (Zak rfl _ _ _) rfl ?_
   exact⟨rfl,by rw [← HE2.out];exact HW.out,HK.out⟩
set_option maxRecDepth 100000 in
theorem Zqu (w0 w:World) (g:Nat) (l:List Int) (fid:FuncId) (enc:Fd→List Int) (M:Nat) (v:Value) (xs:List Fd) (h:WR w0 w g l) (hr:ShF.Row w0 v xs) (hn:xs.length≤256) (hz:l.length+8+xs.length*M≤140737488355328) (hm:∀ x∈xs,(enc x).length≤M)
 (hc:∀ args W,(callFunc fid args).run Tryz.prog W=.ok (.enter fid args) W) (hone:∀ W l x,x∈xs→WR w0 W g l→l.length+M≤140737488355328→Calls Tryz.prog fid #[.pointer (some ⟨g,0,none⟩),.agg x.vals] W (WRet w0 W g (l++enc x))) :
 Calls Tryz.prog 61 #[.pointer (some ⟨g,0,none⟩),v,.func (.func fid) #[.pointer (some ⟨g,0,none⟩)] #[]] w (WRet w0 w g (l++lsZ enc xs)):=by
 have HR:=Lh hr
 have HN:=Lh (ZaT w0 (w.alloc (.cells #[.int .i64 xs.length] 3)) g l [(xs.length:Int)] w.heap.size 1 rfl (h.ext ((Ext.refl w).alloc _)) (fun n hn=>by rw [List.mem_singleton.1 hn];exact⟨by omega,by omega⟩) (BK.new w _ _) (by simp;omega))
 rw [ZcN] at HN
 have K0:=Lh (Kp.ext ((Ext.refl w).alloc (.cells #[.int .i64 xs.length] 3)))
 have hl8:=Zaz (n:=(xs.length:Int)) ⟨by omega,by omega⟩
 obtain⟨A,c,rfl,hc0,hcm,-⟩:=hr.cut
 unfold maxLen at hcm
 obtain⟨n,hnn⟩:∃ n,xs.length=n:=⟨_,rfl⟩
 have HNN:=Lh hnn
 have HZ:=Lh hz
 have HM:=Lh hm
 have HO:=Lh hone
 have HE:Hid (l++lsZ enc xs=(l++nu n)++xs.flatMap enc):=Lh (by unfold lsZ;rw [hnn,List.append_assoc])
 rw [hnn] at HN K0 hc0 hl8 HR hn ⊢
 have HL8:=Lh (show (l++nu n).length≤l.length+8 by rw [List.length_append];omega)
 obtain⟨L0,hL0⟩:∃ L,l++nu (n:Int)=L:=⟨_,rfl⟩
 rw [hL0] at HN HE HL8
 obtain⟨L,hL⟩:∃ L,l++lsZ enc xs=L:=⟨_,rfl⟩
 rw [hL] at HE ⊢
 clear h hr hz hm hone hnn hl8 hL0 hL
 go_enter Tryz.func61,Tryz.ntmps61
 go_wp2_with fail
 refine HN.out.mono ?_
 rintro x w1 ⟨rfl,h1,k1⟩
 have H1:=Lh h1
 have K1:=Lh (K0.out.trans k1)
 clear h1 k1
 go_wp2_with fail
 go_loopw [15] (fun i wr=>∃ (k:Nat),i=.int .i64 k∧k≤n∧Hid (WR w0 wr g (L0++(xs.take k).flatMap enc))∧Hid (Kp w wr)) (fun i _=>n-(intOf i).toNat)
 case atStart=>exact⟨0,rfl,by omega,Lh (by simpa using H1.out),K1⟩
 case round =>
  obtain⟨k,rfl,hk,HW,HK⟩:=hrel
  rename World=>wo
  by_cases hlt:k<n
  ·have hkl:k<xs.length:=by have:=HNN.out;omega
   obtain⟨b,o,rfl,hat⟩:=ZcL HR.out (by omega)
   obtain⟨y0,y1,y2,y3⟩:=hat _ HW.out.ext0 k hkl
   have hbz:(L0++(xs.take k).flatMap enc).length+M≤140737488355328:=by
    have h1:=ZcV (l:=xs.take k) fun x hx=>HM.out x (List.mem_of_mem_take hx)
    rw [List.length_take,Nat.min_eq_left (by omega)] at h1
    have h2:=HZ.out
    have h3:=HL8.out
    have h4:(k+1)*M≤xs.length*M:=Nat.mul_le_mul_right _ hkl
    rw [Nat.add_mul] at h4
    rw [List.length_append]
    omega
   have hft:=ZdH (f:=enc) (ZhW hkl)
   have hmem:gf xs k∈xs:=Zex hkl
   obtain⟨x,hx⟩:∃ x,gf xs k=x:=⟨_,rfl⟩
   rw [hx] at y0 y1 y2 y3 hft hmem
   have HFT:=Lh hft
   have HC:=Lh (HO.out (wo.alloc (.cells #[.bool x.st,.string x.nm,.int .i64 x.ty.k,.string x.ty.s] 59)) _ x hmem (HW.out.ext ((Ext.refl wo).alloc _)) hbz)
   unfold Fd.vals at HC
   clear hat hx hkl hbz hft
   go_wp2_with fail
   refine HC.out.mono ?_
   rintro e w2 ⟨rfl,h2,k2⟩
   have H2:=Lh h2
   have K2:=Lh ((HK.out.trans (Kp.ext ((Ext.refl wo).alloc (.cells #[.bool x.st,.string x.nm,.int .i64 x.ty.k,.string x.ty.s] 59)))).trans k2)
   clear h2 k2
   go_wp2_with fail
   go_roundw
   case rel=>exact⟨k+1,by go_num,by omega,Lh (by rw [HFT.out,← List.append_assoc];exact H2.out),K2⟩
   case measure=>simp [intOf];omega
  ·have HE2:=Lh (show L0++(xs.take k).flatMap enc=L by rw [List.take_of_length_le (by have:=HNN.out;omega)];exact HE.out.symm)
   go_wp2
   refine bodyPost_ret (Zak rfl _ _ _) rfl ?_
   exact⟨rfl,by rw [← HE2.out];exact HW.out,HK.out⟩
set_option maxRecDepth 100000 in
theorem ZpO (w0 w:World) (g:Nat) (l:List Int) (fid:FuncId) (enc:Hd→List Int) (M:Nat) (v:Value) (xs:List Hd) (h:WR w0 w g l) (hr:ShH.Row w0 v xs) (hn:xs.length≤256) (hz:l.length+8+xs.length*M≤140737488355328) (hm:∀ x∈xs,(enc x).length≤M)
 (hc:∀ args W,(callFunc fid args).run Tryz.prog W=.ok (.enter fid args) W) (hone:∀ W l x,x∈xs→WR w0 W g l→l.length+M≤140737488355328→Calls Tryz.prog fid #[.pointer (some ⟨g,0,none⟩),.agg x.vals] W (WRet w0 W g (l++enc x))) :
 Calls Tryz.prog 115 #[.pointer (some ⟨g,0,none⟩),v,.func (.func fid) #[.pointer (some ⟨g,0,none⟩)] #[]] w (WRet w0 w g (l++lsZ enc xs)):=by
 have HR:=Lh hr
 have HN:=Lh (ZaT w0 (w.alloc (.cells #[.int .i64 xs.length] 3)) g l [(xs.length:Int)] w.heap.size 1 rfl (h.ext ((Ext.refl w).alloc _)) (fun n hn=>by rw [List.mem_singleton.1 hn];exact⟨by omega,by omega⟩) (BK.new w _ _) (by simp;omega))
 rw [ZcN] at HN
 have K0:=Lh (Kp.ext ((Ext.refl w).alloc (.cells #[.int .i64 xs.length] 3)))
 have hl8:=Zaz (n:=(xs.length:Int)) ⟨by omega,by omega⟩
 obtain⟨A,c,rfl,hc0,hcm,-⟩:=hr.cut
 unfold maxLen at hcm
 obtain⟨n,hnn⟩:∃ n,xs.length=n:=⟨_,rfl⟩
 have HNN:=Lh hnn
 have HZ:=Lh hz
 have HM:=Lh hm
 have HO:=Lh hone
 have HE:Hid (l++lsZ enc xs=(l++nu n)++xs.flatMap enc):=Lh (by unfold lsZ;rw [hnn,List.append_assoc])
 rw [hnn] at HN K0 hc0 hl8 HR hn ⊢
 have HL8:=Lh (show (l++nu n).length≤l.length+8 by rw [List.length_append];omega)
 obtain⟨L0,hL0⟩:∃ L,l++nu (n:Int)=L:=⟨_,rfl⟩
 rw [hL0] at HN HE HL8
 obtain⟨L,hL⟩:∃ L,l++lsZ enc xs=L:=⟨_,rfl⟩
 rw [hL] at HE ⊢
 clear h hr hz hm hone hnn hl8 hL0 hL
 go_enter Tryz.func115,Tryz.ntmps115
 go_wp2_with fail
 refine HN.out.mono ?_
 rintro x w1 ⟨rfl,h1,k1⟩
 have H1:=Lh h1
 have K1:=Lh (K0.out.trans k1)
 clear h1 k1
 go_wp2_with fail
 go_loopw [15] (fun i wr=>∃ (k:Nat),i=.int .i64 k∧k≤n∧Hid (WR w0 wr g (L0++(xs.take k).flatMap enc))∧Hid (Kp w wr)) (fun i _=>n-(intOf i).toNat)
 case atStart=>exact⟨0,rfl,by omega,Lh (by simpa using H1.out),K1⟩
 case round =>
  obtain⟨k,rfl,hk,HW,HK⟩:=hrel
  rename World=>wo
  by_cases hlt:k<n
  ·have hkl:k<xs.length:=by have:=HNN.out;omega
   obtain⟨b,o,rfl,hat⟩:=Zde HR.out (by omega)
   obtain⟨y0,y1,y2,y3⟩:=hat _ HW.out.ext0 k hkl
   have hbz:(L0++(xs.take k).flatMap enc).length+M≤140737488355328:=by
    have h1:=ZcV (l:=xs.take k) fun x hx=>HM.out x (List.mem_of_mem_take hx)
    rw [List.length_take,Nat.min_eq_left (by omega)] at h1
    have h2:=HZ.out
    have h3:=HL8.out
    have h4:(k+1)*M≤xs.length*M:=Nat.mul_le_mul_right _ hkl
    rw [Nat.add_mul] at h4
    rw [List.length_append]
    omega
   have hft:=ZdH (f:=enc) (ZjV hkl)
   have hmem:gh xs k∈xs:=Zli hkl
   obtain⟨x,hx⟩:∃ x,gh xs k=x:=⟨_,rfl⟩
   rw [hx] at y0 y1 y2 y3 hft hmem
   have HFT:=Lh hft
   have HC:=Lh (HO.out (wo.alloc (.cells #[.int .i64 x.f,.int .i64 x.t,.int .i64 x.a,.int .i64 x.c] 53)) _ x hmem (HW.out.ext ((Ext.refl wo).alloc _)) hbz)
   unfold Hd.vals at HC
   clear hat hx hkl hbz hft
   go_wp2_with fail
   refine HC.out.mono ?_
   rintro e w2 ⟨rfl,h2,k2⟩
   have H2:=Lh h2
   have K2:=Lh ((HK.out.trans (Kp.ext ((Ext.refl wo).alloc (.cells #[.int .i64 x.f,.int .i64 x.t,.int .i64 x.a,.int .i64 x.c] 53)))).trans k2)
   clear h2 k2
   go_wp2_with fail
   go_roundw
   case rel=>exact⟨k+1,by go_num,by omega,Lh (by rw [HFT.out,← List.append_assoc];exact H2.out),K2⟩
   case measure=>simp [intOf];omega
  ·have HE2:=Lh (show L0++(xs.take k).flatMap enc=L by rw [List.take_of_length_le (by have:=HNN.out;omega)];exact HE.out.symm)
   go_wp2
   refine bodyPost_ret (Zak rfl _ _ _) rfl ?_
   exact⟨rfl,by rw [← HE2.out];exact HW.out,HK.out⟩
set_option maxRecDepth 100000 in
theorem ZpH (w0 w:World) (g:Nat) (l:List Int) (fid:FuncId) (enc:Me→List Int) (M:Nat) (v:Value) (xs:List Me) (h:WR w0 w g l) (hr:RowM w0 v xs) (hn:xs.length≤256) (hz:l.length+8+xs.length*M≤140737488355328) (hm:∀ x∈xs,(enc x).length≤M)
 (hc:∀ args W,(callFunc fid args).run Tryz.prog W=.ok (.enter fid args) W) (hone:∀ W l x va vc vh,x∈xs→MeAt w0 x va vc vh→WR w0 W g l→l.length+M≤140737488355328→Calls Tryz.prog fid #[.pointer (some ⟨g,0,none⟩),.agg (x.vals va vc vh)] W (WRet w0 W g (l++enc x))) :
 Calls Tryz.prog 63 #[.pointer (some ⟨g,0,none⟩),v,.func (.func fid) #[.pointer (some ⟨g,0,none⟩)] #[]] w (WRet w0 w g (l++lsZ enc xs)):=by
 have HR:=Lh hr
 have HN:=Lh (ZaT w0 (w.alloc (.cells #[.int .i64 xs.length] 3)) g l [(xs.length:Int)] w.heap.size 1 rfl (h.ext ((Ext.refl w).alloc _)) (fun n hn=>by rw [List.mem_singleton.1 hn];exact⟨by omega,by omega⟩) (BK.new w _ _) (by simp;omega))
 rw [ZcN] at HN
 have K0:=Lh (Kp.ext ((Ext.refl w).alloc (.cells #[.int .i64 xs.length] 3)))
 have hl8:=Zaz (n:=(xs.length:Int)) ⟨by omega,by omega⟩
 obtain⟨A,c,rfl,hc0,hcm,-⟩:=hr.cut
 unfold maxLen at hcm
 obtain⟨n,hnn⟩:∃ n,xs.length=n:=⟨_,rfl⟩
 have HNN:=Lh hnn
 have HZ:=Lh hz
 have HM:=Lh hm
 have HO:=Lh hone
 have HE:Hid (l++lsZ enc xs=(l++nu n)++xs.flatMap enc):=Lh (by unfold lsZ;rw [hnn,List.append_assoc])
 rw [hnn] at HN K0 hc0 hl8 HR hn ⊢
 have HL8:=Lh (show (l++nu n).length≤l.length+8 by rw [List.length_append];omega)
 obtain⟨L0,hL0⟩:∃ L,l++nu (n:Int)=L:=⟨_,rfl⟩
 rw [hL0] at HN HE HL8
 obtain⟨L,hL⟩:∃ L,l++lsZ enc xs=L:=⟨_,rfl⟩
 rw [hL] at HE ⊢
 clear h hr hz hm hone hnn hl8 hL0 hL
 go_enter Tryz.func63,Tryz.ntmps63
 go_wp2_with fail
 refine HN.out.mono ?_
 rintro x w1 ⟨rfl,h1,k1⟩
 have H1:=Lh h1
 have K1:=Lh (K0.out.trans k1)
 clear h1 k1
 go_wp2_with fail
 go_loopw [15] (fun i wr=>∃ (k:Nat),i=.int .i64 k∧k≤n∧Hid (WR w0 wr g (L0++(xs.take k).flatMap enc))∧Hid (Kp w wr)) (fun i _=>n-(intOf i).toNat)
 case atStart=>exact⟨0,rfl,by omega,Lh (by simpa using H1.out),K1⟩
 case round =>
  obtain⟨k,rfl,hk,HW,HK⟩:=hrel
  rename World=>wo
  by_cases hlt:k<n
  ·have hkl:k<xs.length:=by have:=HNN.out;omega
   obtain⟨b,o,rfl,hat⟩:=HR.out.at (by omega)
   obtain⟨va,vc,vh,hat⟩:=hat k hkl
   obtain⟨⟨y0,y1,y2,y3,y4,y5,y6,y7,y8,y9⟩,-⟩:=hat _ HW.out.ext0
   have hme:=(hat _ (Ext.refl w0)).2
   have q1:=Zbo hme.1
   have q2:=ZbZ hme.2.1
   have q3:=Zbo hme.2.2
   have hbz:(L0++(xs.take k).flatMap enc).length+M≤140737488355328:=by
    have h1:=ZcV (l:=xs.take k) fun x hx=>HM.out x (List.mem_of_mem_take hx)
    rw [List.length_take,Nat.min_eq_left (by omega)] at h1
    have h2:=HZ.out
    have h3:=HL8.out
    have h4:(k+1)*M≤xs.length*M:=Nat.mul_le_mul_right _ hkl
    rw [Nat.add_mul] at h4
    rw [List.length_append]
    omega
   have hft:=ZdH (f:=enc) (Zka hkl)
   have hmem:gm xs k∈xs:=Zc8 hkl
   obtain⟨x,hx⟩:∃ x,gm xs k=x:=⟨_,rfl⟩
   rw [hx] at y0 y1 y2 y3 y4 y6 y7 hft hmem hme
   have HFT:=Lh hft
   obtain⟨Va,ca,rfl,-⟩:=(show ShT.Row w0 va x.args from hme.1).cut
   obtain⟨Vc,cc,rfl,-⟩:=id (show Row w0 .u8 vc x.code from hme.2.1)
   obtain⟨Vh,ch,rfl,-⟩:=(show ShH.Row w0 vh x.hs from hme.2.2).cut
   have HC:=Lh (HO.out (wo.alloc (.cells #[.bool x.st,.bool x.ab,.string x.nm,.int .i64 x.ret.k,.string x.ret.s,.slice Va x.args.length ca,.int .i64 x.sk,.int .i64 x.lo,.slice Vc x.code.length cc,.slice Vh x.hs.length ch] 47)) _ x _ _ _ hmem hme (HW.out.ext ((Ext.refl wo).alloc _)) hbz)
   unfold Me.vals at HC
   clear hat hx hkl hbz hft hme
   go_wp2_with fail
   refine HC.out.mono ?_
   rintro e w2 ⟨rfl,h2,k2⟩
   have H2:=Lh h2
   have K2:=Lh ((HK.out.trans (Kp.ext ((Ext.refl wo).alloc (.cells #[.bool x.st,.bool x.ab,.string x.nm,.int .i64 x.ret.k,.string x.ret.s,.slice Va x.args.length ca,.int .i64 x.sk,.int .i64 x.lo,.slice Vc x.code.length cc,.slice Vh x.hs.length ch] 47)))).trans k2)
   clear h2 k2
   go_wp2_with fail
   go_roundw
   case rel=>exact⟨k+1,by go_num,by omega,Lh (by rw [HFT.out,← List.append_assoc];exact H2.out),K2⟩
   case measure=>simp [intOf];omega
  ·have HE2:=Lh (show L0++(xs.take k).flatMap enc=L by rw [List.take_of_length_le (by have:=HNN.out;omega)];exact HE.out.symm)
   go_wp2
   refine bodyPost_ret (Zak rfl _ _ _) rfl ?_
   exact⟨rfl,by rw [← HE2.out];exact HW.out,HK.out⟩
theorem ZaJ {s:ByteArray} (h:nmB s=true):TX s∧s.size≤64∧(txA s).length≤72:=by
 have h1:=ZbW h
 have h2:TX s:=by unfold TX;omega
 have:=ZcQ s h2
 exact⟨h2,h1,by omega⟩
theorem Zjt {t:Ty} (h:okT (tyD t)=true):Zbx (tyD t)=(Zal (tyD t),0)∧TX (bs (Zal (tyD t)))∧(bs (Zal (tyD t))).size≤67:=by
 have h1:=ZeG h
 have e:(bs (Zal (tyD t))).size=(Zal (tyD t)).length:=rfl
 refine⟨by unfold Zbx;rw [if_pos h],?_,by omega⟩
 unfold TX
 omega
theorem Zey {m:Me} (h:Zap m.pr=0):Zcj m.pr=(ZaN m.pr,0)∧TX (bs (ZaN m.pr))∧(bs (ZaN m.pr)).size≤1141:=by
 have h1:=Zha h
 have e:(bs (ZaN m.pr)).size=(ZaN m.pr).length:=rfl
 refine⟨by unfold Zcj;rw [if_pos h],?_,by omega⟩
 unfold TX
 omega
theorem Zhj {f:Fd} (h:okFd f=true):(fdZ f).length≤160:=by
 unfold okFd at h
 rw [Bool.and_eq_true] at h
 have h1:=(ZaJ h.1).2.2
 obtain⟨-,h2,h3⟩:=Zjt h.2
 have h4:=ZcQ _ h2
 have h5:=Zaz (ZbG f.st).1
 unfold fdZ
 simp only [List.length_append]
 omega
theorem Zme (w0 w:World) (g:Nat) (l:List Int) (f:Fd) (h:WR w0 w g l) (ho:okFd f=true) (hr:TyOk f.ty) (hz:l.length+160≤140737488355328) :
 Calls Tryz.prog 62 #[.pointer (some ⟨g,0,none⟩),.agg f.vals] w (WRet w0 w g (l++fdZ f)):=by
 have hfl:=Zhj ho
 unfold okFd at ho
 rw [Bool.and_eq_true] at ho
 obtain⟨n1,n2,n3⟩:=ZaJ ho.1
 obtain⟨t1,t2,t3⟩:=Zjt ho.2
 have hfz:l++fdZ f=((l++nu (flg f.st))++txA f.nm)++txA (bs (Zal (tyD f.ty))):=by unfold fdZ;simp only [List.append_assoc]
 have z1:=Zaz (ZbG f.st).1
 have C1:=Lh (Zhr w0 _ g l f.st (h.ext ((Ext.refl w).alloc (.cells f.vals 59))) (by omega))
 have C2:=Lh (fun W (hW:WR w0 W g (l++nu (flg f.st)))=>Zbf w0 W g _ f.nm hW n1 (by rw [List.length_append];omega))
 have C3:=Lh (fun W=>Zj7 f.ty W hr)
 rw [t1] at C3
 have C4:=Lh (fun W (hW:WR w0 W g ((l++nu (flg f.st))++txA f.nm))=>Zbf w0 W g _ (bs (Zal (tyD f.ty))) hW t2 (by rw [List.length_append,List.length_append];omega))
 have B0:=Lh (BK.new w f.vals 59)
 have K0:=Lh (Kp.ext ((Ext.refl w).alloc (.cells f.vals 59)))
 rw [← hfz] at C4
 obtain⟨L3,hL3⟩:∃ L,l++fdZ f=L:=⟨_,rfl⟩
 obtain⟨L2,hL2⟩:∃ L,(l++nu (flg f.st))++txA f.nm=L:=⟨_,rfl⟩
 obtain⟨L1,hL1⟩:∃ L,l++nu (flg f.st)=L:=⟨_,rfl⟩
 obtain⟨tx,htx⟩:∃ x,bs (Zal (tyD f.ty))=x:=⟨_,rfl⟩
 rw [hL3] at C4 ⊢
 rw [hL2] at C2 C4
 rw [hL1] at C1 C2
 rw [htx] at C4
 simp only [htx] at C3
 clear h ho hr hz hfl n1 n2 n3 t1 t2 t3 hfz z1 hL1 hL2 hL3 htx
 obtain⟨st,nm,ty⟩:=f
 obtain⟨k,s⟩:=ty
 unfold Fd.vals at C1 B0 K0 ⊢
 simp only at C1 C2 C3 B0 K0 ⊢
 go_enter Tryz.func62,Tryz.ntmps62
 go_wp2_with fail
 refine C1.out.mono ?_
 rintro x w1 ⟨rfl,h1,k1⟩
 have B1:=Lh (k1.2 _ _ _ B0.out (by decide) (by decide))
 have K1:=Lh (K0.out.trans k1)
 have D2:=Lh (C2.out w1 h1)
 have y1:w1.cell? ⟨w.heap.size,1,none⟩=some (.string nm):=B1.out.cell 1
 clear h1 k1
 go_wp2_with fail
 refine D2.out.mono ?_
 rintro x w2 ⟨rfl,h2,k2⟩
 have B2:=Lh (k2.2 _ _ _ B1.out (by decide) (by decide))
 have K2:=Lh (K1.out.trans k2)
 have H2:=Lh h2
 have y2:w2.cell? ⟨w.heap.size,2,none⟩=some (.int .i64 k):=B2.out.cell 2
 have y3:w2.cell? ⟨w.heap.size,3,none⟩=some (.string s):=B2.out.cell 3
 clear h2 k2 y1
 go_wp2_with fail
 refine(C3.out w2).mono ?_
 rintro x w3 ⟨rfl,x3⟩
 have D4:=Lh (C4.out w3 (H2.out.ext x3))
 have K3:=Lh (K2.out.trans (Kp.ext x3))
 clear x3 y2 y3
 go_wp2_with fail
 refine D4.out.mono ?_
 rintro x w4 ⟨rfl,h4,k4⟩
 go_wp2
 refine bodyPost_ret (Zak rfl _ _ _) rfl ?_
 exact⟨rfl,h4,K3.out.trans k4⟩
theorem Zj3 {α:Type} {f:α→List Int} {b:Nat} {l:List α} (h:∀ x∈l,(f x).length≤b) (hn:l.length≤256):(lsZ f l).length≤8+l.length*b:=by
 have h1:=ZcV h
 have h2:=Zaz (n:=(l.length:Int)) ⟨by omega,by omega⟩
 unfold lsZ
 rw [List.length_append]
 generalize l.length*b=Z at *
 omega
theorem Zhm {x:Hd} (h:HdOk x):(hdZ x).length≤32:=by
 obtain⟨h1,h2,h3,h4⟩:=h
 have:=Zaz h1
 have:=Zaz h2
 have:=Zaz h3
 have:=Zaz h4
 unfold hdZ
 simp only [List.length_append]
 omega
theorem ZhS {pool:List Cst} {m:Me} (hp:pool.length≤4096) (h:okMe pool m=true) (hf:Fit .u8 m.code) :
 nmB m.nm=true∧Zap m.pr=0∧(m.ab=false→NN m.sk∧NN m.lo∧m.code.length≤8192∧m.hs.length≤256∧∀ h∈m.hs,HdOk h):=by
 unfold okMe at h
 rw [Bool.and_eq_true,Bool.and_eq_true,decide_eq_true_eq] at h
 obtain⟨h1,h2,h3⟩:=h
 refine⟨h1,h2,fun e=>?_⟩
 rw [e] at h3
 simp only [Bool.false_eq_true,if_false,decide_eq_true_eq] at h3
 exact Zf9 hf h3 hp
theorem ZrX {m:Me} (h:NN m.sk∧NN m.lo∧m.code.length≤8192∧m.hs.length≤256∧∀ h∈m.hs,HdOk h):(meT m).length≤16424:=by
 obtain⟨h1,h2,h3,h4,h5⟩:=h
 have a1:=Zaz h1
 have a2:=Zaz h2
 have a3:=Zaz (n:=(m.code.length:Int)) ⟨by omega,by omega⟩
 have a4:(lsZ hdZ m.hs).length≤8+m.hs.length*32:=Zj3 (f:=hdZ) (fun x hx=>Zhm (h5 x hx)) h4
 unfold meT
 simp only [List.length_append]
 omega
theorem Zj2 {pool:List Cst} {m:Me} (hp:pool.length≤4096) (h:okMe pool m=true) (hf:Fit .u8 m.code):(meZ m).length≤18000:=by
 obtain⟨h1,h2,h3⟩:=ZhS hp h hf
 have a1:=(ZaJ h1).2.2
 obtain⟨-,b1,b2⟩:=Zey h2
 have a2:=ZcQ _ b1
 have a3:=Zaz (ZqX m).1
 unfold meZ
 simp only [List.length_append]
 cases hab:m.ab
 ·have:=ZrX (h3 hab)
  simp only [Bool.false_eq_true,if_false]
  omega
 ·simp only [if_true,List.length_nil]
  omega
theorem ZhX {l:List Int} (h:Fit .u8 l):txA (strOfNums l)=nu l.length++l:=by
 unfold txA
 rw [Zek,Ztv h]
theorem ZqQ {m:Me} (h:m.ab=true):meZ m=(nu 2++txA m.nm)++txA (bs (ZaN m.pr)):=by
 unfold meZ kdZ
 rw [h]
 simp only [if_true,List.append_nil,List.append_assoc]
theorem Zq2 {m:Me} (h:m.ab=false) (hf:Fit .u8 m.code):meZ m=((((nu (flg m.st)++txA m.nm)++txA (bs (ZaN m.pr)))++[m.sk,m.lo].flatMap nu)++txA (strOfNums m.code))++lsZ hdZ m.hs:=by
 unfold meZ kdZ meT
 rw [h,ZhX hf]
 simp only [Bool.false_eq_true,if_false,List.flatMap_cons,List.flatMap_nil,List.append_nil,List.append_assoc]
set_option maxRecDepth 100000 in
theorem ZsR (w0 w:World) (g:Nat) (l:List Int) (m:Me) (va vc vh:Value) (h:WR w0 w g l) (ha:ShT.Row w0 va m.args) (hn:nmB m.nm=true) (hp:Zap m.pr=0) (hr:MeRoom m) (hab:m.ab=true) (hz:l.length+18000≤140737488355328) :
 Calls Tryz.prog 64 #[.pointer (some ⟨g,0,none⟩),.agg (m.vals va vc vh)] w (WRet w0 w g (l++meZ m)):=by
 obtain⟨n1,n2,n3⟩:=ZaJ hn
 obtain⟨t1,t2,t3⟩:=Zey hp
 have hfz:l++meZ m=((l++nu 2)++txA m.nm)++txA (bs (ZaN m.pr)):=by rw [ZqQ hab];simp only [List.append_assoc]
 have q2:NN 2:=⟨by omega,by omega⟩
 have z1:=Zaz q2
 obtain⟨wa,hwa⟩:∃ W,(w.alloc (.cells (m.vals va vc vh) 47)).alloc (.cells #[.int .i64 2] 3)=W:=⟨_,rfl⟩
 have E0:Ext w wa:=hwa ▸ ((Ext.refl w).alloc _).alloc _
 have C1:=Lh (ZaT w0 wa g l [2] (w.heap.size+1) 1 rfl (h.ext E0) (fun n hn=>by rw [List.mem_singleton.1 hn];exact q2) (by rw [← hwa];have:=BK.new (w.alloc (.cells (m.vals va vc vh) 47)) #[.int .i64 2] 3;simpa [BK] using this) (by simp;omega))
 rw [ZcN] at C1
 have C2:=Lh (fun W (hW:WR w0 W g (l++nu 2))=>Zbf w0 W g _ m.nm hW n1 (by rw [List.length_append];omega))
 have C3:=Lh (fun W (hW:Ext w0 W)=>Zfc m va W (ha.ext hW) hr)
 rw [t1] at C3
 have C4:=Lh (fun W (hW:WR w0 W g ((l++nu 2)++txA m.nm))=>Zbf w0 W g _ (bs (ZaN m.pr)) hW t2 (by rw [List.length_append,List.length_append];omega))
 have B0:Hid (BK wa w.heap.size (m.vals va vc vh) 47):=Lh (hwa ▸ (BK.new w _ _).ext ((Ext.refl _).alloc _))
 have K0:=Lh (Kp.ext E0)
 have HWA:=Lh hwa.symm
 rw [← hfz] at C4
 obtain⟨L3,hL3⟩:∃ L,l++meZ m=L:=⟨_,rfl⟩
 obtain⟨L2,hL2⟩:∃ L,(l++nu 2)++txA m.nm=L:=⟨_,rfl⟩
 obtain⟨L1,hL1⟩:∃ L,l++nu 2=L:=⟨_,rfl⟩
 obtain⟨tx,htx⟩:∃ x,bs (ZaN m.pr)=x:=⟨_,rfl⟩
 rw [hL3] at C4 ⊢
 rw [hL2] at C2 C4
 rw [hL1] at C1 C2
 rw [htx] at C4
 simp only [htx] at C3
 clear h ha hn hp hr hz q2 n1 n2 n3 t1 t2 t3 hfz z1 hL1 hL2 hL3 htx E0 hwa
 obtain⟨st,ab,nm,ret,args,sk,lo,code,hs⟩:=m
 obtain⟨k,s⟩:=ret
 simp only at hab
 subst hab
 unfold Me.vals at B0 HWA ⊢
 simp only at C1 C2 C3 B0 HWA ⊢
 go_enter Tryz.func64,Tryz.ntmps64
 go_wp2_with fail
 rw [← HWA.out]
 refine C1.out.mono ?_
 rintro x w1 ⟨rfl,h1,k1⟩
 have B1:=Lh (k1.2 _ _ _ B0.out (by decide) (by decide))
 have K1:=Lh (K0.out.trans k1)
 have D2:=Lh (C2.out w1 h1)
 have y1:w1.cell? ⟨w.heap.size,2,none⟩=some (.string nm):=B1.out.cell 2
 clear h1 k1
 go_wp2_with fail
 refine D2.out.mono ?_
 rintro x w2 ⟨rfl,h2,k2⟩
 have B2:=Lh (k2.2 _ _ _ B1.out (by decide) (by decide))
 have K2:=Lh (K1.out.trans k2)
 have H2:=Lh h2
 have y2:w2.cell? ⟨w.heap.size,3,none⟩=some (.int .i64 k):=B2.out.cell 3
 have y3:w2.cell? ⟨w.heap.size,4,none⟩=some (.string s):=B2.out.cell 4
 have y4:w2.cell? ⟨w.heap.size,5,none⟩=some va:=B2.out.cell 5
 clear h2 k2 y1
 go_wp2_with fail
 refine(C3.out w2 H2.out.ext0).mono ?_
 rintro x w3 ⟨rfl,x3⟩
 have D4:=Lh (C4.out w3 (H2.out.ext x3))
 have K3:=Lh (K2.out.trans (Kp.ext x3))
 have B3:=Lh (B2.out.ext x3)
 clear x3 y2 y3 y4
 go_wp2_with fail
 refine D4.out.mono ?_
 rintro x w4 ⟨rfl,h4,k4⟩
 have B4:=Lh (k4.2 _ _ _ B3.out (by decide) (by decide))
 have y5:w4.cell? ⟨w.heap.size,1,none⟩=some (.bool true):=B4.out.cell 1
 have K4:=Lh (K3.out.trans k4)
 have H4:=Lh h4
 clear k4 h4
 go_wp2
 refine bodyPost_ret (Zak rfl _ _ _) rfl ?_
 exact⟨rfl,H4.out,K4.out⟩
set_option maxRecDepth 100000 in
theorem Zs7 (w0 w:World) (g:Nat) (l:List Int) (m:Me) (va vc vh:Value) (h:WR w0 w g l) (ha:MeAt w0 m va vc vh) (hn:nmB m.nm=true) (hp:Zap m.pr=0) (hr:MeRoom m) (hab:m.ab=false) (hf:Fit .u8 m.code)
 (hq:NN m.sk∧NN m.lo∧m.code.length≤8192∧m.hs.length≤256∧∀ h∈m.hs,HdOk h) (hz:l.length+18000≤140737488355328) :
 Calls Tryz.prog 64 #[.pointer (some ⟨g,0,none⟩),.agg (m.vals va vc vh)] w (WRet w0 w g (l++meZ m)):=by
 obtain⟨n1,n2,n3⟩:=ZaJ hn
 obtain⟨t1,t2,t3⟩:=Zey hp
 obtain⟨q1,q2,q3,q4,q5⟩:=hq
 have hfz:l++meZ m=(((((l++nu (flg m.st))++txA m.nm)++txA (bs (ZaN m.pr)))++[m.sk,m.lo].flatMap nu)++txA (strOfNums m.code))++lsZ hdZ m.hs:=by rw [Zq2 hab hf];simp only [List.append_assoc]
 have z1:=Zaz (ZbG m.st).1
 have z2:=ZcQ _ t2
 have z3:([m.sk,m.lo].flatMap nu).length≤16:=by
  have:=Zaz q1
  have:=Zaz q2
  simp only [List.flatMap_cons,List.flatMap_nil,List.append_nil,List.length_append]
  omega
 have z4:(txA (strOfNums m.code)).length≤8200:=by
  rw [ZhX hf,List.length_append]
  have:=Zaz (n:=(m.code.length:Int)) ⟨by omega,by omega⟩
  omega
 have tc:TX (strOfNums m.code):=by unfold TX;rw [Zek];omega
 have C1:=Lh (Zhr w0 _ g l m.st (h.ext ((Ext.refl w).alloc (.cells (m.vals va vc vh) 47))) (by omega))
 have C2:=Lh (fun W (hW:WR w0 W g (l++nu (flg m.st)))=>Zbf w0 W g _ m.nm hW n1 (by rw [List.length_append];omega))
 have C3:=Lh (fun W (hW:Ext w0 W)=>Zfc m va W (ha.1.ext hW) hr)
 rw [t1] at C3
 have C4:=Lh (fun W (hW:WR w0 W g ((l++nu (flg m.st))++txA m.nm))=>Zbf w0 W g _ (bs (ZaN m.pr)) hW t2 (by simp only [List.length_append];omega))
 have C5:Hid (∀ W gn,WR w0 W g (((l++nu (flg m.st))++txA m.nm)++txA (bs (ZaN m.pr)))→BK W gn #[.int .i64 m.sk,.int .i64 m.lo] 3→Calls Tryz.prog 112 #[.pointer (some ⟨g,0,none⟩),.slice (some ⟨gn,0,none⟩) 2 2] W (WRet w0 W g ((((l++nu (flg m.st))++txA m.nm)++txA (bs (ZaN m.pr)))++[m.sk,m.lo].flatMap nu))) :=
  Lh (fun W gn hW hb=>ZaT w0 W g _ [m.sk,m.lo] gn 2 rfl hW (fun n hn=>by simp at hn;rcases hn with rfl | rfl <;> assumption) (by simpa using hb) (by simp only [List.length_append,List.length_cons,List.length_nil];omega))
 have C6:=Lh (fun W (hW:WR w0 W g ((((l++nu (flg m.st))++txA m.nm)++txA (bs (ZaN m.pr)))++[m.sk,m.lo].flatMap nu))=>Zbf w0 W g _ (strOfNums m.code) hW tc (by rw [Zek];simp only [List.length_append];omega))
 have C7:=Lh (fun W (hW:WR w0 W g (((((l++nu (flg m.st))++txA m.nm)++txA (bs (ZaN m.pr)))++[m.sk,m.lo].flatMap nu)++txA (strOfNums m.code)))=>ZpO w0 W g _ 116 hdZ 32 vh m.hs hW ha.2.2 q4 (by simp only [List.length_append];omega) (fun x hx=>Zhm (q5 x hx)) (fun args W=>rfl)
  (fun W l x hx hW hl=>ZiV w0 W g l x hW (q5 x hx) hl))
 have B0:=Lh (BK.new w (m.vals va vc vh) 47)
 have K0:=Lh (Kp.ext ((Ext.refl w).alloc (.cells (m.vals va vc vh) 47)))
 have HC:=Lh ha.2.1
 rw [← hfz] at C7
 obtain⟨L6,hL6⟩:∃ L,l++meZ m=L:=⟨_,rfl⟩
 obtain⟨L5,hL5⟩:∃ L,(((((l++nu (flg m.st))++txA m.nm)++txA (bs (ZaN m.pr)))++[m.sk,m.lo].flatMap nu)++txA (strOfNums m.code))=L:=⟨_,rfl⟩
 obtain⟨L4,hL4⟩:∃ L,((((l++nu (flg m.st))++txA m.nm)++txA (bs (ZaN m.pr)))++[m.sk,m.lo].flatMap nu)=L:=⟨_,rfl⟩
 obtain⟨L3,hL3⟩:∃ L,(((l++nu (flg m.st))++txA m.nm)++txA (bs (ZaN m.pr)))=L:=⟨_,rfl⟩
 obtain⟨L2,hL2⟩:∃ L,(l++nu (flg m.st))++txA m.nm=L:=⟨_,rfl⟩
 obtain⟨L1,hL1⟩:∃ L,l++nu (flg m.st)=L:=⟨_,rfl⟩
 obtain⟨tx,htx⟩:∃ x,bs (ZaN m.pr)=x:=⟨_,rfl⟩
 rw [hL6] at C7 ⊢
 rw [hL5] at C6 C7
 rw [hL4] at C5 C6
 rw [hL3] at C4 C5
 rw [hL2] at C2 C4
 rw [hL1] at C1 C2
 rw [htx] at C4
 simp only [htx] at C3
 clear h ha hn hp hr hz n1 n2 n3 t1 t2 t3 hfz z1 z2 z3 z4 tc q1 q2 q3 q4 q5 hf hL1 hL2 hL3 hL4 hL5 hL6 htx
 obtain⟨st,ab,nm,ret,args,sk,lo,code,hs⟩:=m
 obtain⟨k,s⟩:=ret
 simp only at hab
 subst hab
 unfold Me.vals at C1 B0 K0 ⊢
 simp only at C1 C2 C3 C4 C5 C6 C7 B0 K0 HC ⊢
 go_enter Tryz.func64,Tryz.ntmps64
 go_wp2_with fail
 refine C1.out.mono ?_
 rintro x w1 ⟨rfl,h1,k1⟩
 have B1:=Lh (k1.2 _ _ _ B0.out (by decide) (by decide))
 have K1:=Lh (K0.out.trans k1)
 have D2:=Lh (C2.out w1 h1)
 have y1:w1.cell? ⟨w.heap.size,2,none⟩=some (.string nm):=B1.out.cell 2
 clear h1 k1
 go_wp2_with fail
 refine D2.out.mono ?_
 rintro x w2 ⟨rfl,h2,k2⟩
 have B2:=Lh (k2.2 _ _ _ B1.out (by decide) (by decide))
 have K2:=Lh (K1.out.trans k2)
 have H2:=Lh h2
 have y2:w2.cell? ⟨w.heap.size,3,none⟩=some (.int .i64 k):=B2.out.cell 3
 have y3:w2.cell? ⟨w.heap.size,4,none⟩=some (.string s):=B2.out.cell 4
 have y4:w2.cell? ⟨w.heap.size,5,none⟩=some va:=B2.out.cell 5
 clear h2 k2 y1
 go_wp2_with fail
 refine(C3.out w2 H2.out.ext0).mono ?_
 rintro x w3 ⟨rfl,x3⟩
 have D4:=Lh (C4.out w3 (H2.out.ext x3))
 have K3:=Lh (K2.out.trans (Kp.ext x3))
 have B3:=Lh (B2.out.ext x3)
 clear x3 y2 y3 y4
 go_wp2_with fail
 refine D4.out.mono ?_
 rintro x w4 ⟨rfl,h4,k4⟩
 have B4:=Lh (k4.2 _ _ _ B3.out (by decide) (by decide))
 have y5:w4.cell? ⟨w.heap.size,1,none⟩=some (.bool false):=B4.out.cell 1
 have y6:w4.cell? ⟨w.heap.size,6,none⟩=some (.int .i64 sk):=B4.out.cell 6
 have y7:w4.cell? ⟨w.heap.size,7,none⟩=some (.int .i64 lo):=B4.out.cell 7
 have D5:=Lh (C5.out _ w4.heap.size (h4.ext ((Ext.refl w4).alloc (.cells #[.int .i64 sk,.int .i64 lo] 3))) (BK.new w4 _ _))
 have K4:=Lh ((K3.out.trans k4).trans (Kp.ext ((Ext.refl w4).alloc (.cells #[.int .i64 sk,.int .i64 lo] 3))))
 have B5:=Lh (B4.out.ext ((Ext.refl w4).alloc (.cells #[.int .i64 sk,.int .i64 lo] 3)))
 clear k4 h4
 go_wp2_with fail
 refine D5.out.mono ?_
 rintro x w5 ⟨rfl,h5,k5⟩
 have B6:=Lh (k5.2 _ _ _ B5.out (by decide) (by decide))
 have K5:=Lh (K4.out.trans k5)
 have y8:w5.cell? ⟨w.heap.size,8,none⟩=some vc:=B6.out.cell 8
 have hcv:=(HC.out.ext h5.ext0).conv
 have D6:=Lh (C6.out w5 h5)
 clear k5 h5 y5 y6 y7
 go_wp2_with fail
 refine D6.out.mono ?_
 rintro x w6 ⟨rfl,h6,k6⟩
 have B7:=Lh (k6.2 _ _ _ B6.out (by decide) (by decide))
 have K6:=Lh (K5.out.trans k6)
 have y9:w6.cell? ⟨w.heap.size,9,none⟩=some vh:=B7.out.cell 9
 have D7:=Lh (C7.out w6 h6)
 clear k6 h6 y8 hcv
 go_wp2_with fail
 refine D7.out.mono ?_
 rintro x w7 ⟨rfl,h7,k7⟩
 have H7:=Lh h7
 have K7:=Lh (K6.out.trans k7)
 clear k7 h7 y9
 go_wp2
 refine bodyPost_ret (Zak rfl _ _ _) rfl ?_
 exact⟨rfl,H7.out,K7.out⟩
theorem Zkd (pool:List Cst) (w0 w:World) (g:Nat) (l:List Int) (m:Me) (va vc vh:Value) (h:WR w0 w g l) (ha:MeAt w0 m va vc vh) (hp:pool.length≤4096) (ho:okMe pool m=true) (hf:Fit .u8 m.code) (hr:MeRoom m) (hz:l.length+18000≤140737488355328) :
 Calls Tryz.prog 64 #[.pointer (some ⟨g,0,none⟩),.agg (m.vals va vc vh)] w (WRet w0 w g (l++meZ m)):=by
 obtain⟨h1,h2,h3⟩:=ZhS hp ho hf
 cases hab:m.ab
 ·exact Zs7 w0 w g l m va vc vh h ha h1 h2 hr hab hf (h3 hab) hz
 ·exact ZsR w0 w g l m va vc vh h ha.1 h1 h2 hr hab hz
set_option maxRecDepth 100000 in
theorem Zmu (w0 w:World) (g:Nat) (l:List Int) (c:Cl) (vp vi vf vm:Value) (h:WR w0 w g l) (ha:ClAt w0 c vp vi vf vm) (ho:okCl c=true) (hg:Good c) (hr:ClRoom c) (hz:l.length+5000000≤140737488355328) :
 Calls Tryz.prog 25 #[.pointer (some ⟨g,0,none⟩),.agg (c.vals vp vi vf vm)] w (WRet w0 w g (l++tlZ c)):=by
 obtain⟨p1,p2,p3,p4,p5,p6,p7,p8,p9⟩:=Zao ho
 have hpl:=(Zb8 p1).1
 obtain⟨n1,n2,n3⟩:=ZaJ p2
 have hs:TX c.sup∧c.sup.size≤64∧(txA c.sup).length≤72:=by
  rcases p3 with h3 | h3
  ·rw [h3]
   have e:(ByteArray.empty).size=0:=rfl
   have t:TX .empty:=Nat.zero_le _
   have:=ZcQ _ t
   exact⟨t,by omega,by omega⟩
  ·exact ZaJ h3
 obtain⟨s1,s2,s3⟩:=hs
 have z1:=Zaz (ZbG c.inf).1
 have z4:(lsZ txA c.ifs).length≤8+c.ifs.length*72:=Zj3 (f:=txA) (fun x hx=>(ZaJ (p5 x hx)).2.2) (by omega)
 have z5:(lsZ fdZ c.fds).length≤8+c.fds.length*160:=Zj3 (f:=fdZ) (fun x hx=>Zhj (p7 x hx)) p6
 have hfz:l++tlZ c=(((((l++nu (flg c.inf))++txA c.nm)++txA c.sup)++lsZ txA c.ifs)++lsZ fdZ c.fds)++lsZ meZ c.mts:=by unfold tlZ;simp only [List.append_assoc]
 have C1:=Lh (Zhr w0 _ g l c.inf (h.ext ((Ext.refl w).alloc (.cells (c.vals vp vi vf vm) 27))) (by omega))
 have C2:=Lh (fun W (hW:WR w0 W g (l++nu (flg c.inf)))=>Zbf w0 W g _ c.nm hW n1 (by rw [List.length_append];omega))
 have C3:=Lh (fun W (hW:WR w0 W g ((l++nu (flg c.inf))++txA c.nm))=>Zbf w0 W g _ c.sup hW s1 (by simp only [List.length_append];omega))
 have C4:=Lh (fun W (hW:WR w0 W g (((l++nu (flg c.inf))++txA c.nm)++txA c.sup))=>ZoO w0 W g _ 59 txA 72 vi c.ifs hW ha.2.1 (by omega) (by simp only [List.length_append];omega) (fun x hx=>(ZaJ (p5 x hx)).2.2) (fun args W=>rfl)
  (fun W l x hx hW hl=>Zbf w0 W g l x hW (ZaJ (p5 x hx)).1 (by have:=(ZaJ (p5 x hx)).2.1;omega)))
 have C5:=Lh (fun W (hW:WR w0 W g ((((l++nu (flg c.inf))++txA c.nm)++txA c.sup)++lsZ txA c.ifs))=>Zqu w0 W g _ 62 fdZ 160 vf c.fds hW ha.2.2.1 p6 (by simp only [List.length_append];omega) (fun x hx=>Zhj (p7 x hx)) (fun args W=>rfl)
  (fun W l x hx hW hl=>Zme w0 W g l x hW (p7 x hx) (hr.fds x hx).2 hl))
 have C6:=Lh (fun W (hW:WR w0 W g (((((l++nu (flg c.inf))++txA c.nm)++txA c.sup)++lsZ txA c.ifs)++lsZ fdZ c.fds))=>ZpH w0 W g _ 64 meZ 18000 vm c.mts hW ha.2.2.2 p8 (by simp only [List.length_append];omega) (fun x hx=>Zj2 hpl (p9 x hx) (hg.2 x hx)) (fun args W=>rfl)
  (fun W l x va vc vh hx hM hW hl=>Zkd c.pool w0 W g l x va vc vh hW hM hpl (p9 x hx) (hg.2 x hx) (hr.mts x hx) hl))
 have B0:=Lh (BK.new w (c.vals vp vi vf vm) 27)
 have K0:=Lh (Kp.ext ((Ext.refl w).alloc (.cells (c.vals vp vi vf vm) 27)))
 rw [← hfz] at C6
 obtain⟨L6,hL6⟩:∃ L,l++tlZ c=L:=⟨_,rfl⟩
 obtain⟨L5,hL5⟩:∃ L,(((((l++nu (flg c.inf))++txA c.nm)++txA c.sup)++lsZ txA c.ifs)++lsZ fdZ c.fds)=L:=⟨_,rfl⟩
 obtain⟨L4,hL4⟩:∃ L,((((l++nu (flg c.inf))++txA c.nm)++txA c.sup)++lsZ txA c.ifs)=L:=⟨_,rfl⟩
 obtain⟨L3,hL3⟩:∃ L,(((l++nu (flg c.inf))++txA c.nm)++txA c.sup)=L:=⟨_,rfl⟩
 obtain⟨L2,hL2⟩:∃ L,(l++nu (flg c.inf))++txA c.nm=L:=⟨_,rfl⟩
 obtain⟨L1,hL1⟩:∃ L,l++nu (flg c.inf)=L:=⟨_,rfl⟩
 rw [hL6] at C6 ⊢
 rw [hL5] at C5 C6
 rw [hL4] at C4 C5
 rw [hL3] at C3 C4
 rw [hL2] at C2 C3
 rw [hL1] at C1 C2
 clear h ha ho hg hr hz p1 p2 p3 p4 p5 p6 p7 p8 p9 hpl n1 n2 n3 s1 s2 s3 z1 z4 z5 hfz hL1 hL2 hL3 hL4 hL5 hL6
 obtain⟨pool,inf,nm,sup,ifs,fds,mts⟩:=c
 unfold Cl.vals at C1 B0 K0 ⊢
 simp only at C1 C2 C3 C4 C5 C6 B0 K0 ⊢
 go_enter Tryz.func25,Tryz.ntmps25
 have y0:(w.alloc (.cells #[vp,.string nm,.string sup,.bool inf,vi,vf,vm] 27)).cell? ⟨w.heap.size,3,none⟩=some (.bool inf):=B0.out.cell 3
 go_wp2_with fail
 refine C1.out.mono ?_
 rintro x w1 ⟨rfl,h1,k1⟩
 have B1:=Lh (k1.2 _ _ _ B0.out (by decide) (by decide))
 have K1:=Lh (K0.out.trans k1)
 have D2:=Lh (C2.out w1 h1)
 have y1:w1.cell? ⟨w.heap.size,1,none⟩=some (.string nm):=B1.out.cell 1
 clear h1 k1 y0
 go_wp2_with fail
 refine D2.out.mono ?_
 rintro x w2 ⟨rfl,h2,k2⟩
 have B2:=Lh (k2.2 _ _ _ B1.out (by decide) (by decide))
 have K2:=Lh (K1.out.trans k2)
 have D3:=Lh (C3.out w2 h2)
 have y2:w2.cell? ⟨w.heap.size,2,none⟩=some (.string sup):=B2.out.cell 2
 clear h2 k2 y1
 go_wp2_with fail
 refine D3.out.mono ?_
 rintro x w3 ⟨rfl,h3,k3⟩
 have B3:=Lh (k3.2 _ _ _ B2.out (by decide) (by decide))
 have K3:=Lh (K2.out.trans k3)
 have D4:=Lh (C4.out w3 h3)
 have y3:w3.cell? ⟨w.heap.size,4,none⟩=some vi:=B3.out.cell 4
 clear h3 k3 y2
 go_wp2_with fail
 refine D4.out.mono ?_
 rintro x w4 ⟨rfl,h4,k4⟩
 have B4:=Lh (k4.2 _ _ _ B3.out (by decide) (by decide))
 have K4:=Lh (K3.out.trans k4)
 have D5:=Lh (C5.out w4 h4)
 have y4:w4.cell? ⟨w.heap.size,5,none⟩=some vf:=B4.out.cell 5
 clear h4 k4 y3
 go_wp2_with fail
 refine D5.out.mono ?_
 rintro x w5 ⟨rfl,h5,k5⟩
 have B5:=Lh (k5.2 _ _ _ B4.out (by decide) (by decide))
 have K5:=Lh (K4.out.trans k5)
 have D6:=Lh (C6.out w5 h5)
 have y5:w5.cell? ⟨w.heap.size,6,none⟩=some vm:=B5.out.cell 6
 clear h5 k5 y4
 go_wp2_with fail
 refine D6.out.mono ?_
 rintro x w6 ⟨rfl,h6,k6⟩
 have H6:=Lh h6
 have K6:=Lh (K5.out.trans k6)
 clear h6 k6 y5
 go_wp2
 refine bodyPost_ret (Zak rfl _ _ _) rfl ?_
 exact⟨rfl,H6.out,K6.out⟩
end Go.Proofs.YtclamhhgldkhnaaGreatDoor
