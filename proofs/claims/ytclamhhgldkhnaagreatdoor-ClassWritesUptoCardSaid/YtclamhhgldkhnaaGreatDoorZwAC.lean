/- Several texts of this proof, one behind the other. -/
import Derived.Test.YtclamhhgldkhnaaGreatDoorZwW
import Derived.Test.YtclamhhgldkhnaaGreatDoorZwAB
import Derived.Test.YtclamhhgldkhnaaGreatDoorZwQ
import Derived.Test.YtclamhhgldkhnaaGreatDoorZwN
import Derived.Test.YtclamhhgldkhnaaGreatDoorZwK
import Derived.Test.YtclamhhgldkhnaaGreatDoorZwU
import Derived.Test.YtclamhhgldkhnaaGreatDoorRows
import Derived.Test.YtclamhhgldkhnaaGreatDoorCards
import Derived.Test.YtclamhhgldkhnaaGreatDoorTie
import Derived.Test.YtclamhhgldkhnaaGreatDoorZwO
import Derived.ProofKit
import Derived.OpenShut
import Derived.ShutString
import Derived.ChangeOld
import Derived.SizedLaws
import Derived.Deep.DeepHandedRow
import Derived.Deep.DeepWitnessRowRef
import Derived.Lib.LaidIn
import Derived.Lib.LaidU8T
import Derived.Lib.LaidTab
namespace Go.Proofs.YtclamhhgldkhnaaGreatDoor
open Go.RowKit
set_option linter.unusedVariables false
set_option maxHeartbeats 16000000
def mst (i:Nat):Int:=if i=0 then 64 else 256
def Most (w:World):Prop:=0<w.heap.size∧∀ i,i<4→w.cell? ⟨0,i,none⟩=some (.int .i64 (mst i))
theorem Most.ext {w w':World} (h:Most w) (e:Ext w w'):Most w':=⟨Nat.lt_of_lt_of_le h.1 e.size,fun i hi=>(e.cell (p:=⟨_,i,none⟩) h.1).trans (h.2 i hi)⟩
theorem Zgd {l:List ByteArray} {j:Nat} (h:j<l.length):gs l j∈l:=Shp.el_mem h
theorem Zjs {l:List ByteArray} {k:Nat} (h:k<l.length):l[k]?=some (gs l k):=by unfold gs;rw [ShS.el_get h];simp [h]
theorem Zex {l:List Fd} {j:Nat} (h:j<l.length):gf l j∈l:=Shp.el_mem h
theorem ZhW {l:List Fd} {k:Nat} (h:k<l.length):l[k]?=some (gf l k):=by unfold gf;rw [ShF.el_get h];simp [h]
theorem Zka {l:List Me} {k:Nat} (h:k<l.length):l[k]?=some (gm l k):=by rw [ZqM h];simp [h]
theorem Zh6 {α:Type} {s:List α} {p:α→Bool}:(!s.any fun t=>!p t)=s.all p:=by
 induction s with
 | nil=>rfl
 | cons x s ih=>rw [List.any_cons,List.all_cons,← ih];cases p x <;> simp
set_option maxRecDepth 100000 in
theorem Zmr (fid:FuncId) (caps:Array Value) (p:ByteArray→Bool) (v:Value) (l:List ByteArray) (w:World) (h:ShS.Row w v l)
 (hc:∀ args W,(callFunc fid args).run Tryz.prog W=.ok (.enter fid args) W)
 (hp:∀ W,Ext w W→∀ x∈l,Calls Tryz.prog fid (#[.string x]++caps) W fun e w'=>e=.returned (.bool (p x))∧Ext W w') :
 Calls Tryz.prog 162 #[v,.func (.func fid) #[] caps] w fun e w'=>e=.returned (.int .i64 (idxP p l 0))∧Ext w w':=by
 have H:=Lh h
 obtain⟨A,c,rfl,hc0,hm,-⟩:=h.cut
 unfold maxLen at hm
 obtain⟨n,hn⟩:∃ n,n=l.length:=⟨_,rfl⟩
 rw [← hn] at hc0 H ⊢
 have Hn:=Lh hn
 have HP:=Lh hp
 obtain⟨F,hF⟩:∃ F,idxP p l 0=F:=⟨_,rfl⟩
 have HF:=Lh hF
 rw [hF]
 clear hn h hp hF
 go_enter Tryz.func162,Tryz.ntmps162
 go_wp2
 go_loopw [8] (fun i wr=>∃ (k:Nat),i=.int .i64 k∧k≤n∧Hid (F=idxP p (l.drop k) k)∧Hid (Ext w wr)) (fun i _=>n-(intOf i).toNat)
 case atStart=>exact⟨0,rfl,by omega,Lh HF.out.symm,Lh (Ext.refl w)⟩
 case round =>
  obtain⟨k,rfl,hk,HQ,HX⟩:=hrel
  by_cases hlt:k<n
  ·have hkl:k<l.length:=by have:=Hn.out;omega
   obtain⟨b,o,rfl,hat⟩:=ZcT H.out (by omega)
   have y0:=hat _ HX.out k hkl
   have HC:=Lh (HP.out wr HX.out _ (Zgd hkl))
   have hN:p (gs l k)=false→F=idxP p (l.drop (k+1)) (k+1):=fun e=>HQ.out.trans (Zcu (Zjs hkl) e)
   have hH:p (gs l k)=true→F=k:=fun e=>HQ.out.trans (ZcC (Zjs hkl) e)
   obtain⟨x,hx⟩:∃ x,gs l k=x:=⟨_,rfl⟩
   rw [hx] at y0 HC hN hH
   obtain⟨r,hr⟩:∃ r,p x=r:=⟨_,rfl⟩
   rw [hr] at HC hN hH
   have HN:=Lh hN
   have HH:=Lh hH
   clear hat hx hkl hr hN hH
   go_wp2_with fail
   refine HC.out.mono ?_
   rintro e w1 ⟨rfl,x1⟩
   have X1:=Lh x1
   clear x1
   cases r
   ·have HE:=Lh (HN.out rfl)
    go_wp2_with fail
    go_roundw
    case rel=>exact⟨k+1,by go_num,by omega,HE,Lh (HX.out.trans X1.out)⟩
    case measure=>simp [intOf];omega
   ·have HE:=Lh (HH.out rfl)
    go_wp2
    go_ret
    exact⟨by rw [HE.out];rfl,HX.out.trans X1.out⟩
  ·have HE:=Lh (show F=-1 by rw [HQ.out,List.drop_of_length_le (by have:=Hn.out;omega)];rfl)
   go_wp2
   go_ret
   exact⟨by rw [HE.out];rfl,HX.out⟩
set_option maxRecDepth 100000 in
theorem Zh3 (fid:FuncId) (caps:Array Value) (p:ByteArray→Bool) (v:Value) (l:List ByteArray) (w:World) (h:ShS.Row w v l)
 (hc:∀ args W,(callFunc fid args).run Tryz.prog W=.ok (.enter fid args) W)
 (hp:∀ W,Ext w W→∀ x∈l,Calls Tryz.prog fid (#[.string x]++caps) W fun e w'=>e=.returned (.bool (p x))∧Ext W w') :
 Calls Tryz.prog 125 #[v,.func (.func fid) #[] caps] w fun e w'=>e=.returned (.bool (l.any p))∧Ext w w':=by
 have HI:=Lh (Zmr fid caps p v l w h hc hp)
 rw [← ZdE (p:=p) (l:=l) (k:=0)]
 obtain⟨A,c,rfl,-⟩:=h.cut
 obtain⟨R,hR⟩:∃ R,idxP p l 0=R:=⟨_,rfl⟩
 rw [hR] at HI ⊢
 clear hR h hp
 go_enter Tryz.func125,Tryz.ntmps125
 go_wp2_with fail
 refine HI.out.mono ?_
 rintro e w1 ⟨rfl,x1⟩
 go_wp2
 go_ret
 exact⟨rfl,x1⟩
set_option maxRecDepth 100000 in
theorem Zqr (fid:FuncId) (caps:Array Value) (g:Nat) (x:ByteArray) (r:Bool) (w:World) (hf:One w g (.func (.func fid) #[] caps))
 (hc:∀ args W,(callFunc fid args).run Tryz.prog W=.ok (.enter fid args) W)
 (hp:∀ W,Ext w W→Calls Tryz.prog fid (#[.string x]++caps) W fun e w'=>e=.returned (.bool r)∧Ext W w') :
 Calls Tryz.prog 126 (#[.string x]++#[.pointer (some ⟨g,0,none⟩)]) w fun e w'=>e=.returned (.bool (!r))∧Ext w w':=by
 have HC:=Lh hp
 have y0:=hf.1
 have l0:=hf.2
 have n0:¬ g=w.heap.size:=by omega
 clear hf hp
 go_enter Tryz.func126,Tryz.ntmps126
 go_wp2_with fail
 refine(HC.out _ (Ext.refl w)).mono ?_
 rintro e w1 ⟨rfl,x1⟩
 go_wp2
 go_ret
 exact⟨rfl,x1⟩
set_option maxRecDepth 100000 in
theorem ZqB (fid:FuncId) (caps:Array Value) (p:ByteArray→Bool) (i:Nat) (hi:i<4) (I:Int) (hI:I=i) (v:Value) (l:List ByteArray) (w:World) (hM:Most w) (h:ShS.Row w v l)
 (hc:∀ args W,(callFunc fid args).run Tryz.prog W=.ok (.enter fid args) W)
 (hp:∀ W,Ext w W→∀ x∈l,Calls Tryz.prog fid (#[.string x]++caps) W fun e w'=>e=.returned (.bool (p x))∧Ext W w') :
 Calls Tryz.prog 72 #[v,.int .i64 I,.func (.func fid) #[] caps] w fun e w'=>e=.returned (.bool (decide ((l.length:Int)≤mst i)&&l.all p))∧Ext w w':=by
 have HC:=Lh (fun W g (e0:Ext w W) (ho:One W g (.func (.func fid) #[] caps))=>Zh3 126 #[.pointer (some ⟨g,0,none⟩)] (fun x=>!p x) v l W (h.ext e0) (fun args W=>Tryz.call126 args W)
  (fun W e x hx=>Zqr fid caps g x (p x) W (ho.ext e) hc (fun W2 e2=>hp W2 ((e0.trans e).trans e2) x hx)))
 subst hI
 have y0:=hM.2 i hi
 have l0:=hM.1
 have n0:¬ 0=w.heap.size:=by omega
 obtain⟨A,c,rfl,-⟩:=h.cut
 rw [← Zh6]
 obtain⟨r,hr⟩:∃ r,(l.any fun x=>!p x)=r:=⟨_,rfl⟩
 obtain⟨n,hn⟩:∃ n,l.length=n:=⟨_,rfl⟩
 obtain⟨K,hK⟩:∃ K,mst i=K:=⟨_,rfl⟩
 rw [hK] at y0
 rw [hr] at HC ⊢
 rw [hn] at HC ⊢
 rw [hK]
 have hi2:(i:Int)<4:=by omega
 clear hr hn hM h hp hK
 by_cases hle:(n:Int)≤K
 ·rw [decide_eq_true hle,Bool.true_and]
  go_enter Tryz.func72,Tryz.ntmps72
  go_wp2_with fail
  refine(HC.out _ _ ((Ext.refl w).alloc _) (One.new w _ _)).mono ?_
  rintro e w1 ⟨rfl,x1⟩
  go_wp2
  go_ret
  exact⟨rfl,((Ext.refl w).alloc _).trans x1⟩
 ·rw [decide_eq_false hle,Bool.false_and]
  go_enter Tryz.func72,Tryz.ntmps72
  go_wp2
  go_ret
  exact⟨rfl,(Ext.refl w).alloc _⟩
set_option maxRecDepth 100000 in
theorem Zml (fid:FuncId) (caps:Array Value) (p:Fd→Bool) (v:Value) (l:List Fd) (w:World) (h:ShF.Row w v l)
 (hc:∀ args W,(callFunc fid args).run Tryz.prog W=.ok (.enter fid args) W)
 (hp:∀ W,Ext w W→∀ x∈l,Calls Tryz.prog fid (#[.agg x.vals]++caps) W fun e w'=>e=.returned (.bool (p x))∧Ext W w') :
 Calls Tryz.prog 163 #[v,.func (.func fid) #[] caps] w fun e w'=>e=.returned (.int .i64 (idxP p l 0))∧Ext w w':=by
 have H:=Lh h
 obtain⟨A,c,rfl,hc0,hm,-⟩:=h.cut
 unfold maxLen at hm
 obtain⟨n,hn⟩:∃ n,n=l.length:=⟨_,rfl⟩
 rw [← hn] at hc0 H ⊢
 have Hn:=Lh hn
 have HP:=Lh hp
 obtain⟨F,hF⟩:∃ F,idxP p l 0=F:=⟨_,rfl⟩
 have HF:=Lh hF
 rw [hF]
 clear hn h hp hF
 go_enter Tryz.func163,Tryz.ntmps163
 go_wp2
 go_loopw [8] (fun i wr=>∃ (k:Nat),i=.int .i64 k∧k≤n∧Hid (F=idxP p (l.drop k) k)∧Hid (Ext w wr)) (fun i _=>n-(intOf i).toNat)
 case atStart=>exact⟨0,rfl,by omega,Lh HF.out.symm,Lh (Ext.refl w)⟩
 case round =>
  obtain⟨k,rfl,hk,HQ,HX⟩:=hrel
  by_cases hlt:k<n
  ·have hkl:k<l.length:=by have:=Hn.out;omega
   obtain⟨b,o,rfl,hat⟩:=ZcL H.out (by omega)
   obtain⟨y0,y1,y2,y3⟩:=hat _ HX.out k hkl
   have HC:=Lh (HP.out wr HX.out _ (Zex hkl))
   have hN:p (gf l k)=false→F=idxP p (l.drop (k+1)) (k+1):=fun e=>HQ.out.trans (Zcu (ZhW hkl) e)
   have hH:p (gf l k)=true→F=k:=fun e=>HQ.out.trans (ZcC (ZhW hkl) e)
   obtain⟨x,hx⟩:∃ x,gf l k=x:=⟨_,rfl⟩
   rw [hx] at y0 y1 y2 y3 HC hN hH
   unfold Fd.vals at HC
   obtain⟨r,hr⟩:∃ r,p x=r:=⟨_,rfl⟩
   rw [hr] at HC hN hH
   have HN:=Lh hN
   have HH:=Lh hH
   clear hat hx hkl hr hN hH
   go_wp2_with fail
   refine HC.out.mono ?_
   rintro e w1 ⟨rfl,x1⟩
   have X1:=Lh x1
   clear x1
   cases r
   ·have HE:=Lh (HN.out rfl)
    go_wp2_with fail
    go_roundw
    case rel=>exact⟨k+1,by go_num,by omega,HE,Lh (HX.out.trans X1.out)⟩
    case measure=>simp [intOf];omega
   ·have HE:=Lh (HH.out rfl)
    go_wp2
    go_ret
    exact⟨by rw [HE.out];rfl,HX.out.trans X1.out⟩
  ·have HE:=Lh (show F=-1 by rw [HQ.out,List.drop_of_length_le (by have:=Hn.out;omega)];rfl)
   go_wp2
   go_ret
   exact⟨by rw [HE.out];rfl,HX.out⟩
set_option maxRecDepth 100000 in
theorem Zhq (fid:FuncId) (caps:Array Value) (p:Fd→Bool) (v:Value) (l:List Fd) (w:World) (h:ShF.Row w v l)
 (hc:∀ args W,(callFunc fid args).run Tryz.prog W=.ok (.enter fid args) W)
 (hp:∀ W,Ext w W→∀ x∈l,Calls Tryz.prog fid (#[.agg x.vals]++caps) W fun e w'=>e=.returned (.bool (p x))∧Ext W w') :
 Calls Tryz.prog 127 #[v,.func (.func fid) #[] caps] w fun e w'=>e=.returned (.bool (l.any p))∧Ext w w':=by
 have HI:=Lh (Zml fid caps p v l w h hc hp)
 rw [← ZdE (p:=p) (l:=l) (k:=0)]
 obtain⟨A,c,rfl,-⟩:=h.cut
 obtain⟨R,hR⟩:∃ R,idxP p l 0=R:=⟨_,rfl⟩
 rw [hR] at HI ⊢
 clear hR h hp
 go_enter Tryz.func127,Tryz.ntmps127
 go_wp2_with fail
 refine HI.out.mono ?_
 rintro e w1 ⟨rfl,x1⟩
 go_wp2
 go_ret
 exact⟨rfl,x1⟩
set_option maxRecDepth 100000 in
theorem Zp0 (fid:FuncId) (caps:Array Value) (g:Nat) (x:Fd) (r:Bool) (w:World) (hf:One w g (.func (.func fid) #[] caps))
 (hc:∀ args W,(callFunc fid args).run Tryz.prog W=.ok (.enter fid args) W)
 (hp:∀ W,Ext w W→Calls Tryz.prog fid (#[.agg x.vals]++caps) W fun e w'=>e=.returned (.bool r)∧Ext W w') :
 Calls Tryz.prog 128 (#[.agg x.vals]++#[.pointer (some ⟨g,0,none⟩)]) w fun e w'=>e=.returned (.bool (!r))∧Ext w w':=by
 have HC:=Lh hp
 have y0:=hf.1
 have l0:=hf.2
 have n0:¬ g=w.heap.size:=by omega
 unfold Fd.vals at HC ⊢
 clear hf hp
 go_enter Tryz.func128,Tryz.ntmps128
 go_wp2_with fail
 refine(HC.out _ ((Ext.refl w).alloc _)).mono ?_
 rintro e w1 ⟨rfl,x1⟩
 go_wp2
 go_ret
 exact⟨rfl,((Ext.refl w).alloc _).trans x1⟩
set_option maxRecDepth 100000 in
theorem Zp1 (fid:FuncId) (caps:Array Value) (p:Fd→Bool) (i:Nat) (hi:i<4) (I:Int) (hI:I=i) (v:Value) (l:List Fd) (w:World) (hM:Most w) (h:ShF.Row w v l)
 (hc:∀ args W,(callFunc fid args).run Tryz.prog W=.ok (.enter fid args) W)
 (hp:∀ W,Ext w W→∀ x∈l,Calls Tryz.prog fid (#[.agg x.vals]++caps) W fun e w'=>e=.returned (.bool (p x))∧Ext W w') :
 Calls Tryz.prog 73 #[v,.int .i64 I,.func (.func fid) #[] caps] w fun e w'=>e=.returned (.bool (decide ((l.length:Int)≤mst i)&&l.all p))∧Ext w w':=by
 have HC:=Lh (fun W g (e0:Ext w W) (ho:One W g (.func (.func fid) #[] caps))=>Zhq 128 #[.pointer (some ⟨g,0,none⟩)] (fun x=>!p x) v l W (h.ext e0) (fun args W=>Tryz.call128 args W)
  (fun W e x hx=>Zp0 fid caps g x (p x) W (ho.ext e) hc (fun W2 e2=>hp W2 ((e0.trans e).trans e2) x hx)))
 subst hI
 have y0:=hM.2 i hi
 have l0:=hM.1
 have n0:¬ 0=w.heap.size:=by omega
 obtain⟨A,c,rfl,-⟩:=h.cut
 rw [← Zh6]
 obtain⟨r,hr⟩:∃ r,(l.any fun x=>!p x)=r:=⟨_,rfl⟩
 obtain⟨n,hn⟩:∃ n,l.length=n:=⟨_,rfl⟩
 obtain⟨K,hK⟩:∃ K,mst i=K:=⟨_,rfl⟩
 rw [hK] at y0
 rw [hr] at HC ⊢
 rw [hn] at HC ⊢
 rw [hK]
 have hi2:(i:Int)<4:=by omega
 clear hr hn hM h hp hK
 by_cases hle:(n:Int)≤K
 ·rw [decide_eq_true hle,Bool.true_and]
  go_enter Tryz.func73,Tryz.ntmps73
  go_wp2_with fail
  refine(HC.out _ _ ((Ext.refl w).alloc _) (One.new w _ _)).mono ?_
  rintro e w1 ⟨rfl,x1⟩
  go_wp2
  go_ret
  exact⟨rfl,((Ext.refl w).alloc _).trans x1⟩
 ·rw [decide_eq_false hle,Bool.false_and]
  go_enter Tryz.func73,Tryz.ntmps73
  go_wp2
  go_ret
  exact⟨rfl,(Ext.refl w).alloc _⟩
set_option maxRecDepth 100000 in
theorem Zma (fid:FuncId) (caps:Array Value) (p:Me→Bool) (v:Value) (l:List Me) (w:World) (h:RowM w v l)
 (hc:∀ args W,(callFunc fid args).run Tryz.prog W=.ok (.enter fid args) W)
 (hp:∀ W,Ext w W→∀ x∈l,∀ va vc vh,MeAt W x va vc vh→Calls Tryz.prog fid (#[.agg (x.vals va vc vh)]++caps) W fun e w'=>e=.returned (.bool (p x))∧Ext W w') :
 Calls Tryz.prog 164 #[v,.func (.func fid) #[] caps] w fun e w'=>e=.returned (.int .i64 (idxP p l 0))∧Ext w w':=by
 have H:=Lh h
 obtain⟨A,c,rfl,hc0,hm,-⟩:=h.cut
 unfold maxLen at hm
 obtain⟨n,hn⟩:∃ n,n=l.length:=⟨_,rfl⟩
 rw [← hn] at hc0 H ⊢
 have Hn:=Lh hn
 have HP:=Lh hp
 obtain⟨F,hF⟩:∃ F,idxP p l 0=F:=⟨_,rfl⟩
 have HF:=Lh hF
 rw [hF]
 clear hn h hp hF
 go_enter Tryz.func164,Tryz.ntmps164
 go_wp2
 go_loopw [8] (fun i wr=>∃ (k:Nat),i=.int .i64 k∧k≤n∧Hid (F=idxP p (l.drop k) k)∧Hid (Ext w wr)) (fun i _=>n-(intOf i).toNat)
 case atStart=>exact⟨0,rfl,by omega,Lh HF.out.symm,Lh (Ext.refl w)⟩
 case round =>
  obtain⟨k,rfl,hk,HQ,HX⟩:=hrel
  by_cases hlt:k<n
  ·have hkl:k<l.length:=by have:=Hn.out;omega
   obtain⟨b,o,rfl,hat⟩:=H.out.at (by omega)
   obtain⟨va,vc,vh,hat⟩:=hat k hkl
   obtain⟨⟨y0,y1,y2,y3,y4,y5,y6,y7,y8,y9⟩,hme⟩:=hat _ HX.out
   have HC:=Lh (HP.out wr HX.out _ (Zc8 hkl) va vc vh hme)
   have q1:=Zbo hme.1
   have q2:=ZbZ hme.2.1
   have q3:=Zbo hme.2.2
   clear hme
   have hN:p (gm l k)=false→F=idxP p (l.drop (k+1)) (k+1):=fun e=>HQ.out.trans (Zcu (Zka hkl) e)
   have hH:p (gm l k)=true→F=k:=fun e=>HQ.out.trans (ZcC (Zka hkl) e)
   obtain⟨x,hx⟩:∃ x,gm l k=x:=⟨_,rfl⟩
   rw [hx] at y0 y1 y2 y3 y4 y6 y7 HC hN hH
   unfold Me.vals at HC
   obtain⟨r,hr⟩:∃ r,p x=r:=⟨_,rfl⟩
   rw [hr] at HC hN hH
   have HN:=Lh hN
   have HH:=Lh hH
   clear hat hx hkl hr hN hH
   go_wp2_with fail
   refine HC.out.mono ?_
   rintro e w1 ⟨rfl,x1⟩
   have X1:=Lh x1
   clear x1
   cases r
   ·have HE:=Lh (HN.out rfl)
    go_wp2_with fail
    go_roundw
    case rel=>exact⟨k+1,by go_num,by omega,HE,Lh (HX.out.trans X1.out)⟩
    case measure=>simp [intOf];omega
   ·have HE:=Lh (HH.out rfl)
    go_wp2
    go_ret
    exact⟨by rw [HE.out];rfl,HX.out.trans X1.out⟩
  ·have HE:=Lh (show F=-1 by rw [HQ.out,List.drop_of_length_le (by have:=Hn.out;omega)];rfl)
   go_wp2
   go_ret
   exact⟨by rw [HE.out];rfl,HX.out⟩
set_option maxRecDepth 100000 in
theorem ZhF (fid:FuncId) (caps:Array Value) (p:Me→Bool) (v:Value) (l:List Me) (w:World) (h:RowM w v l)
 (hc:∀ args W,(callFunc fid args).run Tryz.prog W=.ok (.enter fid args) W)
 (hp:∀ W,Ext w W→∀ x∈l,∀ va vc vh,MeAt W x va vc vh→Calls Tryz.prog fid (#[.agg (x.vals va vc vh)]++caps) W fun e w'=>e=.returned (.bool (p x))∧Ext W w') :
 Calls Tryz.prog 130 #[v,.func (.func fid) #[] caps] w fun e w'=>e=.returned (.bool (l.any p))∧Ext w w':=by
 have HI:=Lh (Zma fid caps p v l w h hc hp)
 rw [← ZdE (p:=p) (l:=l) (k:=0)]
 obtain⟨A,c,rfl,-⟩:=h.cut
 obtain⟨R,hR⟩:∃ R,idxP p l 0=R:=⟨_,rfl⟩
 rw [hR] at HI ⊢
 clear hR h hp
 go_enter Tryz.func130,Tryz.ntmps130
 go_wp2_with fail
 refine HI.out.mono ?_
 rintro e w1 ⟨rfl,x1⟩
 go_wp2
 go_ret
 exact⟨rfl,x1⟩
set_option maxRecDepth 100000 in
theorem Zqq (fid:FuncId) (caps:Array Value) (g:Nat) (x:Me) (va vc vh:Value) (r:Bool) (w:World) (hf:One w g (.func (.func fid) #[] caps))
 (hc:∀ args W,(callFunc fid args).run Tryz.prog W=.ok (.enter fid args) W)
 (hp:∀ W,Ext w W→Calls Tryz.prog fid (#[.agg (x.vals va vc vh)]++caps) W fun e w'=>e=.returned (.bool r)∧Ext W w') :
 Calls Tryz.prog 131 (#[.agg (x.vals va vc vh)]++#[.pointer (some ⟨g,0,none⟩)]) w fun e w'=>e=.returned (.bool (!r))∧Ext w w':=by
 have HC:=Lh hp
 have y0:=hf.1
 have l0:=hf.2
 have n0:¬ g=w.heap.size:=by omega
 unfold Me.vals at HC ⊢
 clear hf hp
 go_enter Tryz.func131,Tryz.ntmps131
 go_wp2_with fail
 refine(HC.out _ ((Ext.refl w).alloc _)).mono ?_
 rintro e w1 ⟨rfl,x1⟩
 go_wp2
 go_ret
 exact⟨rfl,((Ext.refl w).alloc _).trans x1⟩
set_option maxRecDepth 100000 in
theorem Zql (fid:FuncId) (caps:Array Value) (p:Me→Bool) (i:Nat) (hi:i<4) (I:Int) (hI:I=i) (v:Value) (l:List Me) (w:World) (hM:Most w) (h:RowM w v l)
 (hc:∀ args W,(callFunc fid args).run Tryz.prog W=.ok (.enter fid args) W)
 (hp:∀ W,Ext w W→∀ x∈l,∀ va vc vh,MeAt W x va vc vh→Calls Tryz.prog fid (#[.agg (x.vals va vc vh)]++caps) W fun e w'=>e=.returned (.bool (p x))∧Ext W w') :
 Calls Tryz.prog 75 #[v,.int .i64 I,.func (.func fid) #[] caps] w fun e w'=>e=.returned (.bool (decide ((l.length:Int)≤mst i)&&l.all p))∧Ext w w':=by
 have HC:=Lh (fun W g (e0:Ext w W) (ho:One W g (.func (.func fid) #[] caps))=>ZhF 131 #[.pointer (some ⟨g,0,none⟩)] (fun x=>!p x) v l W (h.ext e0) (fun args W=>Tryz.call131 args W)
  (fun W e x hx va vc vh hm=>Zqq fid caps g x va vc vh (p x) W (ho.ext e) hc (fun W2 e2=>hp W2 ((e0.trans e).trans e2) x hx va vc vh (hm.ext e2))))
 subst hI
 have y0:=hM.2 i hi
 have l0:=hM.1
 have n0:¬ 0=w.heap.size:=by omega
 obtain⟨A,c,rfl,-⟩:=h.cut
 rw [← Zh6]
 obtain⟨r,hr⟩:∃ r,(l.any fun x=>!p x)=r:=⟨_,rfl⟩
 obtain⟨n,hn⟩:∃ n,l.length=n:=⟨_,rfl⟩
 obtain⟨K,hK⟩:∃ K,mst i=K:=⟨_,rfl⟩
 rw [hK] at y0
 rw [hr] at HC ⊢
 rw [hn] at HC ⊢
 rw [hK]
 have hi2:(i:Int)<4:=by omega
 clear hr hn hM h hp hK
 by_cases hle:(n:Int)≤K
 ·rw [decide_eq_true hle,Bool.true_and]
  go_enter Tryz.func75,Tryz.ntmps75
  go_wp2_with fail
  refine(HC.out _ _ ((Ext.refl w).alloc _) (One.new w _ _)).mono ?_
  rintro e w1 ⟨rfl,x1⟩
  go_wp2
  go_ret
  exact⟨rfl,((Ext.refl w).alloc _).trans x1⟩
 ·rw [decide_eq_false hle,Bool.false_and]
  go_enter Tryz.func75,Tryz.ntmps75
  go_wp2
  go_ret
  exact⟨rfl,(Ext.refl w).alloc _⟩
theorem ZmY {l:List In} {t:Int} (h:ZaQ l t=true):∃ x∈l,x.a=t:=by
 unfold ZaQ at h
 rw [List.any_eq_true] at h
 obtain⟨x,hx,e⟩:=h
 exact⟨x,hx,of_decide_eq_true e⟩
theorem ZnM {l:List Int} (h:Fit .u8 l):Zen l:=fun c hc=>h.u8 hc
theorem Zpj {pool:List Cst} {n a b:Int} (h:isKZ pool n a b=true) (hp:pool.length≤4096):NN n:=by
 unfold isKZ at h
 simp at h
 unfold NN
 omega
theorem ZiR {m:Me} {pool:List Cst} (h:(Zcc m pool).2.2=0):(cutZ m.code).2.2=0∧ZiF m=true∧Zcv (cutZ m.code).1 m pool=true:=by
 unfold Zcc chkL at h
 split at h <;> rename_i h1
 ·split at h <;> rename_i h2
  ·cases h
  ·split at h <;> rename_i h3
   ·exact⟨h1,h3.1,h3.2⟩
   ·cases h
 ·exact absurd h h1
theorem Zf9 {m:Me} {pool:List Cst} (hb:Fit .u8 m.code) (h:(Zcc m pool).2.2=0) (hp:pool.length≤4096) :
 NN m.sk∧NN m.lo∧m.code.length≤8192∧m.hs.length≤256∧∀ h∈m.hs,HdOk h:=by
 obtain⟨h1,h2,h3⟩:=ZiR h
 obtain⟨p1,p2,p3,-,-⟩:=ZeZ h1
 have hall:=ZhJ (ZnM hb) _ 0 rfl (by rw [p3];exact h1)
 rw [p3] at hall
 have at_:∀ {t:Int},ZaQ (cutZ m.code).1 t=true→NN t:=fun e=>by
  obtain⟨x,hx,rfl⟩:=ZmY e
  have:=hall x hx
  unfold NN
  omega
 unfold ZiF at h2
 have h2:=of_decide_eq_true h2
 unfold Zcv at h3
 rw [Bool.and_eq_true,List.all_eq_true] at h3
 refine⟨⟨h2.1,by omega⟩,⟨h2.2.2.1,by omega⟩,p1,of_decide_eq_true h3.2,fun x hx=>?_⟩
 have hz:=h3.1 x hx
 unfold ZdN at hz
 simp only [Bool.and_eq_true,Bool.or_eq_true,decide_eq_true_eq] at hz
 obtain⟨z1,z2,z3,z4,z5⟩:=hz
 refine⟨at_ z1,?_,at_ z2,?_⟩
 ·rcases z4 with z4 | z4
  ·exact at_ z4
  ·rw [z4];exact⟨by omega,by omega⟩
 ·rcases z5 with z5 | z5
  ·rw [z5];exact⟨by decide,by decide⟩
  ·exact Zpj z5 hp
theorem ZqX (m:Me):NN (kdZ m)∧kdZ m≤2:=by
 unfold kdZ
 split
 ·exact⟨⟨by decide,by decide⟩,by decide⟩
 ·exact⟨(ZbG _).1,by have:=(ZbG m.st).2;omega⟩
theorem Zry {pool:List Cst} (hp:pool.length≤4096):Fwd gMe meZ (fun m=>okMe pool m=true∧Fit .u8 m.code):=fun m r h=>by
 obtain⟨h,hf⟩:=h
 unfold okMe at h
 rw [Bool.and_eq_true,Bool.and_eq_true,decide_eq_true_eq] at h
 obtain⟨h1,h2,h3⟩:=h
 have e1:=fun q=>Zhl 2 (kdZ m) q (ZqX m)
 have e2:=fun q=>Zd8 m.nm q (by have:=ZbW h1;unfold TX;omega)
 have e3:=fun q=>ZrR m.pr q h2
 unfold gMe meZ
 simp only [List.append_assoc,e1,e2,e3]
 by_cases hab:m.ab=true
 ·have hk:kdZ m=2:=by unfold kdZ;rw [if_pos hab]
  rw [if_pos hab] at h3
  simp only [Bool.and_eq_true,Bool.not_eq_true',decide_eq_true_eq] at h3
  obtain⟨k1,k2,k3,k4,k5⟩:=h3
  simp only [hk,hab,if_true,List.nil_append]
  obtain⟨st,ab,nm,ret,args,sk,lo,code,hs⟩:=m
  simp only at hab k1 k2 k3 k4 k5
  obtain rfl:code=[]:=List.eq_nil_of_length_eq_zero k4
  obtain rfl:hs=[]:=List.eq_nil_of_length_eq_zero k5
  subst hab k1 k2 k3
  simp only [Me.pr,Zo9,Zq1]
  rfl
 ·have hab:m.ab=false:=by simpa using hab
  have hk:kdZ m=flg m.st:=by unfold kdZ;rw [hab];rfl
  have hk2:¬ flg m.st=2:=by cases m.st <;> decide
  rw [hab] at h3
  simp only [Bool.false_eq_true,if_false,decide_eq_true_eq] at h3
  obtain⟨c1,c2,c3,c4,c5⟩:=Zf9 hf h3 hp
  have g1:=fun q=>Zeb m.sk q c1
  have g2:=fun q=>Zeb m.lo q c2
  have g3:=fun q=>Zeb (m.code.length:Int) q ⟨by omega,by omega⟩
  have g4:=ZnQ m.code
  have g5:=Zho 256 (by decide) Zrr m.hs r ⟨by omega,c5⟩
  simp only [hk,hk2,hab,if_false,Bool.false_eq_true]
  unfold gMt meT
  simp only [List.append_assoc,g1,g2,g3,g4,g5,decide_false,Zj9]
  obtain⟨st,ab,nm,ret,args,sk,lo,code,hs⟩:=m
  simp only at hab
  subst hab
  simp only [Me.pr,Zo9,Zq1]
theorem Zox {s:RSt} (hf:Fit .u8 s.1):Fit .u8 (Zb4 s).2.1:=by
 unfold Zb4
 split
 ·simp only
  split
  ·exact hf
  ·exact hf.drop _
 ·exact hf
theorem ZpJ {l m:List Int} (h:m <:+ l):l.drop (l.length-m.length)=m:=by
 obtain⟨p,rfl⟩:=h
 rw [List.length_append,show p.length+m.length-m.length=p.length by omega,List.drop_left]
theorem ZmR {l:List Cst} (hc:ZaD l=0) (ht:Told l) (r:List Int):Zb4 (Zbd l++r,false)=(l,r,false):=by
 obtain⟨h1,h2⟩:=Zjm hc ht r
 unfold Zb4
 simp only [h2,if_true,h1,Bool.false_eq_true,if_false]
 rw [ZpJ (List.suffix_append _ _)]
theorem Znm {b:List Int} (hf:Fit .u8 b):Fit .u8 (ZcD b).1:=(Zkz hf).2
theorem Zoz (r:List Int):ZcD ([87,66,1]++r)=(r,false):=by
 unfold ZcD
 rw [show (3:Int)=([87,66,1]:List Int).length from rfl,ZnQ]
 simp
theorem Zao {c:Cl} (h:okCl c=true):ZaD c.pool=0∧nmB c.nm=true∧(c.sup=.empty∨nmB c.sup=true)∧c.ifs.length≤64∧(∀ x∈c.ifs,nmB x=true)∧c.fds.length≤256∧(∀ x∈c.fds,okFd x=true)∧c.mts.length≤256∧∀ x∈c.mts,okMe c.pool x=true:=by
 unfold okCl at h
 simp only [Bool.and_eq_true,Bool.or_eq_true,decide_eq_true_eq,List.all_eq_true] at h
 exact h
def Good (c:Cl):Prop:=Told c.pool∧∀ m∈c.mts,Fit .u8 m.code
theorem Zr2 {c:Cl} (h:okCl c=true) (hg:Good c) (r:List Int):gTl c.pool (tlZ c++r,false)=(c,r,false):=by
 obtain⟨h1,h2,h3,h4,h5,h6,h7,h8,h9⟩:=Zao h
 have hp:=(Zb8 h1).1
 have hs:TX c.sup:=by
  rcases h3 with h3 | h3
  ·rw [h3];exact Nat.zero_le _
  ·have:=ZbW h3;unfold TX;omega
 have e1:=fun q=>Zhl 1 (flg c.inf) q (ZbG _)
 have e2:=fun q=>Zd8 c.nm q (by have:=ZbW h2;unfold TX;omega)
 have e3:=fun q=>Zd8 c.sup q hs
 have e4:=fun q=>Zho 64 (by decide) Zd8 c.ifs q ⟨by omega,fun x hx=>by have:=ZbW (h5 x hx);unfold TX;omega⟩
 have e5:=fun q=>Zho 256 (by decide) Zsr c.fds q ⟨by omega,h7⟩
 have e6:=fun q=>Zho 256 (by decide) (Zry hp) c.mts q ⟨by omega,fun x hx=>⟨h9 x hx,hg.2 x hx⟩⟩
 unfold gTl tlZ
 simp only [List.append_assoc,e1,e2,e3,e4,e5,e6,Zj9]
theorem Zrg {c:Cl} (h:okCl c=true) (hg:Good c) (r:List Int):gCl (clZ c++r)=(c,r,false):=by
 have h1:=(Zao h).1
 unfold gCl clZ
 rw [List.append_assoc,Zoz,List.append_assoc,ZmR h1 hg.1]
 exact Zr2 h hg r
theorem ZlZ {c:Cl} (h:okCl c=true) (hg:Good c) (hl:(clZ c).length≤65535):ZfX (clZ c)=(c,0):=by
 have e:=Zrg h hg []
 rw [List.append_nil] at e
 unfold ZfX
 rw [if_neg (by omega),e,if_neg (by simp),if_pos h]
end Go.Proofs.YtclamhhgldkhnaaGreatDoor
namespace Go.Proofs.YtclamhhgldkhnaaGreatDoor
open Go.RowKit Go.ChangeShapes Go.WideShapes Go.Deep
set_option linter.unusedVariables false
section
variable {H : Type} {enc : TypeId × Value → H} {w : World}
theorem ZiS {t:TypeId} {l:List UInt8} (h:Zch t (.lit (.string l):DataW H)):l.length≤140737488351232:=h l.length (by simp [DataW.weights])
theorem ZcB {t:TypeId} {x:DataW H × List MemPlace} {s:ByteArray} (hx:x=(.lit (.string s.data.toList),[])) (h:Zch t x.1):s.size≤140737488351232:=by
 subst hx
 have:=ZiS h
 rw [Lib.size_eq]
 exact this
theorem ZnK (fuel:Nat) (cs:List Value) (x:DataW H × List MemPlace) (h:DataW.trod enc Tryz.prog w 0 (fun _=>true) true fuel 9 cs=some x) (hl:Zch 9 x.1) :
 ∃ y:ByteArray,cs=(ShS.vals y).toList∧ShS.nest w y∧y.size≤140737488351232:=by
 obtain⟨s,e,r,-⟩:=DataW.trod_string Tryz.underlying9 h
 exact⟨s,e,trivial,ZcB r hl⟩
set_option maxRecDepth 100000 in
theorem Zhu (fuel:Nat) (cs:List Value) (x:DataW H × List MemPlace) (h:DataW.trod enc Tryz.prog w 0 (fun _=>true) true fuel 41 cs=some x) (hl:Zch 41 x.1) :
 ∃ y:Ty,cs=y.vals.toList∧True∧TyOk y:=by
 obtain⟨ys,n',hn',hy,hlen,hyl,hf⟩:=DataW.trod_struct Tryz.underlying41 h
 have hc:cs.length=2:=hlen.trans (by kernel_rfl)
 have k3:Tryz.prog.cellsOf 3=1:=by kernel_rfl
 have k9:Tryz.prog.cellsOf 9=1:=by kernel_rfl
 match cs,hc with
 | [c0,c1],_ =>
  have hyl':ys.length=2:=hyl
  clear hyl
  match ys,hyl' with
  | [y0,y1],_ =>
   subst hy
   have h0:DataW.trod enc Tryz.prog w 0 (fun _=>true) true n' 3 [c0]=some y0:=by simpa [k3,k9] using hf 0 _ rfl
   have h1:DataW.trod enc Tryz.prog w 0 (fun _=>true) true n' 9 [c1]=some y1:=by simpa [k3,k9] using hf 1 _ rfl
   obtain⟨x0,e0,r0,w0⟩:=DataW.trod_int Tryz.underlying3 h0
   obtain⟨x1,e1,r1,w1⟩:=DataW.trod_string Tryz.underlying9 h1
   have hs:=ZcB r1 (Zar Tryz.underlying41 hl (j:=1) rfl rfl)
   injection e0 with e0
   injection e1 with e1
   subst e0 e1
   exact⟨⟨x0,x1⟩,rfl,trivial,⟨(ZdB w0).1,(ZdB w0).2⟩,hs⟩
set_option maxRecDepth 100000 in
theorem Zjr (fuel:Nat) (cs:List Value) (x:DataW H × List MemPlace) (h:DataW.trod enc Tryz.prog w 0 (fun _=>true) true fuel 59 cs=some x) (hl:Zch 59 x.1) :
 ∃ y:Fd,cs=(ShF.vals y).toList∧ShF.nest w y∧(y.nm.size≤140737488351232∧TyOk y.ty):=by
 obtain⟨ys,n',hn',hy,hlen,hyl,hf⟩:=DataW.trod_struct Tryz.underlying59 h
 have hc:cs.length=4:=hlen.trans (by kernel_rfl)
 have k4:Tryz.prog.cellsOf 4=1:=by kernel_rfl
 have k9:Tryz.prog.cellsOf 9=1:=by kernel_rfl
 have kt:Tryz.prog.cellsOf 41=2:=by kernel_rfl
 match cs,hc with
 | [c0,c1,c2,c3],_ =>
  have hyl':ys.length=3:=hyl
  clear hyl
  match ys,hyl' with
  | [y0,y1,y2],_ =>
   subst hy
   have h0:DataW.trod enc Tryz.prog w 0 (fun _=>true) true n' 4 [c0]=some y0:=by simpa [k4] using hf 0 _ rfl
   have h1:DataW.trod enc Tryz.prog w 0 (fun _=>true) true n' 9 [c1]=some y1:=by simpa [k9] using hf 1 _ rfl
   have h2:DataW.trod enc Tryz.prog w 0 (fun _=>true) true n' 41 [c2,c3]=some y2:=by simpa [kt] using hf 2 _ rfl
   obtain⟨x0,e0,r0⟩:=DataW.trod_bool Tryz.underlying4 h0
   obtain⟨x1,e1,r1,w1⟩:=DataW.trod_string Tryz.underlying9 h1
   have hs:=ZcB r1 (Zar Tryz.underlying59 hl (j:=1) rfl rfl)
   obtain⟨ty,et,-,ht⟩:=Zhu _ _ _ h2 (Zar Tryz.underlying59 hl (j:=2) rfl rfl)
   have et':c2=.int .i64 ty.k∧c3=.string ty.s:=by
    simp [Ty.vals] at et
    exact et
   obtain⟨rfl,rfl⟩:=et'
   injection e0 with e0
   injection e1 with e1
   subst e0 e1
   exact⟨⟨x0,x1,ty⟩,rfl,trivial,hs,ht⟩
set_option maxRecDepth 100000 in
theorem Zmq (fuel:Nat) (cs:List Value) (x:DataW H × List MemPlace) (h:DataW.trod enc Tryz.prog w 0 (fun _=>true) true fuel 47 cs=some x) (hl:Zch 47 x.1) :
 ∃ y:MeV,cs=(ShM.vals y).toList∧ShM.nest w y∧(MeRoom y.1∧MeOk y.1):=by
 obtain⟨ys,n',hn',hy,hlen,hyl,hf⟩:=DataW.trod_struct Tryz.underlying47 h
 have hc:cs.length=10:=hlen.trans (by kernel_rfl)
 have k4:Tryz.prog.cellsOf 4=1:=by kernel_rfl
 have k3:Tryz.prog.cellsOf 3=1:=by kernel_rfl
 have k9:Tryz.prog.cellsOf 9=1:=by kernel_rfl
 have kp:Tryz.prog.cellsOf 44=3:=by kernel_rfl
 have kt:Tryz.prog.cellsOf 41=2:=by kernel_rfl
 have kb:Tryz.prog.cellsOf 29=1:=by kernel_rfl
 have kh:Tryz.prog.cellsOf 45=1:=by kernel_rfl
 have ka:Tryz.prog.cellsOf 42=1:=by kernel_rfl
 have k8:Tryz.prog.cellsOf 5=1:=by kernel_rfl
 have b8:Tryz.prog.bytesOf 5=1:=by kernel_rfl
 match cs,hc with
 | [c0,c1,c2,c3,c4,c5,c6,c7,c8,c9],_ =>
  have hyl':ys.length=8:=hyl
  clear hyl
  match ys,hyl' with
  | [y0,y1,y2,y3,y4,y5,y6,y7],_ =>
   subst hy
   have h0:DataW.trod enc Tryz.prog w 0 (fun _=>true) true n' 4 [c0]=some y0:=by simpa [k4] using hf 0 _ rfl
   have h1:DataW.trod enc Tryz.prog w 0 (fun _=>true) true n' 4 [c1]=some y1:=by simpa [k4] using hf 1 _ rfl
   have h2:DataW.trod enc Tryz.prog w 0 (fun _=>true) true n' 9 [c2]=some y2:=by simpa [k9] using hf 2 _ rfl
   have h3:DataW.trod enc Tryz.prog w 0 (fun _=>true) true n' 44 [c3,c4,c5]=some y3:=by simpa [kp] using hf 3 _ rfl
   have h4:DataW.trod enc Tryz.prog w 0 (fun _=>true) true n' 3 [c6]=some y4:=by simpa [k3] using hf 4 _ rfl
   have h5:DataW.trod enc Tryz.prog w 0 (fun _=>true) true n' 3 [c7]=some y5:=by simpa [k3] using hf 5 _ rfl
   have h6:DataW.trod enc Tryz.prog w 0 (fun _=>true) true n' 29 [c8]=some y6:=by simpa [kb] using hf 6 _ rfl
   have h7:DataW.trod enc Tryz.prog w 0 (fun _=>true) true n' 45 [c9]=some y7:=by simpa [kh] using hf 7 _ rfl
   have l3:Zch 44 y3.1:=Zar Tryz.underlying47 hl (j:=3) rfl rfl
   obtain⟨x0,e0,r0⟩:=DataW.trod_bool Tryz.underlying4 h0
   obtain⟨x1,e1,r1⟩:=DataW.trod_bool Tryz.underlying4 h1
   obtain⟨x2,e2,r2,w2⟩:=DataW.trod_string Tryz.underlying9 h2
   have hs:=ZcB r2 (Zar Tryz.underlying47 hl (j:=2) rfl rfl)
   obtain⟨x4,e4,r4,w4⟩:=DataW.trod_int Tryz.underlying3 h4
   obtain⟨x5,e5,r5,w5⟩:=DataW.trod_int Tryz.underlying3 h5
   obtain⟨A6,n6,c6',l6,e6,q6,s6,z6⟩:=Zmf Tryz.underlying29 Tryz.underlying5 k8 b8 h6 (Zar Tryz.underlying47 hl (j:=6) rfl rfl)
   obtain⟨A7,n7,c7',l7,e7,q7,s7,z7,-⟩:=Zcq ShH (bytes:=32) (Q:=fun _=>True) Tryz.underlying45 (by kernel_rfl) (by kernel_rfl) Zls h7 (Zar Tryz.underlying47 hl (j:=7) rfl rfl)
   obtain⟨ps,n2,hn2,hp,hplen,hpl,hpf⟩:=DataW.trod_struct Tryz.underlying44 h3
   have hpl':ps.length=2:=hpl
   clear hpl
   match ps,hpl' with
   | [p0,p1],_ =>
    rw [hp] at l3
    have g0:DataW.trod enc Tryz.prog w 0 (fun _=>true) true n2 41 [c3,c4]=some p0:=by simpa [kt] using hpf 0 _ rfl
    have g1:DataW.trod enc Tryz.prog w 0 (fun _=>true) true n2 42 [c5]=some p1:=by simpa [ka] using hpf 1 _ rfl
    obtain⟨ty,et,-,ht⟩:=Zhu _ _ _ g0 (Zar Tryz.underlying44 l3 (j:=0) rfl rfl)
    obtain⟨A8,n8,c8',l8,e8,q8,s8,z8,hts⟩:=Zcq ShT (bytes:=24) (Q:=TyOk) Tryz.underlying42 (by kernel_rfl) (by kernel_rfl) Zhu g1 (Zar Tryz.underlying44 l3 (j:=1) rfl rfl)
    have et':c3=.int .i64 ty.k∧c4=.string ty.s:=by
     simp [Ty.vals] at et
     exact et
    obtain⟨rfl,rfl⟩:=et'
    injection e0 with e0
    injection e1 with e1
    injection e2 with e2
    injection e4 with e4
    injection e5 with e5
    injection e6 with e6
    injection e7 with e7
    injection e8 with e8
    subst e0 e1 e2 e4 e5 e6 e7 e8
    have z6':l6.length≤reachBytes:=by simpa using z6
    exact⟨(⟨x0,x1,x2,ty,l8,x4,x5,l6,l7⟩,_,_,_),rfl,⟨s8,s6,s7⟩,⟨hs,ht,hts,z6'⟩,z6',z7,z8,ZdB w4,ZdB w5⟩
structure ClSize (c:Cl):Prop where
 pool:c.pool.length*56≤140737488351232
 ifs:c.ifs.length*16≤140737488351232
 fds:c.fds.length*48≤140737488351232
 mts:c.mts.length*136≤140737488351232
 each:∀ m∈c.mts,MeOk m
set_option maxRecDepth 100000 in
theorem ZfJ (fuel:Nat) (cs:List Value) (x:DataW H × List MemPlace) (h:DataW.trod enc Tryz.prog w 0 (fun _=>true) true fuel 27 cs=some x) (hl:Zch 27 x.1) :
 ∃ (c:Cl) (vp vi vf vm:Value),cs=(c.vals vp vi vf vm).toList∧ClAt w c vp vi vf vm∧ClRoom c∧ClSize c∧tot c.pool≤Rows.uptoBulk x.1:=by
 obtain⟨ys,n',hn',hy,hlen,hyl,hf⟩:=DataW.trod_struct Tryz.underlying27 h
 have hc:cs.length=7:=hlen.trans (by kernel_rfl)
 have k4:Tryz.prog.cellsOf 4=1:=by kernel_rfl
 have k9:Tryz.prog.cellsOf 9=1:=by kernel_rfl
 have kc:Tryz.prog.cellsOf 22=1:=by kernel_rfl
 have ks:Tryz.prog.cellsOf 23=1:=by kernel_rfl
 have kf:Tryz.prog.cellsOf 24=1:=by kernel_rfl
 have km:Tryz.prog.cellsOf 25=1:=by kernel_rfl
 match cs,hc with
 | [c0,c1,c2,c3,c4,c5,c6],_ =>
  have hyl':ys.length=7:=hyl
  clear hyl
  match ys,hyl' with
  | [y0,y1,y2,y3,y4,y5,y6],_ =>
   subst hy
   have h0:DataW.trod enc Tryz.prog w 0 (fun _=>true) true n' 22 [c0]=some y0:=by simpa [kc] using hf 0 _ rfl
   have h1:DataW.trod enc Tryz.prog w 0 (fun _=>true) true n' 9 [c1]=some y1:=by simpa [k9] using hf 1 _ rfl
   have h2:DataW.trod enc Tryz.prog w 0 (fun _=>true) true n' 9 [c2]=some y2:=by simpa [k9] using hf 2 _ rfl
   have h3:DataW.trod enc Tryz.prog w 0 (fun _=>true) true n' 4 [c3]=some y3:=by simpa [k4] using hf 3 _ rfl
   have h4:DataW.trod enc Tryz.prog w 0 (fun _=>true) true n' 23 [c4]=some y4:=by simpa [ks] using hf 4 _ rfl
   have h5:DataW.trod enc Tryz.prog w 0 (fun _=>true) true n' 24 [c5]=some y5:=by simpa [kf] using hf 5 _ rfl
   have h6:DataW.trod enc Tryz.prog w 0 (fun _=>true) true n' 25 [c6]=some y6:=by simpa [km] using hf 6 _ rfl
   have hl0:Zch 22 y0.1:=Zar Tryz.underlying27 hl (j:=0) rfl rfl
   obtain⟨A0,n0,c0',l0,sp,e0,q0,s0,m0',hd0⟩:=ZjW h0
   obtain⟨x1,e1,r1,w1⟩:=DataW.trod_string Tryz.underlying9 h1
   have hs1:=ZcB r1 (Zar Tryz.underlying27 hl (j:=1) rfl rfl)
   obtain⟨x2,e2,r2,w2⟩:=DataW.trod_string Tryz.underlying9 h2
   have hs2:=ZcB r2 (Zar Tryz.underlying27 hl (j:=2) rfl rfl)
   obtain⟨x3,e3,r3⟩:=DataW.trod_bool Tryz.underlying4 h3
   obtain⟨A4,n4,c4',l4,e4,q4,s4,z4,hq4⟩:=Zcq ShS (bytes:=16) (Q:=fun y=>y.size≤140737488351232) Tryz.underlying23 (by kernel_rfl) (by kernel_rfl) ZnK h4 (Zar Tryz.underlying27 hl (j:=4) rfl rfl)
   obtain⟨A5,n5,c5',l5,e5,q5,s5,z5,hq5⟩:=Zcq ShF (bytes:=48) (Q:=fun y=>y.nm.size≤140737488351232∧TyOk y.ty) Tryz.underlying24 (by kernel_rfl) (by kernel_rfl) Zjr h5 (Zar Tryz.underlying27 hl (j:=5) rfl rfl)
   obtain⟨A6,n6,c6',l6,e6,q6,s6,z6,hq6⟩:=Zcq ShM (bytes:=136) (Q:=fun y=>MeRoom y.1∧MeOk y.1) Tryz.underlying25 (by kernel_rfl) (by kernel_rfl) Zmq h6 (Zar Tryz.underlying27 hl (j:=6) rfl rfl)
   have hp:(l0.length*56≤140737488351232∧∀ y∈l0,y.t.size≤140737488351232)∧tot l0≤Rows.uptoBulk y0.1:=by
    rcases hd0 with⟨rfl,hd⟩ | hd
    ·exact⟨⟨by simp,fun _ h=>by cases h⟩,Nat.zero_le _⟩
    ·rw [hd] at hl0 ⊢
     refine⟨?_,ZjF _ _⟩
     have hw:=ZdX Tryz.underlying22 hl0
     have hb:Tryz.prog.bytesOf 49=56:=by kernel_rfl
     rw [hb,List.length_map] at hw
     refine⟨Nat.le_trans (Nat.mul_le_mul_right _ (Nat.le_add_right _ _)) hw.1,fun y hy=>?_⟩
     have:=hw.2 _ (List.mem_map_of_mem hy) _ (Zi1 y)
     rw [Lib.size_eq]
     exact this
   injection e0 with e0
   injection e1 with e1
   injection e2 with e2
   injection e3 with e3
   injection e4 with e4
   injection e5 with e5
   injection e6 with e6
   subst e0 e1 e2 e3 e4 e5 e6
   refine⟨⟨l0,x3,x1,x2,l4,l5,l6.map (·.1)⟩,_,_,_,_,rfl,⟨s0.shp,s4,s5,l6,rfl,s6⟩,⟨fun y hy=>⟨?_,hp.1.2 y hy⟩,hs1,hs2,hq4,hq5,fun m hm=>?_⟩,⟨hp.1.1,z4,z5,by rw [List.length_map];exact z6,fun m hm=>?_⟩,?_⟩
   ·exact s0.all y hy
   ·obtain⟨y,hy,rfl⟩:=List.mem_map.1 hm
    exact(hq6 y hy).1
   ·obtain⟨y,hy,rfl⟩:=List.mem_map.1 hm
    exact(hq6 y hy).2
   ·refine Nat.le_trans hp.2 ?_
    simp only [List.map_cons,Rows.uptoBulk,Rows.uptoBulkAll]
    omega
end
theorem Zmp {c:Cl} (h:ClRoom c):Texts c.pool:=fun y hy=>(h.pool y hy).2
theorem Zra {w:World} {c:Cl} {vp vi vf vm:Value} (h:ClAt w c vp vi vf vm) (hr:ClRoom c):Good c:=by
 refine⟨(Zmp hr).told fun x hx=>(hr.pool x hx).1,fun m hm=>?_⟩
 obtain⟨es,e,hM⟩:=h.2.2.2
 rw [← e] at hm
 obtain⟨y,hy,rfl⟩:=List.mem_map.1 hm
 exact(hM.low y hy).2.1.fit
end Go.Proofs.YtclamhhgldkhnaaGreatDoor
namespace Go.Proofs.YtclamhhgldkhnaaGreatDoor
open Go.ChangeShapes Go.WideShapes Go.ChangeAt Go.RowKit Go.Lib
set_option linter.unusedVariables false
def mostNums:List Int:=[64,256,256,256]
theorem ZmD:(Rows.laid_unicode_utf8_acceptRanges:DataW Unit)=Lib.acceptData:=by kernel_rfl
theorem Zqi:Rows.laid_unicode_utf8_first=Lib.firstData:=by kernel_rfl
theorem Zst:(Rows.laid_warpbeam_class_most:DataW Unit)=Lib.tabData .i64 mostNums:=by kernel_rfl
def Listed : List (String × DataW Unit) := [("unicode/utf8.acceptRanges", Rows.laid_unicode_utf8_acceptRanges), ("warpbeam/class.most", Rows.laid_warpbeam_class_most), ("unicode/utf8.first", Rows.laid_unicode_utf8_first)]
theorem Listed_eq : Listed = [("unicode/utf8.acceptRanges", Lib.acceptData), ("warpbeam/class.most", Lib.tabData .i64 mostNums), ("unicode/utf8.first", Lib.firstData)] := by
 unfold Listed
 rw [ZmD,Zqi,Zst]
theorem Zhi {P:Program} {W:World} {name:String} {k:IntKind} {zs:List Int} {g:Nat} {t e:TypeId} {n:Nat}
 (hg:P.globalNamed name=some g) (hty:(P.globals[g]?).map (·.type)=some t) (ht:P.underlying t=some (.array n e)) (he:P.underlying e=some (.int k)) (hce:P.cellsOf e=1) (hct:P.cellsOf t=n)
 (h:Lib.VarReads P W name (Lib.tabData k zs)):Lib.TabIs P W name k zs:=by
 obtain⟨g',t',cs,fuel,p,hg',ht',hvar,hd⟩:=h
 obtain rfl:=Option.some.inj (hg.symm.trans hg')
 obtain rfl:=Option.some.inj (hty.symm.trans ht')
 unfold Lib.TabIs
 rw [hvar,← Lib.cells_of_tab ht he hce hct hd]
theorem most_of {W : World} (h : Lib.TabIs Tryz.prog W "warpbeam/class.most" .i64 mostNums) : Most W := by
 unfold Lib.TabIs World.var? at h
 rw [show Tryz.prog.globalNamed "warpbeam/class.most" = some 0 from by kernel_rfl] at h
 simp only [Option.bind_some] at h
 cases hx:W.heap[0]? with
 | none=>simp [hx] at h
 | some o =>
  rw [hx] at h
  cases o with
  | cells cs T z =>
   have h3:cs=#[Value.int .i64 64,.int .i64 256,.int .i64 256,.int .i64 256]:=by
    injection h
   subst h3
   refine⟨Zab hx,fun i hi=>?_⟩
   unfold World.cell?
   simp only [hx]
   match i,hi with
   | 0,_=>rfl
   | 1,_=>rfl
   | 2,_=>rfl
   | 3,_=>rfl
  | _=>simp at h
theorem Zsb {W:World} (hL:laidMetH Tryz.prog Listed W):Tabs W∧Most W:=by
 rw [Listed_eq] at hL
 refine⟨utf8Tabs_of_readsT (U8Types.of196 Tryz.lays196) ⟨by kernel_rfl,by kernel_rfl,by kernel_rfl,by kernel_rfl,by kernel_rfl,by kernel_rfl,by kernel_rfl⟩ (Lib.laidMet.reads hL (.tail _ (.tail _ (.head _)))) (Lib.laidMet.reads hL (.head _)),most_of ?_⟩
 exact Zhi (g:=0) (t:=170) (e:=3) (n:=4) (by kernel_rfl) (by kernel_rfl) Tryz.underlying170 Tryz.underlying3 (by kernel_rfl) (by kernel_rfl) (Lib.laidMet.reads hL (.tail _ (.head _)))
noncomputable def Zes (os:Os):World :=
 let w0:=World.holding Tryz.prog os ⟨#[],#[],[]⟩
 let put (h:Array Obj) (g:Nat) (cs:Array Value):Array Obj:=h.modify g fun
  | .cells _ t frozen=>.cells cs t frozen
  | o=>o
 let h1:=put w0.heap 2 (Lib.firstTab.map fun z=>Value.int .u8 z).toArray
 let h2:=put h1 3 ((List.range 16).flatMap fun i=>[Value.int .u8 (Lib.accLo i),Value.int .u8 (Lib.accHi i)]).toArray
 let h3:=put h2 0 (mostNums.map fun z=>Value.int .i64 z).toArray
 { w0 with heap:=h3 }
theorem Zqh (os:Os) (args:Array Value):laidMet Tryz.prog Listed ((Zes os).forCall (fun _ _=>0) ⟨#[],args,[]⟩).memory:=by
 rw [Listed_eq]
 exact (LaidIn.of_run (l := [("unicode/utf8.acceptRanges", Lib.acceptData), ("warpbeam/class.most", Lib.tabData .i64 mostNums), ("unicode/utf8.first", Lib.firstData)]) [2, 3, 0] 8 (by kernel_rfl) (by kernel_rfl) (by kernel_rfl) (by kernel_rfl)).met
end Go.Proofs.YtclamhhgldkhnaaGreatDoor
