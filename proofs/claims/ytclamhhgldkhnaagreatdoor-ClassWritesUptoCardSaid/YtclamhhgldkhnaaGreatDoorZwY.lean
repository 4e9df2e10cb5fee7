/- Several texts of this proof, one behind the other. -/
import Derived.Test.YtclamhhgldkhnaaGreatDoorZwX
import Derived.Test.YtclamhhgldkhnaaGreatDoorZwL
import Derived.LoopN
import Derived.Test.YtclamhhgldkhnaaGreatDoorZwK
import Derived.Test.YtclamhhgldkhnaaGreatDoorZwH
namespace Go.Proofs.YtclamhhgldkhnaaGreatDoor
open Go.RowKit
set_option linter.unusedVariables false
set_option maxHeartbeats 16000000
def BG (w:World) (g:Nat) (l:List In):Prop:=∃ C:Array Value,w.heap[g]?=some (.cells C 260 (0,0))∧C.size=8192∧∀ j:Nat,j<8192→C[j]?=some (.bool (ZaQ l j))
theorem BG.lt {w:World} {g:Nat} {l:List In} (h:BG w g l):g<w.heap.size:=by
 obtain⟨C,h,-⟩:=h
 exact Zab h
theorem BG.ext {w w':World} {g:Nat} {l:List In} (h:BG w g l) (e:Ext w w'):BG w' g l:=by
 obtain⟨C,h1,h2⟩:=h
 exact⟨C,(e.block g (Zab h1)).trans h1,h2⟩
theorem BG.at {w:World} {g:Nat} {l:List In} (h:BG w g l) {p:Nat} (hp:p<8192):w.cell? ⟨g,p,none⟩=some (.bool (ZaQ l p))∧w.frozen? ⟨g,p,none⟩=false:=by
 obtain⟨C,h1,h2,h3⟩:=h
 refine⟨?_,by simp [World.frozen?,h1]⟩
 rw [cell_of_row w g p C _ (0,0) h1]
 exact h3 p hp
theorem BG.new (w:World):BG (w.alloc (.cells Tryz.zeroCells260 260)) w.heap.size []:=by
 refine⟨_,heap_alloc_new w _,Tryz.zeroCells260_size,fun j hj=>?_⟩
 rw [Zps hj]
 rfl
theorem ZmB (l:List In) (x:In) (t:Int):ZaQ (l++[x]) t=(ZaQ l t || decide (x.a=t)):=by simp [ZaQ]
theorem BG.put {w:World} {g:Nat} {l:List In} (h:BG w g l) {p:Nat} (hp:p<8192) {x:In} (hx:x.a=p):BG (w.setCell ⟨g,p,none⟩ (.bool true)) g (l++[x]):=by
 obtain⟨C,h1,h2,h3⟩:=h
 refine⟨C.setIfInBounds p (.bool true),heap_setCell_same w g p C _ (.bool true) h1,by simpa using h2,fun j hj=>?_⟩
 rw [ZmB,hx]
 by_cases e:p=j
 ·subst e
  rw [Array.getElem?_setIfInBounds_self_of_lt (by omega)]
  simp
 ·rw [Array.getElem?_setIfInBounds_ne e,h3 j hj]
  have:¬ (p:Int)=j:=by omega
  simp [this]
theorem Zn1 {l:List In} {k:Nat} (h:k<l.length):l.take (k+1)=l.take k++[gn l k]:=by
 rw [List.take_succ_eq_append_getElem h,Zs2 h]
def Zc4 (l:List In):Prop:=∀ x∈l,0≤x.a∧x.a<8192
set_option maxRecDepth 100000 in
theorem ZdR (v:Value) (l:List In) (w:World) (h:RowI w v l) (ha:Zc4 l) :
 Calls Tryz.prog 201 #[v] w fun e w'=>∃ g,e=.returned (.func (.func 234) #[] #[.pointer (some ⟨g,0,none⟩)])∧BG w' g l∧w.heap.size≤g∧Ext w w':=by
 have H:=Lh h
 obtain⟨A,c,rfl,hc,hm,-⟩:=h.cut
 unfold maxLen at hm
 obtain⟨n,hn⟩:∃ n,n=l.length:=⟨_,rfl⟩
 rw [← hn] at hc H ⊢
 have Hn:=Lh hn
 have HA:=Lh ha
 clear hn h ha
 go_enter Tryz.func201,Tryz.ntmps201
 go_wp2
 go_loopw [8] (fun i wr=>∃ (k:Nat),i=.int .i64 k∧k≤n∧Hid (BG wr w.heap.size (l.take k))∧Hid (Ext w wr)) (fun i _=>n-(intOf i).toNat)
 case atStart=>exact⟨0,rfl,by omega,Lh (BG.new w),Lh ((Ext.refl w).alloc _)⟩
 case round =>
  obtain⟨k,rfl,hk,HP,HX⟩:=hrel
  by_cases hlt:k<n
  ·have hkl:k<l.length:=by have:=Hn.out;omega
   obtain⟨b,o,rfl,hat⟩:=H.out.at (by omega)
   obtain⟨v1,v2,hat⟩:=hat k hkl
   obtain⟨A1,c1,rfl,-⟩:=(hat _ HX.out).2.1
   obtain⟨A2,c2,rfl,-⟩:=(hat _ HX.out).2.2
   obtain⟨y0,y1,y2,y3,y4,y5⟩:=(hat _ HX.out).1
   have hw:=HA.out _ (Zob hkl)
   have HT:=Lh (Zn1 hkl)
   obtain⟨x,hx⟩:∃ x,gn l k=x:=⟨_,rfl⟩
   rw [hx] at y0 y1 y2 y3 y4 y5 hw HT
   obtain⟨p,hp⟩:∃ p:Nat,x.a=p:=⟨x.a.toNat,by omega⟩
   have hp8:p<8192:=by omega
   obtain⟨m1,m2⟩:=HP.out.at hp8
   have hlg:=HP.out.lt
   have hne:¬ w.heap.size=wr.heap.size:=by omega
   rw [hp] at y0
   have HPX:=Lh hp
   clear hat hx hkl hw hp
   go_wp2_with fail
   go_roundw
   case rel=>exact⟨k+1,by go_num,by omega,Lh (by rw [HT.out];exact(HP.out.put hp8 HPX.out).ext ((Ext.refl _).alloc _)),Lh ((HX.out.set_ (p:=⟨w.heap.size,p,none⟩) (Nat.le_refl _) _).alloc _)⟩
   case measure=>simp [intOf];omega
  ·obtain rfl:k=n:=by omega
   go_wp2
   go_ret
   exact⟨_,rfl,by have:=HP.out;rwa [Hn.out,List.take_length] at this,Nat.le_refl _,HX.out⟩
theorem Zim {l:List In} (ha:Zc4 l) {t:Int} (h:¬ (0≤t∧t<8192)):ZaQ l t=false:=by
 rw [Bool.eq_false_iff]
 intro e
 obtain⟨x,hx,rfl⟩:=hasAt_iff.1 e
 exact h (ha x hx)
set_option maxRecDepth 100000 in
theorem Zg2 (t:Int) (g:Nat) (l:List In) (w:World) (h:BG w g l) (ha:Zc4 l) :
 Calls Tryz.prog 234 #[.int .i64 t,.pointer (some ⟨g,0,none⟩)] w fun e w'=>e=.returned (.bool (ZaQ l t))∧w=w':=by
 by_cases h0:0≤t
 ·by_cases h1:t<8192
  ·obtain⟨p,rfl⟩:∃ p:Nat,t=p:=⟨t.toNat,by omega⟩
   obtain⟨m1,m2⟩:=h.at (p:=p) (by omega)
   obtain⟨r,hr⟩:∃ r,ZaQ l p=r:=⟨_,rfl⟩
   rw [hr] at m1 ⊢
   clear hr h ha
   go_enter Tryz.func234,Tryz.ntmps234
   go_wp2
   go_ret
   exact⟨rfl,rfl⟩
  ·rw [Zim ha (by omega)]
   clear h ha
   go_enter Tryz.func234,Tryz.ntmps234
   go_wp2
   go_ret
   exact⟨rfl,rfl⟩
 ·rw [Zim ha (by omega)]
  clear h ha
  go_enter Tryz.func234,Tryz.ntmps234
  go_wp2
  go_ret
  exact⟨rfl,rfl⟩
theorem Zcy {a b:Int × Bool} (h:a=b):Ending.returned (.tuple #[.int .i64 a.1,.bool a.2])=.returned (.tuple #[.int .i64 b.1,.bool b.2]):=by rw [h]
set_option maxRecDepth 100000 in
theorem ZiT (v:Value) (l:List In) (t:Int) (w:World) (h:RowI w v l) :
 Calls Tryz.prog 209 #[v,.int .i64 t] w fun e w'=>e=.returned (.tuple #[.int .i64 (ZiA l t).1,.bool (ZiA l t).2])∧Ext w w':=by
 have H:=Lh h
 obtain⟨A,c,rfl,hc,hm,-⟩:=h.cut
 unfold maxLen at hm
 obtain⟨n,hn⟩:∃ n,n=l.length:=⟨_,rfl⟩
 rw [← hn] at hc H ⊢
 have Hn:=Lh hn
 clear hn h
 go_enter Tryz.func209,Tryz.ntmps209
 go_wp2
 go_loopw [6] (fun i wr=>∃ (k:Nat),i=.int .i64 k∧k≤n∧Hid (ZiA l t=ZdT t (l.drop k) k)∧Hid (Ext w wr)) (fun i _=>n-(intOf i).toNat)
 case atStart=>exact⟨0,rfl,by omega,Lh rfl,Lh (Ext.refl w)⟩
 case round =>
  obtain⟨k,rfl,hk,HP,HX⟩:=hrel
  by_cases hlt:k<n
  ·have hkl:k<l.length:=by have:=Hn.out;omega
   obtain⟨b,o,rfl,hat⟩:=H.out.at (by omega)
   obtain⟨v1,v2,hat⟩:=hat k hkl
   have y0:=(hat _ HX.out).1.1
   obtain⟨a,ha⟩:∃ a,(gn l k).a=a:=⟨_,rfl⟩
   rw [ha] at y0
   by_cases he:a=t
   ·have HE:=Lh (HP.out.trans (Zj0 hkl (ha.trans he)))
    have hb:(a==t)=true:=by simpa using he
    clear he hat ha hkl
    go_wp2
    go_ret2
    exact⟨Zcy HE.out.symm,HX.out⟩
   ·have HE:=Lh (HP.out.trans (ZjJ hkl (fun e=>he (ha.symm.trans e))))
    have hb:(a==t)=false:=by simpa using he
    clear he hat ha hkl
    go_wp2_with fail
    go_roundw
    case rel=>exact⟨k+1,by go_num,by omega,HE,HX⟩
    case measure=>simp [intOf];omega
  ·have HE:=Lh (show ZiA l t=(0,false) by rw [HP.out,List.drop_of_length_le (by have:=Hn.out;omega)];rfl)
   go_wp2
   go_ret2
   exact⟨Zcy HE.out.symm,HX.out⟩
set_option maxRecDepth 100000 in
theorem ZeE (v:Value) (l:List In) (t:Int) (w:World) (h:RowI w v l) :
 Calls Tryz.prog 173 #[v,.int .i64 t] w fun e w'=>e=.returned (.bool (ZaQ l t))∧Ext w w':=by
 have HP:=Lh (ZiT v l t w h)
 rw [show (ZiA l t).2=ZaQ l t from Zlt] at HP
 obtain⟨A,c,rfl,-⟩:=h.cut
 clear h
 go_enter Tryz.func173,Tryz.ntmps173
 go_wp2_with fail
 refine HP.out.mono ?_
 rintro e w1 ⟨rfl,x1⟩
 go_wp2
 go_ret
 exact⟨rfl,x1⟩
set_option maxRecDepth 100000 in
theorem ZjA (v:Value) (l:List In) (w:World) (h:RowI w v l) :
 Calls Tryz.prog 170 #[v] w fun e w'=>e=.returned (.tuple #[.int .i64 (Zaj (good l) l).1,.bool (Zaj (good l) l).2])∧Ext w w':=by
 have H:=Lh h
 obtain⟨A,c,rfl,hc,hm,-⟩:=h.cut
 unfold maxLen at hm
 obtain⟨n,hn⟩:∃ n,n=l.length:=⟨_,rfl⟩
 rw [← hn] at hc H ⊢
 have Hn:=Lh hn
 obtain⟨F,hF⟩:∃ F,Zaj (good l) l=F:=⟨_,rfl⟩
 have HF:=Lh hF
 rw [hF]
 clear hn h hF
 go_enter Tryz.func170,Tryz.ntmps170
 go_wp2
 go_loopw [4] (fun i wr=>∃ (k:Nat),i=.int .i64 k∧k≤n∧Hid (F=Zaj (good l) (l.drop k))∧Hid (Ext w wr)) (fun i _=>n-(intOf i).toNat)
 case atStart=>exact⟨0,rfl,by omega,Lh HF.out.symm,Lh (Ext.refl w)⟩
 case round =>
  obtain⟨k,rfl,hk,HP,HX⟩:=hrel
  by_cases hlt:k<n
  ·have hkl:k<l.length:=by have:=Hn.out;omega
   obtain⟨b,o,rfl,hat⟩:=H.out.at (by omega)
   obtain⟨v1,v2,hat⟩:=hat k hkl
   obtain⟨A1,c1,rfl,hc1,hm1,ha1,-⟩:=(hat _ (Ext.refl w)).2.1
   unfold maxLen at hm1
   have HA:=Lh hat
   obtain⟨x,hx⟩:∃ x,gn l k=x:=⟨_,rfl⟩
   have Hx:=Lh (show l.getD k i0=x from hx)
   rw [hx] at HA hc1
   have HK:=Lh hkl
   obtain⟨m,hmm⟩:∃ m,m=x.to.length:=⟨_,rfl⟩
   rw [← hmm] at HA hc1
   have Hm:=Lh hmm
   clear hat hx hkl hmm ha1
   go_wp2_with fail
   go_loopw [5] (fun i ws=>∃ (j:Nat),i=.int .i64 j∧j≤m∧Hid ((x.to.take j).all (ZaQ l)=true)∧Hid (Ext w ws)) (fun i _=>m-(intOf i).toNat)
   case atStart=>exact⟨0,rfl,by omega,Lh rfl,HX⟩
   case round =>
    obtain⟨j,rfl,hj,HQ,HY⟩:=hrel
    obtain⟨y0,-,-,-,y4,-⟩:=(HA.out _ HY.out).1
    by_cases hjm:j<m
    ·obtain⟨A2,c2,hq,-,-,-,-,hg2⟩:=(HA.out _ HY.out).2.1
     injection hq with hq1 hq2 hq3
     subst hq1
     clear hq2 hq3
     obtain⟨b1,o1,rfl,hb1,hx1⟩:=hg2 (by have:=Hm.out;omega)
     have z0:=hx1 j (by have:=Hm.out;omega)
     clear hx1 hg2
     have HB:=Lh (ZeE (.slice (some ⟨b,o,none⟩) n c) l (gi x.to j) wr (H.out.ext HY.out))
     by_cases he:ZaQ l (gi x.to j)=true
     ·rw [he] at HB
      have HE:=Lh (Zlj (by have:=Hm.out;omega) HQ.out he)
      clear he
      go_wp2_with fail
      refine HB.out.mono ?_
      rintro e w1 ⟨rfl,x1⟩
      go_wp2_with fail
      go_roundw
      case rel=>exact⟨j+1,by go_num,by omega,HE,Lh (HY.out.trans x1)⟩
      case measure=>simp [intOf];omega
     ·have he:ZaQ l (gi x.to j)=false:=by simpa using he
      rw [he] at HB
      have HE:=Lh (HP.out.trans (Zc2 HK.out (by rw [Hx.out];exact Zq5 (by have:=Hm.out;omega) he)))
      rw [Hx.out] at HE
      clear he
      go_wp2_with fail
      refine HB.out.mono ?_
      rintro e w1 ⟨rfl,x1⟩
      have y0:=(HA.out _ (HY.out.trans x1)).1.1
      go_wp2
      go_ret2
      exact⟨Zcy HE.out.symm,HY.out.trans x1⟩
    ·obtain rfl:j=m:=by omega
     have HE:=Lh (HP.out.trans (ZcR HK.out (by rw [Hx.out];have:=HQ.out;rw [Hm.out,List.take_length] at this;exact this)))
     go_wp2_with fail
     go_roundw
     case rel=>exact⟨k+1,by go_num,by omega,HE,HY⟩
     case measure=>simp [intOf];omega
  ·have HE:=Lh (show F=(0,false) by rw [HP.out,List.drop_of_length_le (by have:=Hn.out;omega)];rfl)
   go_wp2
   go_ret2
   exact⟨Zcy HE.out.symm,HX.out⟩
def idxP {α:Type} (p:α→Bool):List α→Nat→Int
 | [],_=>-1
 | x :: l,i=>if p x=true then (i:Int) else idxP p l (i+1)
theorem Zcu {α:Type} {p:α→Bool} {l:List α} {k:Nat} {x:α} (h:l[k]?=some x) (hp:p x=false):idxP p (l.drop k) k=idxP p (l.drop (k+1)) (k+1):=by
 obtain⟨hk,rfl⟩:=List.getElem?_eq_some_iff.1 h
 rw [List.drop_eq_getElem_cons hk,idxP,if_neg (by simp [hp])]
theorem ZcC {α:Type} {p:α→Bool} {l:List α} {k:Nat} {x:α} (h:l[k]?=some x) (hp:p x=true):idxP p (l.drop k) k=k:=by
 obtain⟨hk,rfl⟩:=List.getElem?_eq_some_iff.1 h
 rw [List.drop_eq_getElem_cons hk,idxP,if_pos hp]
theorem ZdE {α:Type} {p:α→Bool}:∀ {l:List α} {k:Nat},decide (0≤idxP p l k)=l.any p:=by
 intro l
 induction l with
 | nil=>intro k;rfl
 | cons x l ih =>
  intro k
  unfold idxP
  rw [List.any_cons]
  split
  ·rename_i h
   rw [h]
   simp
  ·rename_i h
   rw [ih]
   simp [h]
theorem ZqK {l:List Int} {k:Nat} (h:k<l.length):l[k]?=some (gi l k):=by simp [gi,h]
def FB (w:World) (f g:Nat):Prop:=w.heap[f]?=some (.cells #[.func (.func 234) #[] #[.pointer (some ⟨g,0,none⟩)]] 206 (0,0))
theorem FB.ext {w w':World} {f g:Nat} (h:FB w f g) (e:Ext w w'):FB w' f g:=(e.block f (Zab h)).trans h
theorem FB.cell {w:World} {f g:Nat} (h:FB w f g):w.cell? ⟨f,0,none⟩=some (.func (.func 234) #[] #[.pointer (some ⟨g,0,none⟩)]):=by
 rw [cell_of_row w f 0 _ _ (0,0) h]
 rfl
set_option maxRecDepth 100000 in
theorem ZrN (t:Int) (f g:Nat) (l:List In) (w:World) (hf:FB w f g) (h:BG w g l) (ha:Zc4 l) :
 Calls Tryz.prog 232 #[.int .i64 t,.pointer (some ⟨f,0,none⟩)] w fun e w'=>e=.returned (.bool (!ZaQ l t))∧w=w':=by
 have c0:=hf.cell
 have HB:=Lh (Zg2 t g l w h ha)
 clear hf h ha
 go_enter Tryz.func232,Tryz.ntmps232
 go_wp2_with fail
 refine HB.out.mono ?_
 rintro e w1 ⟨rfl,rfl⟩
 go_wp2
 go_ret
 exact⟨rfl,rfl⟩
set_option maxRecDepth 100000 in
theorem Zhs (v:Value) (s:List Int) (f g:Nat) (l:List In) (w:World) (h:Row w .i64 v s) (hf:FB w f g) (hg:BG w g l) (ha:Zc4 l) :
 Calls Tryz.prog 254 #[v,.func (.func 232) #[] #[.pointer (some ⟨f,0,none⟩)]] w fun e w'=>e=.returned (.int .i64 (idxP (fun t=>!ZaQ l t) s 0))∧w=w':=by
 have H:=Lh h
 obtain⟨A,c,rfl,hc,hm,-,-,hcell⟩:=h
 unfold maxLen at hm
 obtain⟨n,hn⟩:∃ n,n=s.length:=⟨_,rfl⟩
 rw [← hn] at hc H hcell ⊢
 have Hn:=Lh hn
 have HB:=Lh (fun t=>ZrN t f g l w hf hg ha)
 obtain⟨R,hR⟩:∃ R,idxP (fun t=>!ZaQ l t) s 0=R:=⟨_,rfl⟩
 have HR:=Lh hR
 rw [hR]
 clear hn hf hg ha hR
 go_enter Tryz.func254,Tryz.ntmps254
 go_wp2
 go_loopw [8] (fun i wr=>∃ (k:Nat),i=.int .i64 k∧k≤n∧Hid (R=idxP (fun t=>!ZaQ l t) (s.drop k) k)∧w=wr) (fun i _=>n-(intOf i).toNat)
 case atStart=>exact⟨0,rfl,by omega,Lh HR.out.symm,rfl⟩
 case round =>
  obtain⟨k,rfl,hk,HP,rfl⟩:=hrel
  by_cases hlt:k<n
  ·obtain⟨b,o,rfl,hb,hx⟩:=hcell (by omega)
   have y0:=hx k hlt
   have hget:=ZqK (l:=s) (k:=k) (by have:=Hn.out;omega)
   obtain⟨t,ht⟩:∃ t,gi s k=t:=⟨_,rfl⟩
   rw [ht] at y0 hget
   have hbt:=HB.out t
   by_cases he:ZaQ l t=true
   ·rw [he,Bool.not_true] at hbt
    have HT:=Lh hbt
    have HE:=Lh (HP.out.trans (Zcu hget (by simp [he])))
    clear hx hcell ht hget he hbt
    go_wp2_with fail
    refine HT.out.mono ?_
    rintro e w1 ⟨rfl,rfl⟩
    go_wp2_with fail
    go_roundw
    case rel=>exact⟨k+1,by go_num,by omega,HE,trivial⟩
    case measure=>simp [intOf];omega
   ·have he:ZaQ l t=false:=by simpa using he
    rw [he,Bool.not_false] at hbt
    have HT:=Lh hbt
    have HE:=Lh (HP.out.trans (ZcC hget (by simp [he])))
    clear hx hcell ht hget he hbt
    go_wp2_with fail
    refine HT.out.mono ?_
    rintro e w1 ⟨rfl,rfl⟩
    go_wp2
    go_ret
    exact⟨by rw [HE.out];rfl,rfl⟩
  ·have HE:=Lh (show R=-1 by rw [HP.out,List.drop_of_length_le (by have:=Hn.out;omega)];rfl)
   go_wp2
   go_ret
   exact⟨by rw [HE.out];rfl,rfl⟩
set_option maxRecDepth 100000 in
theorem Zfi (v:Value) (s:List Int) (f g:Nat) (l:List In) (w:World) (h:Row w .i64 v s) (hf:FB w f g) (hg:BG w g l) (ha:Zc4 l) :
 Calls Tryz.prog 231 #[v,.func (.func 232) #[] #[.pointer (some ⟨f,0,none⟩)]] w fun e w'=>e=.returned (.bool (s.any fun t=>!ZaQ l t))∧w=w':=by
 have HI:=Lh (Zhs v s f g l w h hf hg ha)
 rw [← ZdE (p:=fun t=>!ZaQ l t) (l:=s) (k:=0)]
 obtain⟨A,c,rfl,-⟩:=h
 obtain⟨R,hR⟩:∃ R,idxP (fun t=>!ZaQ l t) s 0=R:=⟨_,rfl⟩
 rw [hR] at HI ⊢
 clear hf hg ha hR
 go_enter Tryz.func231,Tryz.ntmps231
 go_wp2_with fail
 refine HI.out.mono ?_
 rintro e w1 ⟨rfl,rfl⟩
 go_wp2
 go_ret
 exact⟨rfl,rfl⟩
theorem Zso {s:List Int} {p:Int→Bool}:(!s.any fun t=>!p t)=s.all p:=by
 induction s with
 | nil=>rfl
 | cons x s ih=>rw [List.any_cons,List.all_cons,← ih];cases p x <;> simp
set_option maxRecDepth 100000 in
theorem ZjU (x:In) (v1 v2:Value) (f g:Nat) (l:List In) (w:World) (h1:Row w .i64 v1 x.to) (h2:Row w .i64 v2 x.ks) (hf:FB w f g) (hg:BG w g l) (ha:Zc4 l) :
 Calls Tryz.prog 230 #[.agg (x.vals v1 v2),.pointer (some ⟨f,0,none⟩)] w fun e w'=>e=.returned (.bool (good l x))∧Ext w w':=by
 obtain⟨A1,k1,rfl,-⟩:=id h1
 obtain⟨A2,k2,rfl,-⟩:=id h2
 have HI:=Lh (fun W (e:Ext w W)=>Zfi _ x.to f g l W (h1.ext e) (hf.ext e) (hg.ext e) ha)
 obtain⟨d0,d1,d2,d3,d4,d5⟩:=Zd0 (w:=w) (x:=x) (v1:=.slice A1 x.to.length k1) (v2:=.slice A2 x.ks.length k2) (Ext.refl _)
 unfold In.vals at d0 d1 d2 d3 d4 d5 ⊢
 unfold good
 rw [← Zso]
 obtain⟨r,hr⟩:∃ r,(x.to.any fun t=>!ZaQ l t)=r:=⟨_,rfl⟩
 rw [hr] at HI ⊢
 clear hr h1 h2 hf hg ha
 go_enter Tryz.func230,Tryz.ntmps230
 go_wp2_with fail
 refine(HI.out _ ((Ext.refl w).alloc _)).mono ?_
 rintro e w1 ⟨rfl,rfl⟩
 go_wp2
 go_ret
 exact⟨rfl,(Ext.refl w).alloc _⟩
set_option maxRecDepth 100000 in
theorem Ze6 (fid:FuncId) (caps:Array Value) (p:In→Bool) (v:Value) (l:List In) (w:World) (h:RowI w v l)
 (hc:∀ args W,(callFunc fid args).run Tryz.prog W=.ok (.enter fid args) W)
 (hp:∀ W,Ext w W→∀ x∈l,∀ v1 v2,Row W .i64 v1 x.to→Row W .i64 v2 x.ks→Calls Tryz.prog fid (#[.agg (x.vals v1 v2)]++caps) W fun e w'=>e=.returned (.bool (p x))∧Ext W w') :
 Calls Tryz.prog 197 #[v,.func (.func fid) #[] caps] w fun e w'=>e=.returned (.tuple #[.int .i64 (Zaj p l).1,.bool (Zaj p l).2])∧Ext w w':=by
 have H:=Lh h
 obtain⟨A,c,rfl,hc0,hm,-⟩:=h.cut
 unfold maxLen at hm
 obtain⟨n,hn⟩:∃ n,n=l.length:=⟨_,rfl⟩
 rw [← hn] at hc0 H ⊢
 have Hn:=Lh hn
 have HP:=Lh hp
 obtain⟨F,hF⟩:∃ F,Zaj p l=F:=⟨_,rfl⟩
 have HF:=Lh hF
 rw [hF]
 clear hn h hp hF
 go_enter Tryz.func197,Tryz.ntmps197
 go_wp2
 go_loopw [10] (fun i wr=>∃ (k:Nat),i=.int .i64 k∧k≤n∧Hid (F=Zaj p (l.drop k))∧Hid (Ext w wr)) (fun i _=>n-(intOf i).toNat)
 case atStart=>exact⟨0,rfl,by omega,Lh HF.out.symm,Lh (Ext.refl w)⟩
 case round =>
  obtain⟨k,rfl,hk,HQ,HX⟩:=hrel
  by_cases hlt:k<n
  ·have hkl:k<l.length:=by have:=Hn.out;omega
   obtain⟨b,o,rfl,hat⟩:=H.out.at (by omega)
   obtain⟨v1,v2,hat⟩:=hat k hkl
   have hr1:=(hat _ HX.out).2.1
   have hr2:=(hat _ HX.out).2.2
   obtain⟨A1,c1,rfl,-⟩:=id hr1
   obtain⟨A2,c2,rfl,-⟩:=id hr2
   obtain⟨y0,y1,y2,y3,y4,y5⟩:=(hat _ HX.out).1
   have HC:=Lh (fun W (e:Ext wr W)=>HP.out W (HX.out.trans e) _ (Zob hkl) _ _ (hr1.ext e) (hr2.ext e))
   have hN:p (gn l k)=true→F=Zaj p (l.drop (k+1)):=fun e=>HQ.out.trans (ZcR hkl e)
   have hH:p (gn l k)=false→F=((gn l k).a,true):=fun e=>HQ.out.trans (Zc2 hkl e)
   obtain⟨x,hx⟩:∃ x,gn l k=x:=⟨_,rfl⟩
   rw [hx] at y0 y1 y2 y3 y4 y5 HC hN hH
   have HB:=Lh (fun W e=>Zd0 (w:=wr) (W:=W) (x:=x) (v1:=.slice A1 x.to.length c1) (v2:=.slice A2 x.ks.length c2) e)
   obtain⟨d0,d1,d2,d3,d4,d5⟩:=HB.out _ (Ext.refl _)
   unfold In.vals at HC HB d0 d1 d2 d3 d4 d5
   obtain⟨r,hr⟩:∃ r,p x=r:=⟨_,rfl⟩
   rw [hr] at HC hN hH
   have HN:=Lh hN
   have HH:=Lh hH
   clear hat hx hkl hr hr1 hr2 hN hH
   go_wp2_with fail
   refine(HC.out _ ((Ext.refl wr).alloc _)).mono ?_
   rintro e w1 ⟨rfl,x1⟩
   have X1:=Lh x1
   clear d0 d1 d2 d3 d4 d5 x1
   obtain⟨d0,d1,d2,d3,d4,d5⟩:=HB.out _ X1.out
   cases r
   ·have HE:=Lh (HH.out rfl)
    go_wp2
    go_ret2
    exact⟨Zcy HE.out.symm,(HX.out.alloc _).trans X1.out⟩
   ·have HE:=Lh (HN.out rfl)
    go_wp2_with fail
    go_roundw
    case rel=>exact⟨k+1,by go_num,by omega,HE,Lh ((HX.out.alloc _).trans X1.out)⟩
    case measure=>simp [intOf];omega
  ·have HE:=Lh (show F=(0,false) by rw [HQ.out,List.drop_of_length_le (by have:=Hn.out;omega)];rfl)
   go_wp2
   go_ret2
   exact⟨Zcy HE.out.symm,HX.out⟩
def DR (w:World) (g:Nat) (v:Value) (b:List Int) (q:List Int × Bool):Prop:=∃ a:Nat,NR w g v a q.2∧a≤b.length∧b.drop a=q.1
theorem DR.lt {w:World} {g:Nat} {v:Value} {b:List Int} {q:List Int × Bool} (h:DR w g v b q):g<w.heap.size:=by obtain⟨a,h,-⟩:=h;exact h.lt
theorem DR.ext {w w':World} {g:Nat} {v:Value} {b:List Int} {q:List Int × Bool} (h:DR w g v b q) (e:Ext w w'):DR w' g v b q:=by obtain⟨a,h,r⟩:=h;exact⟨a,h.ext e,r⟩
theorem DR.same {w w':World} {g:Nat} {v:Value} {b:List Int} {q:List Int × Bool} (h:DR w g v b q) (e:w'.heap[g]?=w.heap[g]?):DR w' g v b q:=by obtain⟨a,h,r⟩:=h;exact⟨a,e.trans h,r⟩
theorem DR.blk {w:World} {g:Nat} {v:Value} {b:List Int} {q:List Int × Bool} (h:DR w g v b q):∃ c,w.heap[g]?=some (.cells c 235 (0,0)):=by obtain⟨a,h,-⟩:=h;exact⟨_,h⟩
def DRet (w:World) (g:Nat) (v:Value) (b:List Int) (r:Int × List Int × Bool) (e:Ending) (w':World):Prop:=e=.returned (.int .i64 r.1)∧DR w' g v b r.2∧w.grownBy w' (some g)
theorem ZoG {w:World} {g:Nat} {v:Value} {a s:Nat} {sh:Bool} (h:NR w g v ((a:Int)+s) sh):NR w g v ((a+s:Nat):Int) sh:=by rwa [Int.natCast_add]
theorem Za2 (w0 w:World) (g:Nat) (b:List Int) (v:Value) (q:List Int × Bool) (s:Nat) (sg:Bool) (hs:Siz s sg) (h:DR w g v b q) (hr:Row w0 .u8 v b) (hb:b.length≤140737488355328) (hx:Ext w0 w) (hg:w0.heap.size≤g) :
 Calls Tryz.prog 207 #[.pointer (some ⟨g,0,none⟩),.int .i64 s,.bool sg] w (DRet w g v b (rdN false s sg q)):=by
 obtain⟨a,hn,hab,hd⟩:=h
 obtain⟨l,sh⟩:=q
 simp only at hn hd ⊢
 subst hd
 by_cases hshort:b.length<a+s
 ·have hl:(b.drop a).length<s:=by rw [List.length_drop];omega
  rw [Zax _ hl]
  refine(Zhy w0 w g b v a sh sg s hn hr hx (by have:=hs.le;omega) (by omega) hshort).mono ?_
  rintro e w' ⟨rfl,h1,h2⟩
  exact⟨rfl,⟨a,h1,hab,rfl⟩,h2⟩
 ·have hB:=Za9 hr
  have hb8:∀ j,j<b.length→B8 (gi b j):=fun j hj=>hB _ (Zbb hj)
  have e:rdN false s sg (b.drop a,sh)=(pk s sg (b.drop a),(b.drop a).drop s,sh):=by
   unfold rdN
   rw [if_neg (by simp;omega)]
  rw [e]
  have hle:=hs.le
  have key:∀ (x:Int) (e:Ending) (w':World),x=pk s sg (b.drop a)→NRet w g v x ((a:Int)+s) sh e w'→DRet w g v b (pk s sg (b.drop a),(b.drop a).drop s,sh) e w':=by
   rintro x e w' rfl ⟨rfl,h1,h2⟩
   exact⟨rfl,⟨a+s,ZoG h1,by omega,by rw [List.drop_drop]⟩,h2⟩
  rcases hs with⟨rfl,rfl⟩ | ⟨rfl,rfl⟩ | ⟨rfl,rfl⟩ | ⟨rfl,rfl⟩ | ⟨rfl,rfl⟩
  ·exact(ZlR w0 w g b v a sh (gi b a) hn hr hx hg (by omega) rfl (hb8 a (by omega))).mono fun e w' h=>key _ e w' (by rw [Zca (by omega)];rfl) h
  ·exact(ZlU w0 w g b v a sh (gi b a) hn hr hx hg (by omega) rfl (hb8 a (by omega))).mono fun e w' h=>key _ e w' (by rw [Zca (by omega)];rfl) h
  ·exact(ZlW w0 w g b v a sh (gi b a) (gi b (a+1)) hn hr hx hg (by omega) rfl (hb8 a (by omega)) rfl (hb8 _ (by omega))).mono fun e w' h=>key _ e w' (by rw [Zca (by omega),Zca (by omega)];rfl) h
  ·exact(Zly w0 w g b v a sh (gi b a) (gi b (a+1)) hn hr hx hg (by omega) rfl (hb8 a (by omega)) rfl (hb8 _ (by omega))).mono fun e w' h=>key _ e w' (by rw [Zca (by omega),Zca (by omega)];rfl) h
  ·exact(Zl8 w0 w g b v a sh (gi b a) (gi b (a+1)) (gi b (a+2)) (gi b (a+3)) hn hr hx hg (by omega) rfl (hb8 a (by omega)) rfl (hb8 _ (by omega)) rfl (hb8 _ (by omega)) rfl (hb8 _ (by omega))).mono fun e w' h=>key _ e w' (by rw [Zca (by omega),Zca (by omega),Zca (by omega),Zca (by omega)];rfl) h
structure DS (w0 w:World) (h g c0:Nat) (x:In) (v1 v2 v:Value) (b:List Int) (q:List Int × Bool):Prop where
 xb:XP w h x v1 v2
 o1:Own w0.heap.size w 3 .i64 v1 x.to
 o2:Own w0.heap.size w 3 .i64 v2 x.ks
 ne:∀ b,v1.ownBlock=some b→v2.ownBlock≠some b
 dr:DR w g v b q
 ext:Ext w0 w
 hg:w0.heap.size≤g
 hh:w0.heap.size≤h
 rc:XP w c0 i0 (.slice none 0 0) (.slice none 0 0)
 hc:c0≠h
 hcc:w0.heap.size≤c0
section
variable {w0 w w' : World} {h g c0 : Nat} {x : In} {v1 v2 v : Value} {b : List Int} {q : List Int × Bool}
theorem DS.hg_ne (H:DS w0 w h g c0 x v1 v2 v b q):h≠g:=by obtain⟨c,hb⟩:=H.dr.blk;exact Zcx H.xb hb (by decide)
theorem DS.cg_ne (H:DS w0 w h g c0 x v1 v2 v b q):c0≠g:=by obtain⟨c,hb⟩:=H.dr.blk;exact Zcx H.rc hb (by decide)
theorem DS.g1 (H:DS w0 w h g c0 x v1 v2 v b q):v1.ownBlock≠some g:=by obtain⟨c,hb⟩:=H.dr.blk;exact Zau H.o1 hb (by decide)
theorem DS.g2 (H:DS w0 w h g c0 x v1 v2 v b q):v2.ownBlock≠some g:=by obtain⟨c,hb⟩:=H.dr.blk;exact Zau H.o2 hb (by decide)
theorem DS.le (H:DS w0 w h g c0 x v1 v2 v b q):w0.heap.size≤w.heap.size:=H.ext.size
theorem DS.later (H:DS w0 w h g c0 x v1 v2 v b q) (e:Ext w w'):DS w0 w' h g c0 x v1 v2 v b q :=
 ⟨(e.block h (Zab H.xb)).trans H.xb,H.o1.ext e,H.o2.ext e,H.ne,H.dr.ext e,H.ext.trans e,H.hg,H.hh,(e.block c0 (Zab H.rc)).trans H.rc,H.hc,H.hcc⟩
theorem DS.drew (H:DS w0 w h g c0 x v1 v2 v b q):DS w0 w.drew h g c0 x v1 v2 v b q:=H.later (Ext.refl w).drew
theorem DS.alloc (H:DS w0 w h g c0 x v1 v2 v b q) (o:Obj):DS w0 (w.alloc o) h g c0 x v1 v2 v b q:=H.later ((Ext.refl w).alloc o)
theorem DS.read (H:DS w0 w h g c0 x v1 v2 v b q) {rr:Int × List Int × Bool} {e:Ending} (hp:DRet w g v b rr e w'):e=.returned (.int .i64 rr.1)∧DS w0 w' h g c0 x v1 v2 v b rr.2:=by
 obtain⟨rfl,hp,hgr⟩:=hp
 have hs:Ext w0 w':=H.ext.grown hgr (fun g' hg'=>by injection hg' with e;subst e;exact H.hg)
 exact⟨rfl,(hgr.block h (Zab H.xb) (fun e=>H.hg_ne (by injection e))).trans H.xb,H.o1.kept hgr (fun b hb e=>H.g1 (hb.trans e.symm)),H.o2.kept hgr (fun b hb e=>H.g2 (hb.trans e.symm)),H.ne,hp,hs,H.hg,H.hh,(hgr.block c0 (Zab H.rc) (fun e=>H.cg_ne (by injection e))).trans H.rc,H.hc,H.hcc⟩
theorem DS.app1 (H:DS w0 w h g c0 x v1 v2 v b q) {u:Value} {l:List Int} (ho:Own w0.heap.size w' 3 .i64 u l) (hgr:w.grownBy w' v1.ownBlock) (hb:u.ownBlock=v1.ownBlock∨u.ownBlock=some w.heap.size) :
 DS w0 (w'.setCell ⟨h,4,none⟩ u) h g c0 ⟨x.a,x.o,x.n,x.m,l,x.ks⟩ u v2 v b q∧w'.cell? ⟨h,4,none⟩=some v1∧w'.frozen? ⟨h,4,none⟩=false:=by
 have n1:v1.ownBlock≠some h:=Zau H.o1 H.xb (by decide)
 have n4:v1.ownBlock≠some c0:=Zau H.o1 H.rc (by decide)
 have rc':=(hgr.block c0 (Zab H.rc) (fun e=>n4 e.symm)).trans H.rc
 have xb':XP w' h x v1 v2:=(hgr.block h (Zab H.xb) (fun e=>n1 e.symm)).trans H.xb
 have dr':=H.dr.same (hgr.block g H.dr.lt (fun e=>H.g1 e.symm))
 have o2':Own w0.heap.size w' 3 .i64 v2 x.ks:=H.o2.kept hgr (fun b hb e=>H.ne b e hb)
 have e':Ext w0 w':=H.ext.grown hgr H.o1.low
 have hset:∀ i,i≠h→(w'.setCell ⟨h,4,none⟩ u).heap[i]?=w'.heap[i]?:=fun i hi=>Below.heap_setCell w' ⟨h,4,none⟩ u i hi
 have hgrow:w'.grownBy (w'.setCell ⟨h,4,none⟩ u) (some h):=Zaa (World.grownBy.refl w' _) 4 u
 refine⟨⟨xb'.set4 l u,ho.kept hgrow ?_,o2'.kept hgrow ?_,?_,dr'.same (hset g (fun e=>H.hg_ne e.symm)),e'.set_ H.hh u,H.hg,H.hh,(hset c0 H.hc).trans rc',H.hc,H.hcc⟩,xb'.cells.2.2.2.2.1,xb'.free 4⟩
 ·intro b hb e
  injection e with e
  subst e
  exact Zau ho xb' (by decide) hb
 ·intro b hb e
  injection e with e
  subst e
  exact Zau o2' xb' (by decide) hb
 ·intro b hu hv
  rcases hb with hb | hb
  ·exact H.ne b (hb ▸ hu) hv
  ·rw [hb] at hu
   injection hu with hu
   subst hu
   have:=H.o2.high _ hv
   omega
theorem DS.app2 (H:DS w0 w h g c0 x v1 v2 v b q) {u:Value} {l:List Int} (ho:Own w0.heap.size w' 3 .i64 u l) (hgr:w.grownBy w' v2.ownBlock) (hb:u.ownBlock=v2.ownBlock∨u.ownBlock=some w.heap.size) :
 DS w0 (w'.setCell ⟨h,5,none⟩ u) h g c0 ⟨x.a,x.o,x.n,x.m,x.to,l⟩ v1 u v b q∧w'.cell? ⟨h,5,none⟩=some v2∧w'.frozen? ⟨h,5,none⟩=false:=by
 have n1:v2.ownBlock≠some h:=Zau H.o2 H.xb (by decide)
 have n4:v2.ownBlock≠some c0:=Zau H.o2 H.rc (by decide)
 have rc':=(hgr.block c0 (Zab H.rc) (fun e=>n4 e.symm)).trans H.rc
 have xb':XP w' h x v1 v2:=(hgr.block h (Zab H.xb) (fun e=>n1 e.symm)).trans H.xb
 have dr':=H.dr.same (hgr.block g H.dr.lt (fun e=>H.g2 e.symm))
 have o1':Own w0.heap.size w' 3 .i64 v1 x.to:=H.o1.kept hgr (fun b hb e=>H.ne b hb e)
 have e':Ext w0 w':=H.ext.grown hgr H.o2.low
 have hset:∀ i,i≠h→(w'.setCell ⟨h,5,none⟩ u).heap[i]?=w'.heap[i]?:=fun i hi=>Below.heap_setCell w' ⟨h,5,none⟩ u i hi
 have hgrow:w'.grownBy (w'.setCell ⟨h,5,none⟩ u) (some h):=Zaa (World.grownBy.refl w' _) 5 u
 refine⟨⟨xb'.set5 l u,o1'.kept hgrow ?_,ho.kept hgrow ?_,?_,dr'.same (hset g (fun e=>H.hg_ne e.symm)),e'.set_ H.hh u,H.hg,H.hh,(hset c0 H.hc).trans rc',H.hc,H.hcc⟩,xb'.cells.2.2.2.2.2,xb'.free 5⟩
 ·intro b hb e
  injection e with e
  subst e
  exact Zau o1' xb' (by decide) hb
 ·intro b hb e
  injection e with e
  subst e
  exact Zau ho xb' (by decide) hb
 ·intro b hu hv
  rcases hb with hb | hb
  ·exact H.ne b hu (hb ▸ hv)
  ·rw [hb] at hv
   injection hv with hv
   subst hv
   have:=H.o1.high _ hu
   omega
theorem DS.field (H:DS w0 w h g c0 x v1 v2 v b q) {y:In} {j:Nat} {u:Value} (hx:XP (w.setCell ⟨h,j,none⟩ u) h y v1 v2) (ht:y.to=x.to) (hk:y.ks=x.ks):DS w0 (w.setCell ⟨h,j,none⟩ u) h g c0 y v1 v2 v b q:=by
 have hset:∀ i,i≠h→(w.setCell ⟨h,j,none⟩ u).heap[i]?=w.heap[i]?:=fun i hi=>Below.heap_setCell w ⟨h,j,none⟩ u i hi
 have hgrow:w.grownBy (w.setCell ⟨h,j,none⟩ u) (some h):=Zaa (World.grownBy.refl w _) j u
 have k1:=H.o1.kept hgrow (fun b hb e=>by
  injection e with e
  subst e
  exact Zau H.o1 H.xb (by decide) hb)
 have k2:=H.o2.kept hgrow (fun b hb e=>by
  injection e with e
  subst e
  exact Zau H.o2 H.xb (by decide) hb)
 rw [← ht] at k1
 rw [← hk] at k2
 exact⟨hx,k1,k2,H.ne,H.dr.same (hset g (fun e=>H.hg_ne e.symm)),H.ext.set_ H.hh u,H.hg,H.hh,(hset c0 H.hc).trans H.rc,H.hc,H.hcc⟩
theorem DS.set2 (H:DS w0 w h g c0 x v1 v2 v b q) (n:Int):DS w0 (w.setCell ⟨h,2,none⟩ (.int .i64 n)) h g c0 ⟨x.a,x.o,n,x.m,x.to,x.ks⟩ v1 v2 v b q:=H.field (H.xb.set2 n) rfl rfl
theorem DS.set3 (H:DS w0 w h g c0 x v1 v2 v b q) (n:Int):DS w0 (w.setCell ⟨h,3,none⟩ (.int .i64 n)) h g c0 ⟨x.a,x.o,x.n,n,x.to,x.ks⟩ v1 v2 v b q:=H.field (H.xb.set3 n) rfl rfl
end
end Go.Proofs.YtclamhhgldkhnaaGreatDoor
