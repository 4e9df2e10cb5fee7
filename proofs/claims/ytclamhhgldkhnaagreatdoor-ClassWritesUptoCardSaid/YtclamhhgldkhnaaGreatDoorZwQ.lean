/- Several texts of this proof, one behind the other. -/
import Derived.Test.YtclamhhgldkhnaaGreatDoorZwP
import Derived.Test.YtclamhhgldkhnaaGreatDoorZwD
import Derived.Test.YtclamhhgldkhnaaGreatDoorZwE
import Derived.Test.YtclamhhgldkhnaaGreatDoorZwF
import Derived.Test.YtclamhhgldkhnaaGreatDoorZwC
import Derived.Laws.BitsAllLaws
import Derived.IntWalk
import Derived.Test.YtclamhhgldkhnaaGreatDoorZwG
import Derived.Laws.DeepStrings4
import Derived.Test.YtclamhhgldkhnaaGreatDoorShelf5
import Derived.Lib.Strings
import Derived.Lib.Slices
import Derived.Lib.Walk
import Derived.Laws.Strings3
import Derived.Lib.Bytealg
import Derived.BigQuiet
namespace Go.Proofs.YtclamhhgldkhnaaGreatDoor
open Go.RowKit
set_option linter.unusedVariables false
set_option maxHeartbeats 16000000
theorem Fit.suf {k:IntKind} {l m:List Int} (h:Fit k l) (hs:m <:+ l):Fit k m:=fun x hx=>h x (hs.subset hx)
theorem ZkA (l:List Int):(tU l).2.1 <:+ l:=by
 by_cases h:(tU l).2.2=0
 ·exact⟨_,(ZmL h).2⟩
 ·rw [(ZiN h).2]
  exact List.nil_suffix
theorem Zth (m:Nat) (wy:Int) (l:List Int):(tS m wy l).2.1 <:+ l:=by
 by_cases h:(tS m wy l).2.2=0
 ·exact⟨_,ZrE h⟩
 ·rw [(Zk7 h).2.1]
  exact List.nil_suffix
theorem ZcP (l:List Int) (e:Int):(rdU l e).2.1 <:+ l:=by
 unfold rdU
 split
 ·exact ZkA l
 ·exact List.suffix_refl l
theorem Zr6 (l:List Int) (e:Int):(rdS l e).2.1 <:+ l:=by
 unfold rdS
 split
 ·exact Zth 10 2 l
 ·exact List.suffix_refl l
theorem Zq9 (l:List Int) (e:Int):(rdTP l e).2.1 <:+ l:=by
 unfold rdTP
 split
 ·exact ZcP l e
 ·split
  ·exact ZcP l e
  ·exact(List.drop_suffix _ _).trans (ZcP l e)
theorem ZmU (l:List Int):(Zb5 l).2.1 <:+ l:=by
 unfold Zb5
 have h1:l.drop 1 <:+ l:=List.drop_suffix 1 l
 split
 ·exact List.nil_suffix
 ·split
  ·exact(Zq9 _ _).trans h1
  ·split
   ·exact(Zr6 _ _).trans h1
   ·split
    ·exact(ZcP _ _).trans h1
    ·split
     ·exact(ZcP _ _).trans ((ZcP _ _).trans ((ZcP _ _).trans h1))
     ·exact h1
theorem ZnE (l:List Int) (e:Int):0≤(rdU l e).1∧(rdU l e).1≤9007199254740991:=by
 by_cases h:(rdU l e).2.2=0
 ·exact Zsn h
 ·unfold rdU at h ⊢
  by_cases he:e=0
  ·rw [if_pos he] at h ⊢
   rw [(ZiN h).1]
   omega
  ·rw [if_neg he]
   simp
theorem Zh0 (l:List Int) (e:Int):I64 (rdU l e).1:=by
 have:=ZnE l e
 exact⟨by omega,by omega⟩
theorem Zr3 {l:List Int} (hf:Fit .u8 l) (e:Int):I64 (rdS l e).1:=by
 unfold rdS
 split
 ·exact Zp6 hf
 ·exact ZaH
theorem Zo6 {l:List Int} (hf:Fit .u8 l):(Zb5 l).1.ok:=by
 have hg:I64 (gi l 0):=by
  have:=hf.gi 0
  exact⟨by omega,by omega⟩
 have h1:=hf.suf (List.drop_suffix 1 l)
 unfold Zb5
 split
 ·exact Zsh
 ·split
  ·exact⟨⟨by simp,by simp⟩,ZaH,ZaH,ZaH,ZaH⟩
  ·split
   ·exact⟨hg,Zr3 h1 _,ZaH,ZaH,ZaH⟩
   ·split
    ·exact⟨⟨by simp,by simp⟩,ZaH,Zh0 _ _,ZaH,ZaH⟩
    ·split
     ·exact⟨hg,ZaH,Zh0 _ _,Zh0 _ _,Zh0 _ _⟩
     ·exact⟨hg,ZaH,ZaH,ZaH,ZaH⟩
def Fits (t:ByteArray) (n:Nat):Prop:=t.size≤n∧(encZ t.data.toList).length≤n
theorem Za8 (n:Nat):Fits .empty n:=⟨Nat.zero_le _,by
 have:encZ (ByteArray.empty).data.toList=[]:=rfl
 rw [this]
 exact Nat.zero_le _⟩
theorem Fits.le {t:ByteArray} {n m:Nat} (h:Fits t n) (hm:n≤m):Fits t m:=⟨Nat.le_trans h.1 hm,Nat.le_trans h.2 hm⟩
theorem ZoK {p:List Int} (hf:Fit .u8 p):Fits (decT p).1 p.length:=by
 unfold decT
 split
 ·rename_i h
  obtain⟨_,h2,h3⟩:=ZpZ hf h _ rfl
  exact⟨h3,by rw [h2];exact Nat.le_refl _⟩
 ·exact Za8 _
theorem Zpz {l:List Int} (hf:Fit .u8 l) (e:Int):Fits (rdTP l e).1 l.length:=by
 unfold rdTP
 split
 ·exact Za8 _
 ·split
  ·exact Za8 _
  ·refine(ZoK ((hf.suf (ZcP l e)).take _)).le ?_
   have:=(ZcP l e).length_le
   simp only [List.length_take]
   omega
theorem Zlr {l:List Int} (hf:Fit .u8 l):Fits (Zb5 l).1.t l.length:=by
 unfold Zb5
 split
 ·exact Za8 _
 ·split
  ·exact(Zpz (hf.suf (List.drop_suffix 1 l)) 0).le (by simp)
  ·split
   ·exact Za8 _
   ·split
    ·exact Za8 _
    ·split
     ·exact Za8 _
     ·exact Za8 _
def Zay (p:List Int) (e:Int):Nat→List Cst × List Int × Int
 | 0=>([],p,e)
 | k+1=>if (Zay p e k).2.2=0 then (if k=0 then ([c0],(Zay p e k).2) else ((Zay p e k).1++[(Zb5 (Zay p e k).2.1).1],(Zb5 (Zay p e k).2.1).2)) else Zay p e k
theorem ZjC (p:List Int) (e:Int):Zay p e 0=([],p,e):=rfl
theorem Zdk (p:List Int):Zay p 0 1=([c0],p,0):=by simp [Zay]
theorem Zgt {p:List Int} {e:Int} {k:Nat} (hk:1≤k) (h:(Zay p e k).2.2=0):Zay p e (k+1)=((Zay p e k).1++[(Zb5 (Zay p e k).2.1).1],(Zb5 (Zay p e k).2.1).2):=by
 rw [Zay,if_pos h,if_neg (by omega)]
theorem ZfP {p:List Int} {e:Int} {k:Nat} (h:¬ (Zay p e k).2.2=0):∀ m,k≤m→Zay p e m=Zay p e k:=by
 intro m hm
 induction m with
 | zero=>rw [show k=0 by omega]
 | succ m ih =>
  by_cases hk:k=m+1
  ·rw [hk]
  ·have:=ih (by omega)
   rw [Zay,this,if_neg h]
theorem Zhe {p:List Int} {e:Int}:∀ {k:Nat},(Zay p e k).2.2=0→(Zay p e k).1.length=k:=by
 intro k
 induction k with
 | zero=>exact fun _=>rfl
 | succ k ih =>
  intro h
  rw [Zay] at h ⊢
  by_cases h0:(Zay p e k).2.2=0
  ·rw [if_pos h0] at h ⊢
   by_cases hk:k=0
   ·rw [if_pos hk,hk];rfl
   ·rw [if_neg hk]
    simp [ih h0]
  ·rw [if_neg h0] at h
   exact absurd h h0
theorem Zct (p:List Int) (e:Int):∀ k:Nat,(Zay p e k).2.1 <:+ p:=by
 intro k
 induction k with
 | zero=>exact List.suffix_refl p
 | succ k ih =>
  rw [Zay]
  split
  ·split
   ·exact ih
   ·exact(ZmU _).trans ih
  ·exact ih
theorem ZlK {p:List Int} (hf:Fit .u8 p) (e:Int):∀ k:Nat,∀ x∈(Zay p e k).1,x.ok∧Fits x.t p.length:=by
 intro k
 induction k with
 | zero=>exact fun x hx=>by cases hx
 | succ k ih =>
  intro x hx
  rw [Zay] at hx
  split at hx
  ·split at hx
   ·rw [List.mem_singleton.1 hx]
    exact⟨Zsh,Za8 _⟩
   ·rcases List.mem_append.1 hx with hx | hx
    ·exact ih x hx
    ·rw [List.mem_singleton.1 hx]
     have hs:=Zct p e k
     exact⟨Zo6 (hf.suf hs),(Zlr (hf.suf hs)).le hs.length_le⟩
  ·exact ih x hx
def cntZ (b:List Int):Int:=if (tU b).2.2=0∧4096<(tU b).1 then 5 else (tU b).2.2
def Zcn (b:List Int):List Cst × List Int × Int:=Zay (tU b).2.1 (cntZ b) (tU b).1.toNat
noncomputable def errZ (b:List Int):Int:=if (Zcn b).2.2=0 then ZaD (Zcn b).1 else (Zcn b).2.2
theorem ZhH {b:List Int} (hf:Fit .u8 b):(∀ x∈(Zcn b).1,x.ok∧Fits x.t b.length)∧(Zcn b).2.1 <:+ b:=by
 have hs:=ZkA b
 exact⟨fun x hx=>by
  obtain⟨h1,h2⟩:=ZlK (hf.suf hs) _ _ x hx
  exact⟨h1,h2.le hs.length_le⟩,(Zct _ _ _).trans hs⟩
def encs (l:List Cst):List Int:=l.flatMap encC
theorem ZiG (l:List Cst):Zbd l=dg 1 10 l.length++encs (l.drop 1):=by
 unfold Zbd Za1 encs
 rw [List.take_length]
theorem Zq8 {l:List Cst} {j:Nat} (h:j<l.length):encs (l.drop j)=encC (gc l j)++encs (l.drop (j+1)):=by
 unfold encs
 rw [List.drop_eq_getElem_cons h,List.flatMap_cons]
 congr 2
 simp [gc,h]
theorem ZeR {t:ByteArray} (h:t.toList=[]):t=.empty:=toList_inj (by rw [h,ByteArray.toList_eq];rfl)
theorem Zjd {n:Int} (h0:0≤n) (h1:n≤9007199254740991) (r:List Int):rdU (dg 1 10 n++r) 0=(n,r,0):=by
 unfold rdU
 rw [if_pos rfl]
 exact Zrz h0 h1 r
theorem ZsS {n:Int} (h:I64 n) (r:List Int):rdS (dg 2 10 n++r) 0=(n,r,0):=by
 unfold rdS
 rw [if_pos rfl]
 exact ZsN (InB.start h.1 h.2 (.inl rfl)) (Zk0 2 10 n) r
theorem ZrI {t:ByteArray} (hv:Lib.validD t.data.toList=true) (hs:(encZ t.data.toList).length≤9007199254740991) (r:List Int) :
 rdTP (dg 1 10 (encZ t.data.toList).length++(encZ t.data.toList++r)) 0=(t,r,0):=by
 obtain⟨h1,h2⟩:=ZpV t hv
 unfold rdTP
 rw [Zjd (by omega) (by omega)]
 simp only
 rw [if_neg (by simp),if_neg (by rw [List.length_append];omega),Int.toNat_natCast,List.take_left,List.drop_left,decT,if_pos h1,h2]
theorem ZrA (l:List Int):Zb5 (1 :: l)=(⟨1,(rdTP l 0).1,0,0,0,0⟩,(rdTP l 0).2):=by
 unfold Zb5
 rw [if_neg (by simp),if_pos (by rfl)]
 rfl
theorem Zsf {k:Int} (h:k=2∨k=3) (l:List Int):Zb5 (k :: l)=(⟨k,.empty,(rdS l 0).1,0,0,0⟩,(rdS l 0).2):=by
 unfold Zb5
 rw [if_neg (by simp),if_neg (show ¬ gi (k :: l) 0=1 by rw [Zc0];omega),if_pos (show gi (k :: l) 0=2∨gi (k :: l) 0=3 by rw [Zc0];exact h)]
 rfl
theorem Zrt (l:List Int):Zb5 (4 :: l)=(⟨4,.empty,0,(rdU l 0).1,0,0⟩,(rdU l 0).2):=by
 unfold Zb5
 rw [if_neg (by simp),if_neg (show ¬ gi (4 :: l) 0=1 by rw [Zc0];omega),if_neg (show ¬ (gi (4 :: l) 0=2∨gi (4 :: l) 0=3) by rw [Zc0];omega),if_pos (show gi (4 :: l) 0=4 by rw [Zc0])]
 rfl
theorem Zrf {k:Int} (h:k=5∨k=6) (l:List Int):Zb5 (k :: l)=(⟨k,.empty,0,(rdU l 0).1,(rdU (rdU l 0).2.1 (rdU l 0).2.2).1,(rdU (rdU (rdU l 0).2.1 (rdU l 0).2.2).2.1 (rdU (rdU l 0).2.1 (rdU l 0).2.2).2.2).1⟩,(rdU (rdU (rdU l 0).2.1 (rdU l 0).2.2).2.1 (rdU (rdU l 0).2.1 (rdU l 0).2.2).2.2).2):=by
 unfold Zb5
 rw [if_neg (by simp),if_neg (show ¬ gi (k :: l) 0=1 by rw [Zc0];omega),if_neg (show ¬ (gi (k :: l) 0=2∨gi (k :: l) 0=3) by rw [Zc0];omega),if_neg (show ¬ gi (k :: l) 0=4 by rw [Zc0];omega),if_pos (show gi (k :: l) 0=5∨gi (k :: l) 0=6 by rw [Zc0];exact h)]
 rfl
theorem Ziv {l:List Cst} {x:Cst} (h:mayC l x=true) (hl:l.length≤4096) :
 (∃ t,x=⟨1,t,0,0,0,0⟩∧Lib.validD t.data.toList=true)∨(∃ k n,x=⟨k,.empty,n,0,0,0⟩∧(k=2∨k=3)) ∨
 (∃ a,x=⟨4,.empty,0,a,0,0⟩∧0≤a∧a≤4096)∨(∃ k a b c,x=⟨k,.empty,0,a,b,c⟩∧(k=5∨k=6)∧(0≤a∧a≤4096)∧(0≤b∧b≤4096)∧(0≤c∧c≤4096)):=by
 obtain⟨k,t,n,a,b,c⟩:=x
 have h:MayC l ⟨k,t,n,a,b,c⟩:=of_decide_eq_true h
 have rng:∀ {i j:Int},isK l i j=true→0≤i∧i≤4096:=fun h=>by
  obtain⟨j,rfl,h1,h2,_⟩:=Zjb h
  omega
 rcases h with⟨rfl,rfl,rfl,rfl,rfl,h6⟩ | ⟨rfl,h2,rfl,rfl,rfl,-,-⟩ | ⟨rfl,h2,rfl,rfl,rfl⟩ | ⟨rfl,h2,rfl,rfl,rfl,h6⟩ | ⟨h1,h2,rfl,h4,h5,h6⟩
 ·exact .inl ⟨t,rfl,h6⟩
 ·exact .inr (.inl ⟨2,n,by rw [show t=.empty from ZeR h2],.inl rfl⟩)
 ·exact .inr (.inl ⟨3,n,by rw [show t=.empty from ZeR h2],.inr rfl⟩)
 ·exact .inr (.inr (.inl ⟨a,by rw [show t=.empty from ZeR h2],rng h6⟩))
 ·exact .inr (.inr (.inr ⟨k,a,b,c,by rw [show t=.empty from ZeR h2],h1,rng h4,rng h5,rng h6⟩))
theorem ZqP (t:ByteArray) (n a b c:Int):encC ⟨1,t,n,a,b,c⟩=1 :: (dg 1 10 (encZ t.data.toList).length++encZ t.data.toList):=by
 unfold encC
 simp
theorem Zm1 {k:Int} (h:k=2∨k=3) (t:ByteArray) (n a b c:Int):encC ⟨k,t,n,a,b,c⟩=k :: dg 2 10 n:=by
 unfold encC
 simp only
 rw [if_neg (by omega),if_pos h]
theorem ZqD (t:ByteArray) (n a b c:Int):encC ⟨4,t,n,a,b,c⟩=4 :: dg 1 10 a:=by
 unfold encC
 simp
theorem Zow {k:Int} (h:k=5∨k=6) (t:ByteArray) (n a b c:Int):encC ⟨k,t,n,a,b,c⟩=k :: (dg 1 10 a++dg 1 10 b++dg 1 10 c):=by
 unfold encC
 simp only
 rw [if_neg (by omega),if_neg (by omega),if_neg (by omega)]
theorem ZnL {l:List Cst} {x:Cst} (h:mayC l x=true) (hl:l.length≤4096) (hok:x.ok) (hs:(encZ x.t.data.toList).length≤9007199254740991) (r:List Int):Zb5 (encC x++r)=(x,r,0):=by
 rcases Ziv h hl with⟨t,rfl,hv⟩ | ⟨k,n,rfl,hk⟩ | ⟨a,rfl,ha⟩ | ⟨k,a,b,c,rfl,hk,ha,hb,hc⟩
 ·rw [ZqP,List.cons_append,List.append_assoc,ZrA,ZrI hv hs]
 ·rw [Zm1 hk,List.cons_append,Zsf hk,ZsS hok.2.1]
 ·rw [ZqD,List.cons_append,Zrt,Zjd ha.1 (by omega)]
 ·rw [Zow hk,List.cons_append,List.append_assoc,List.append_assoc,Zrf hk,Zjd ha.1 (by omega)]
  simp only
  rw [Zjd hb.1 (by omega)]
  simp only
  rw [Zjd hc.1 (by omega)]
def Told (l:List Cst):Prop:=∀ x∈l,x.ok∧(encZ x.t.data.toList).length≤9007199254740991
theorem ZlS {l:List Cst} (hc:ZaD l=0) (ht:Told l) (r:List Int):∀ k,k≤l.length→Zay (encs (l.drop 1)++r) 0 k=(l.take k,encs (l.drop (max k 1))++r,0):=by
 obtain⟨h1,h2,h3,h4⟩:=Zb8 hc
 intro k
 induction k with
 | zero=>exact fun _=>rfl
 | succ k ih =>
  intro hk
  have ih:=ih (by omega)
  by_cases h0:k=0
  ·subst h0
   rw [Zdk]
   have e:l.take 1=[c0]:=by
    match l,h2 with
    | x :: m,_ =>
     have:x=c0:=by simpa [gc] using h3
     simp [this]
   rw [e]
   rfl
  ·have he:(Zay (encs (l.drop 1)++r) 0 k).2.2=0:=by rw [ih]
   have hx:=ht _ (Zla (l:=l) (j:=k) (by omega))
   have m1:max k 1=k:=by omega
   have m2:max (k+1) 1=k+1:=by omega
   rw [Zgt (by omega) he,ih,m1,m2]
   simp only
   rw [Zq8 (l:=l) (j:=k) (by omega),List.append_assoc,ZnL (h4 k (by omega) (by omega)) h1 hx.1 hx.2]
   simp only
   rw [ZcF (by omega)]
theorem Zjm {l:List Cst} (hc:ZaD l=0) (ht:Told l) (r:List Int):Zcn (Zbd l++r)=(l,r,0)∧errZ (Zbd l++r)=0:=by
 obtain⟨h1,h2,h3,h4⟩:=Zb8 hc
 have e:tU (Zbd l++r)=((l.length:Int),encs (l.drop 1)++r,0):=by
  rw [ZiG,List.append_assoc]
  exact Zrz (by omega) (by omega) _
 have hm:Zcn (Zbd l++r)=(l,r,0):=by
  unfold Zcn cntZ
  rw [e]
  simp only
  rw [if_neg (by omega),Int.toNat_natCast,ZlS hc ht r _ (Nat.le_refl _),List.take_length,show max l.length 1=l.length by omega,List.drop_length]
  rfl
 refine⟨hm,?_⟩
 unfold errZ
 rw [hm]
 exact(if_pos rfl).trans hc
def tyD (t:Ty):TyD:=⟨t.k,t.s.data.toList⟩
def tyO (t:TyD):Ty:=⟨t.k,bs t.s⟩
theorem Znz (l:List UInt8):(bs l).data.toList=l:=rfl
theorem Zo9 (t:Ty):tyO (tyD t)=t:=rfl
theorem Zq1 (l:List Ty):(l.map tyD).map tyO=l:=by
 rw [List.map_map]
 exact(List.map_congr_left fun x _=>Zo9 x).trans (List.map_id l)
def Me.pr (m:Me):Pr:=⟨tyD m.ret,m.args.map tyD⟩
structure Fd where
 st:Bool
 nm:ByteArray
 ty:Ty
deriving DecidableEq
structure Cl where
 pool:List Cst
 inf:Bool
 nm:ByteArray
 sup:ByteArray
 ifs:List ByteArray
 fds:List Fd
 mts:List Me
deriving DecidableEq
def cl0:Cl:=⟨[],false,.empty,.empty,[],[],[]⟩
def ub (s:ByteArray):List Int:=s.data.toList.map fun u=>(u.toNat:Int)
theorem Zgf (s:ByteArray):(ub s).length=s.size:=by unfold ub;rw [List.length_map,← Lib.size_eq]
theorem ZqZ (s:ByteArray):Fit .u8 (ub s):=fun x hx=>by
 obtain⟨u,_,rfl⟩:=List.mem_map.1 hx
 exact Zbp (by omega) (by have:=u.toNat_lt;omega)
theorem Zsy (s:ByteArray):strOfNums (ub s)=s:=by
 unfold strOfNums ub
 rw [List.map_map,show ((fun n:Int=>UInt8.ofNat n.toNat) ∘ fun u:UInt8=>(u.toNat:Int))=id from funext fun u=>by simp,List.map_id]
theorem Ztv {l:List Int} (h:Fit .u8 l):ub (strOfNums l)=l:=by
 unfold strOfNums ub
 simp only [List.map_map]
 conv=>rhs;rw [← List.map_id l]
 exact List.map_congr_left fun x hx=>by
  have:=h.u8 hx
  simp
  omega
theorem Zek (l:List Int):(strOfNums l).size=l.length:=by simp [strOfNums,ByteArray.size]
def nu (n:Int):List Int:=dg 1 10 n
def flg (b:Bool):Int:=if b then 1 else 0
def txA (s:ByteArray):List Int:=nu s.size++ub s
def lsZ {α:Type} (f:α→List Int) (l:List α):List Int:=nu l.length++l.flatMap f
def fdZ (f:Fd):List Int:=nu (flg f.st)++(txA f.nm++txA (bs (Zal (tyD f.ty))))
def hdZ (h:Hd):List Int:=nu h.f++(nu h.t++(nu h.a++nu h.c))
def kdZ (m:Me):Int:=if m.ab then 2 else flg m.st
def meT (m:Me):List Int:=nu m.sk++(nu m.lo++((nu m.code.length++m.code)++lsZ hdZ m.hs))
def meZ (m:Me):List Int:=nu (kdZ m)++(txA m.nm++(txA (bs (ZaN m.pr))++if m.ab then [] else meT m))
def tlZ (c:Cl):List Int:=nu (flg c.inf)++(txA c.nm++(txA c.sup++(lsZ txA c.ifs++(lsZ fdZ c.fds++lsZ meZ c.mts))))
def clZ (c:Cl):List Int:=[87,66,1]++(Zbd c.pool++tlZ c)
def nmB (s:ByteArray):Bool:=ZbL s.data.toList
def okFd (f:Fd):Bool:=nmB f.nm&&okT (tyD f.ty)
def okMe (pool:List Cst) (m:Me):Bool :=
 nmB m.nm&&(decide (Zap m.pr=0)&&if m.ab then !m.st&&(decide (m.sk=0)&&(decide (m.lo=0)&&(decide (m.code.length=0)&&decide (m.hs.length=0)))) else decide ((Zcc m pool).2.2=0))
noncomputable def okCl (c:Cl):Bool :=
 decide (ZaD c.pool=0)&&(nmB c.nm&&((decide (c.sup=.empty) || nmB c.sup)&&(decide (c.ifs.length≤64)&&(c.ifs.all nmB &&
  (decide (c.fds.length≤256)&&(c.fds.all okFd&&(decide (c.mts.length≤256)&&c.mts.all (okMe c.pool))))))))
noncomputable def chkK (c:Cl):Int:=if okCl c=true then 0 else 80
noncomputable def Zc3 (c:Cl):List Int × Int:=if okCl c=true then (if 65535<(clZ c).length then ([],5) else (clZ c,0)) else ([],80)
abbrev RSt:=List Int × Bool
def gU (s:RSt):Int × RSt:=if s.2=true∨(tU (s.1.take 8)).2.2≠0 then (0,s.1,true) else ((tU (s.1.take 8)).1,s.1.drop ((s.1.take 8).length-(tU (s.1.take 8)).2.1.length),false)
def gB (n:Int) (s:RSt):List Int × RSt:=if s.2=true∨(s.1.length:Int)<n then ([],s.1,true) else (s.1.take n.toNat,s.1.drop n.toNat,false)
def gTx (s:RSt):ByteArray × RSt:=(strOfNums (gB (gU s).1 (gU s).2).1,(gB (gU s).1 (gU s).2).2)
def gUp (k:Int) (s:RSt):Int × RSt:=if k<(gU s).1 then (0,(gU s).2.1,true) else gU s
def gTy (s:RSt):Ty × RSt:=(tyO (Zcb (gTx s).1.data.toList).1,(gTx s).2.1,(gTx s).2.2 || decide ((Zcb (gTx s).1.data.toList).2≠0))
def gPr (s:RSt):Pr × RSt:=((ZaP (gTx s).1.data.toList).1,(gTx s).2.1,(gTx s).2.2 || decide ((ZaP (gTx s).1.data.toList).2≠0))
def gFd (s:RSt):Fd × RSt:=(⟨decide ((gUp 1 s).1=1),(gTx (gUp 1 s).2).1,(gTy (gTx (gUp 1 s).2).2).1⟩,(gTy (gTx (gUp 1 s).2).2).2)
def gHd (s:RSt):Hd × RSt:=(⟨(gU s).1,(gU (gU s).2).1,(gU (gU (gU s).2).2).1,(gU (gU (gU (gU s).2).2).2).1⟩,(gU (gU (gU (gU s).2).2).2).2)
def gIt {α:Type} (one:RSt→α × RSt):Nat→List α→RSt→List α × RSt
 | 0,acc,s=>(acc,s)
 | n+1,acc,s=>if s.2=true then (acc,s) else gIt one n (acc++[(one s).1]) (one s).2
def gLs {α:Type} (k:Int) (one:RSt→α × RSt) (s:RSt):List α × RSt:=gIt one (gUp k s).1.toNat [] (gUp k s).2
def gMt (d:Me) (s:RSt):Me × RSt :=
 let a:=gU s
 let b:=gU a.2
 let n:=gU b.2
 let c:=gB n.1 n.2
 let h:=gLs 256 gHd c.2
 ({ d with sk:=a.1,lo:=b.1,code:=c.1,hs:=h.1 },h.2)
def gMe (s:RSt):Me × RSt :=
 let k:=gUp 2 s
 let x:=gTx k.2
 let p:=gPr x.2
 let d:Me:=⟨decide (k.1=1),decide (k.1=2),x.1,tyO p.1.ret,p.1.args.map tyO,0,0,[],[]⟩
 if k.1=2 then (d,p.2) else gMt d p.2
noncomputable def Zb4 (s:RSt):List Cst × RSt :=
 if errZ s.1=0 then ((Zcn s.1).1,if s.2=true then (s.1,true) else (s.1.drop (s.1.length-(Zcn s.1).2.1.length),false)) else ([],s.1,true)
def gTl (l:List Cst) (s:RSt):Cl × RSt :=
 let i:=gUp 1 s
 let n:=gTx i.2
 let u:=gTx n.2
 let f:=gLs 64 gTx u.2
 let d:=gLs 256 gFd f.2
 let m:=gLs 256 gMe d.2
 (⟨l,decide (i.1=1),n.1,u.1,f.1,d.1,m.1⟩,m.2)
def ZcD (b:List Int):RSt:=((gB 3 (b,false)).2.1,(gB 3 (b,false)).2.2 || decide ((gB 3 (b,false)).1≠[87,66,1]))
noncomputable def gCl (b:List Int):Cl × RSt:=gTl (Zb4 (ZcD b)).1 (Zb4 (ZcD b)).2
noncomputable def ZfX (b:List Int):Cl × Int :=
 if 65535<b.length then (cl0,5) else if (gCl b).2.2=true∨0<(gCl b).2.1.length then (cl0,80) else if okCl (gCl b).1=true then ((gCl b).1,0) else (cl0,80)
def NN (n:Int):Prop:=0≤n∧n≤9007199254740991
theorem Zuf {l:List Int} (h:(tU l).2.2=0) (hf:Fit .u8 l):NN (tU l).1:=by
 obtain⟨h1,h2⟩:=ZmL h
 unfold uS at h1
 split at h1
 ·injection h1 with _ h1
  cases h1
 ·unfold NN;omega
theorem Zru {l:List Int} (hf:Fit .u8 l) (h:(tU (l.take 8)).2.2=0):NN (tU (l.take 8)).1∧l=nu (tU (l.take 8)).1++l.drop ((l.take 8).length-(tU (l.take 8)).2.1.length):=by
 obtain⟨h1,h2⟩:=ZmL h
 refine⟨Zuf h (hf.take 8),?_⟩
 have e:=congrArg List.length h2
 rw [List.length_append] at e
 have hd:l=nu (tU (l.take 8)).1++((tU (l.take 8)).2.1++l.drop 8):=by
  conv=>lhs;rw [← List.take_append_drop 8 l,← h2]
  rw [List.append_assoc]
  rfl
 have hk:(l.take 8).length-(tU (l.take 8)).2.1.length=(nu (tU (l.take 8)).1).length:=by
  unfold nu
  omega
 rw [hk]
 have hr:l.drop (nu (tU (l.take 8)).1).length=(tU (l.take 8)).2.1++l.drop 8:=by
  generalize (tU (l.take 8)).1=n at hd ⊢
  generalize (tU (l.take 8)).2.1++l.drop 8=r at hd ⊢
  rw [hd,List.drop_left]
 rw [hr]
 exact hd
theorem Zaz {n:Int} (h:NN n):(nu n).length≤8:=Ze7 h.1 h.2
def Fwd {α:Type} (g:RSt→α × RSt) (e:α→List Int) (P:α→Prop):Prop:=∀ x r,P x→g (e x++r,false)=(x,r,false)
theorem Zrc {s:RSt} (hf:Fit .u8 s.1):NN (gU s).1:=by
 unfold gU
 split <;> rename_i h1
 ·exact⟨Int.le_refl 0,by show (0:Int)≤9007199254740991;decide⟩
 ·exact(Zru hf (by simpa using fun e=>h1 (.inr e))).1
theorem Zeb:Fwd gU nu NN:=fun n r h=>by
 have h8:=Zaz h
 have e:(nu n++r).take 8=nu n++r.take (8-(nu n).length):=by rw [List.take_append,List.take_of_length_le h8]
 have ht:tU ((nu n++r).take 8)=(n,r.take (8-(nu n).length),0):=by rw [e];exact Zrz h.1 h.2 _
 unfold gU
 rw [if_neg (by simp [ht])]
 simp only [ht]
 congr 2
 rw [show ((nu n++r).take 8).length-(r.take (8-(nu n).length)).length=(nu n).length by rw [e,List.length_append];omega]
 exact List.drop_left
theorem ZnQ (x r:List Int):gB x.length (x++r,false)=(x,r,false):=by
 unfold gB
 rw [if_neg (by simp;omega)]
 simp
theorem Zkz {n:Int} {s:RSt} (hf:Fit .u8 s.1):Fit .u8 (gB n s).1∧Fit .u8 (gB n s).2.1:=by
 unfold gB
 split
 ·exact⟨Fit.nil _,hf⟩
 ·exact⟨hf.take _,hf.drop _⟩
theorem ZgP {s:RSt} (hf:Fit .u8 s.1):Fit .u8 (gU s).2.1:=by
 unfold gU
 split
 ·exact hf
 ·exact hf.drop _
theorem ZmT {s:RSt} (hf:Fit .u8 s.1):Fit .u8 (gTx s).2.1:=(Zkz (ZgP hf)).2
def TX (s:ByteArray):Prop:=s.size≤9007199254740991
theorem Zd8:Fwd gTx txA TX:=fun x r h=>by
 have e1:gU (txA x++r,false)=((x.size:Int),ub x++r,false):=by
  unfold txA
  rw [List.append_assoc]
  exact Zeb _ _ ⟨by omega,by unfold TX at h;omega⟩
 unfold gTx
 rw [e1]
 simp only
 rw [← Zgf,ZnQ]
 simp only [Zsy]
theorem Zn0 {k:Int} {s:RSt} (hf:Fit .u8 s.1):Fit .u8 (gUp k s).2.1:=by
 unfold gUp
 split
 ·exact ZgP hf
 ·exact ZgP hf
theorem Zk3 {k:Int} {s:RSt} (hk:0≤k) (hf:Fit .u8 s.1):0≤(gUp k s).1∧(gUp k s).1≤k:=by
 unfold gUp
 split <;> rename_i h
 ·exact⟨Int.le_refl _,hk⟩
 ·exact⟨(Zrc hf).1,by omega⟩
theorem Zhl (k:Int):Fwd (gUp k) nu (fun n=>NN n∧n≤k):=fun n r h=>by
 unfold gUp
 rw [Zeb n r h.1,if_neg (by simp only;omega)]
theorem ZeG {t:TyD} (h:okT t=true):(Zal t).length≤67:=by
 unfold okT at h
 unfold Zal
 split at h <;> rename_i h1
 ·have:t.s=[]:=by simpa using h
  rw [this]
  repeat' split
  all_goals simp
 ·split at h <;> rename_i h2
  ·have:=Zfv h
   repeat' split
   all_goals first | (simp;done) | (simp only [List.length_cons,List.length_append,List.length_nil];omega)
  ·cases h
theorem ZrW:Fwd gTy (fun t=>txA (bs (Zal (tyD t)))) (fun t=>okT (tyD t)=true):=fun t r h=>by
 have hl:=ZeG h
 have e:=Zd8 (bs (Zal (tyD t))) r (by unfold TX;rw [show (bs (Zal (tyD t))).size=(Zal (tyD t)).length from rfl];omega)
 unfold gTy
 rw [e]
 simp only [Znz,ZiI h,Zo9]
 simp
theorem Zrx {s:RSt} (hf:Fit .u8 s.1):Fit .u8 (gPr s).2.1:=ZmT hf
theorem Zrw {α:Type} {f:α→List UInt8} {b:Nat}:∀ {l:List α},(∀ x∈l,(f x).length≤b)→(l.flatMap f).length≤l.length*b:=by
 intro l
 induction l with
 | nil=>intro _;simp
 | cons x l ih =>
  intro h
  rw [List.flatMap_cons,List.length_append,List.length_cons,Nat.add_mul]
  have:=h x (List.mem_cons_self ..)
  have:=ih fun y hy=>h y (List.mem_cons_of_mem _ hy)
  omega
theorem Ze8 {p:Pr} (h:Zap p=0):p.args.length≤16∧(p.ret=t0D∨okT p.ret=true)∧∀ t∈p.args,okT t=true:=by
 unfold Zap at h
 split at h <;> rename_i h1
 ·cases h
 ·split at h <;> rename_i h2
  ·unfold okP at h2
   simp at h2
   exact⟨by omega,h2.1,h2.2⟩
  ·cases h
theorem Zha {p:Pr} (h:Zap p=0):(ZaN p).length≤1141:=by
 obtain⟨h1,h2,h3⟩:=Ze8 h
 have ha:=Zrw (f:=Zal) (b:=67) (l:=p.args) fun t ht=>ZeG (h3 t ht)
 have hr:(Zal p.ret).length≤67:=by
  rcases h2 with h2 | h2
  ·rw [h2];decide
  ·exact ZeG h2
 unfold ZaN
 simp only [List.length_cons,List.length_append]
 have:p.args.length*67≤16*67:=Nat.mul_le_mul_right _ h1
 omega
theorem ZrR:Fwd gPr (fun p=>txA (bs (ZaN p))) (fun p=>Zap p=0):=fun p r h=>by
 have hl:=Zha h
 have e:=Zd8 (bs (ZaN p)) r (by unfold TX;rw [show (bs (ZaN p)).size=(ZaN p).length from rfl];omega)
 unfold gPr
 rw [e]
 simp only [Znz,Zmg h]
 simp
theorem Zj9 (b:Bool):decide (flg b=1)=b:=by cases b <;> rfl
theorem ZbG (b:Bool):NN (flg b)∧flg b≤1:=by cases b <;> exact⟨⟨by decide,by decide⟩,by decide⟩
theorem ZbW {s:ByteArray} (h:nmB s=true):s.size≤64:=by
 have:=(Zfv h).2
 rwa [← Lib.size_eq] at this
theorem Zsr:Fwd gFd fdZ (fun f=>okFd f=true):=fun f r h=>by
 have h:(nmB f.nm&&okT (tyD f.ty))=true:=h
 rw [Bool.and_eq_true] at h
 have e1:=Zhl 1 (flg f.st) (txA f.nm++(txA (bs (Zal (tyD f.ty)))++r)) (ZbG _)
 have e2:=Zd8 f.nm (txA (bs (Zal (tyD f.ty)))++r) (by have:=ZbW h.1;unfold TX;omega)
 have e3:=ZrW f.ty r h.2
 unfold gFd fdZ
 simp only [List.append_assoc]
 rw [e1]
 simp only
 rw [e2]
 simp only
 rw [e3]
 simp only [Zj9]
def HdOk (h:Hd):Prop:=NN h.f∧NN h.t∧NN h.a∧NN h.c
theorem Zrr:Fwd gHd hdZ HdOk:=fun x r h=>by
 obtain⟨h1,h2,h3,h4⟩:=h
 unfold gHd hdZ
 simp only [List.append_assoc]
 rw [Zeb _ _ h1]
 simp only
 rw [Zeb _ _ h2]
 simp only
 rw [Zeb _ _ h3]
 simp only
 rw [Zeb _ _ h4]
theorem Zr7 {α:Type} {one:RSt→α × RSt} {e:α→List Int} {P:α→Prop} (hb:Fwd one e P) (r:List Int):∀ (m acc:List α),(∀ x∈m,P x)→gIt one m.length acc (m.flatMap e++r,false)=(acc++m,r,false):=by
 intro m
 induction m with
 | nil=>intro acc _;simp [gIt]
 | cons x m ih =>
  intro acc h
  rw [List.length_cons,gIt,if_neg (by simp),List.flatMap_cons,List.append_assoc,hb x _ (h x (List.mem_cons_self ..))]
  simp only
  rw [ih _ fun y hy=>h y (List.mem_cons_of_mem _ hy)]
  simp
theorem Zho {α:Type} {one:RSt→α × RSt} {e:α→List Int} {P:α→Prop} (k:Int) (hk:k≤9007199254740991) (hb:Fwd one e P):Fwd (gLs k one) (lsZ e) (fun l=>(l.length:Int)≤k∧∀ x∈l,P x):=fun l r h=>by
 unfold gLs lsZ
 rw [List.append_assoc,Zhl k _ _ ⟨⟨by omega,by omega⟩,h.1⟩]
 simp only [Int.toNat_natCast]
 rw [Zr7 hb r l [] h.2]
 rfl
def ZaL (m:UInt8):List UInt8→List UInt8 × Bool
 | []=>([],false)
 | c :: r=>if c=m then (r,true) else (c :: r,false)
theorem hasP (m:UInt8) (l:List UInt8):Lib.hasPrefix (bs l).data.toList (bs [m]).data.toList=(ZaL m l).2:=by
 match l with
 | []=>rfl
 | c :: r =>
  show ([m]:List UInt8).isPrefixOf (c :: r)=_
  rw [ZaL]
  by_cases h:c=m
  ·subst h
   rw [if_pos rfl]
   simp [List.isPrefixOf]
  ·have:(m==c)=false:=by simpa using fun e=>h e.symm
   rw [if_neg h]
   simp [List.isPrefixOf,this]
theorem ZfB {m:UInt8} {l:List UInt8} (h:(ZaL m l).2=false):ZaL m l=(l,false):=by
 match l with
 | []=>rfl
 | c :: r =>
  rw [ZaL] at h ⊢
  by_cases hc:c=m
  ·rw [if_pos hc] at h
   cases h
  ·rw [if_neg hc]
theorem ZeF {m:UInt8} {l:List UInt8} (h:(ZaL m l).2=true):∃ r,l=m :: r∧ZaL m l=(r,true):=by
 match l with
 | []=>cases h
 | c :: r =>
  rw [ZaL] at h ⊢
  by_cases hc:c=m
  ·subst hc
   exact⟨r,rfl,by rw [if_pos rfl]⟩
  ·rw [if_neg hc] at h
   cases h
theorem ZkM {l x n:List UInt8} {i:Int} (hl:l=x++n) (hi:i=x.length) (W:World) :
 (Instr.slice 9 (.string (bs l)) (some (.int .i64 i)) none none).run Tryz.prog W=.ok (.string (bs n)) W:=by
 have hs:(bs l).size=l.length:=rfl
 subst hi
 have h1:l.length=x.length+n.length:=by rw [hl];simp
 rw [run_slice_string_from_if _ _ _ _ _ Tryz.underlying9,if_pos ⟨by omega,by omega⟩]
 congr 2
 apply ByteArray.ext
 simp only [Int.toNat_natCast]
 subst hl
 simp [bs,ByteArray.data_extract,ByteArray.size]
theorem Zqg {l x n:List UInt8} {j:Int} (hl:l=x++n) (hj:j=x.length) (W:World) :
 (Instr.slice 9 (.string (bs l)) none (some (.int .i64 j)) none).run Tryz.prog W=.ok (.string (bs x)) W:=by
 have hs:(bs l).size=l.length:=rfl
 subst hj
 have h1:l.length=x.length+n.length:=by rw [hl];simp
 rw [run_slice_string_h _ _ _ Tryz.underlying9 _ _ (by omega) (by omega)]
 congr 2
 apply ByteArray.ext
 simp only [Int.toNat_natCast]
 subst hl
 simp [bs,ByteArray.data_extract]
theorem ZhP (m:UInt8) (l:List UInt8) (w:World) :
 Calls Tryz.prog 277 #[.string (bs l),.string (bs [m])] w fun e w'=>e=.returned (.tuple #[.string (bs (ZaL m l).1),.bool (ZaL m l).2])∧w'=w:=by
 have hp:=fun W=>Tryz.stringslite_HasPrefix (bs l) (bs [m]) W
 simp only [hasP] at hp
 have h1:(bs [m]).size=1:=rfl
 cases h:(ZaL m l).2
 ·rw [h] at hp
  have HP:=Lh hp
  rw [ZfB h]
  clear hp h
  go_enter Tryz.func277,Tryz.ntmps277
  go_wp2_with fail
  refine(HP.out _).mono ?_
  rintro e w1 ⟨rfl,rfl⟩
  go_wp2
  go_ret2
  exact⟨rfl,rfl⟩
 ·rw [h] at hp
  have HP:=Lh hp
  obtain⟨r,hr,hs⟩:=ZeF h
  rw [hs]
  have hc:∀ W,(Instr.slice 9 (.string (bs l)) (some (.int .i64 1)) none none).run Tryz.prog W=.ok (.string (bs r)) W:=fun W=>ZkM (x:=[m]) (n:=r) (by rw [hr];rfl) (by simp) W
  clear hp h hr hs
  go_enter Tryz.func277,Tryz.ntmps277
  go_wp2_with fail
  refine(HP.out _).mono ?_
  rintro e w1 ⟨rfl,rfl⟩
  go_wp2
  go_ret2
  exact⟨rfl,rfl⟩
theorem ZgF (m:UInt8) (l:List UInt8) (w:World) :
 Calls Tryz.prog 259 #[.string (bs l),.string (bs [m])] w fun e w'=>e=.returned (.tuple #[.string (bs (ZaL m l).1),.bool (ZaL m l).2])∧w'=w:=by
 have hp:=fun W=>ZhP m l W
 obtain⟨X,hX⟩:∃ X,X=ZaL m l:=⟨_,rfl⟩
 rw [← hX] at hp ⊢
 have HP:=Lh hp
 clear hp hX
 go_enter Tryz.func259,Tryz.ntmps259
 go_wp2_with fail
 refine(HP.out _).mono ?_
 rintro e w1 ⟨rfl,rfl⟩
 go_wp2
 go_ret2
 exact⟨rfl,rfl⟩
def RD (w:World) (g:Nat) (l:List UInt8) (b:Bool):Prop:=w.heap[g]?=some (.cells #[.string (bs l),.bool b] 244 (0,0))
theorem RD.lt {w:World} {g:Nat} {l:List UInt8} {b:Bool} (h:RD w g l b):g<w.heap.size:=Zab h
theorem RD.ext {w w':World} {g:Nat} {l:List UInt8} {b:Bool} (h:RD w g l b) (he:Ext w w'):RD w' g l b:=(he.block g (Zab h)).trans h
theorem RD.kept {w w':World} {g:Nat} {l:List UInt8} {b:Bool} {r:Option Nat} (h:RD w g l b) (hw:w.grownBy w' r) (hr:∀ k,r=some k→k≠g):RD w' g l b:=(hw.block g (Zab h) (fun e=>hr g e.symm rfl)).trans h
theorem RD.cells {w:World} {g:Nat} {l:List UInt8} {b:Bool} (h:RD w g l b) :
 w.cell? ⟨g,0,none⟩=some (.string (bs l))∧w.cell? ⟨g,1,none⟩=some (.bool b)∧w.frozen? ⟨g,0,none⟩=false∧w.frozen? ⟨g,1,none⟩=false :=
 ⟨by rw [cell_of_row w g 0 _ _ (0,0) h];rfl,by rw [cell_of_row w g 1 _ _ (0,0) h];rfl,by simp [World.frozen?,show w.heap[g]?=_ from h],by simp [World.frozen?,show w.heap[g]?=_ from h]⟩
theorem RD.setText {w:World} {g:Nat} {l:List UInt8} {b:Bool} (h:RD w g l b) (m:List UInt8):RD (w.setCell ⟨g,0,none⟩ (.string (bs m))) g m b:=by
 have h1:=heap_setCell_same w g 0 _ 244 (.string (bs m)) h
 unfold RD
 rw [h1]
 rfl
theorem RD.setWrong {w:World} {g:Nat} {l:List UInt8} {b:Bool} (h:RD w g l b) (c:Bool):RD (w.setCell ⟨g,1,none⟩ (.bool c)) g l c:=by
 have h1:=heap_setCell_same w g 1 _ 244 (.bool c) h
 unfold RD
 rw [h1]
 rfl
def RRet (w:World) (g:Nat) (v:Value) (l:List UInt8) (b:Bool) (e:Ending) (w':World):Prop:=e=.returned v∧RD w' g l b∧w.grownBy w' (some g)
theorem Za3 {w w1 w2:World} {r:Option Nat} (h:w.grownBy w1 r) (e:Ext w1 w2):w.grownBy w2 r :=
 ⟨e.os.trans h.os,e.tape.trans h.tape,e.output.trans h.output,Nat.le_trans h.size e.size,fun i hi hne=>(e.block i (Nat.lt_of_lt_of_le hi h.size)).trans (h.block i hi hne)⟩
theorem Zaf {w w1 w2:World} {r:Option Nat} (h:w.grownBy w1 r) (e:w1.grownBy w2 r):w.grownBy w2 r :=
 ⟨e.os.trans h.os,e.tape.trans h.tape,e.output.trans h.output,Nat.le_trans h.size e.size,fun i hi hne=>(e.block i (Nat.lt_of_lt_of_le hi h.size) hne).trans (h.block i hi hne)⟩
theorem Za7 {w w':World} (h:Ext w w') (g:Option Nat):w.grownBy w' g:=⟨h.os,h.tape,h.output,h.size,fun i hi _=>h.block i hi⟩
theorem ZaR (m:UInt8) (w:World) (g:Nat) (l:List UInt8) (b:Bool) (h:RD w g l b) :
 Calls Tryz.prog 245 #[.pointer (some ⟨g,0,none⟩),.string (bs [m])] w (RRet w g (.bool (ZaL m l).2) (ZaL m l).1 b):=by
 have hp:=fun W=>ZgF m l W
 obtain⟨a0,a1,f0,f1⟩:=h.cells
 obtain⟨X,hX⟩:∃ X,X=ZaL m l:=⟨_,rfl⟩
 rw [← hX] at hp ⊢
 have HP:=Lh hp
 have HS:=Lh (h.setText X.1)
 clear hp hX h
 go_enter Tryz.func245,Tryz.ntmps245
 go_wp2_with fail
 refine(HP.out _).mono ?_
 rintro e w1 ⟨rfl,rfl⟩
 go_wp2
 go_ret
 exact⟨rfl,HS.out,Zaa (World.grownBy.refl w1 _) 0 _⟩
theorem ZfG (w:World) (g:Nat) (l:List UInt8) (b:Bool) (h:RD w g l b) :
 Calls Tryz.prog 220 #[.pointer (some ⟨g,0,none⟩)] w fun e w'=>e=.returned (.bool (decide (l=[])))∧w'=w:=by
 obtain⟨a0,a1,f0,f1⟩:=h.cells
 have hbs:=Zdd l
 have he:l.isEmpty=decide (l=[]):=by cases l <;> rfl
 clear h
 go_enter Tryz.func220,Tryz.ntmps220
 go_wp2
 go_ret
 exact⟨rfl,rfl⟩
theorem ZcA (w:World) (g:Nat) (l:List UInt8) (b:Bool) (h:RD w g l b) :
 Calls Tryz.prog 248 #[.pointer (some ⟨g,0,none⟩)] w (RRet w g (.agg t0D.vals) l true):=by
 obtain⟨a0,a1,f0,f1⟩:=h.cells
 have HS:=Lh (h.setWrong true)
 have hlt:=h.lt
 clear h
 go_enter Tryz.func248,Tryz.ntmps248
 go_wp2
 refine bodyPost_ret (v:=.agg (TyD.vals t0D)) (by unfold TyD.vals;simp [results,Tryz.results248,go_sem];try exact⟨rfl,rfl⟩) rfl ⟨rfl,?_,?_⟩
 ·exact HS.out.ext ((Ext.refl _).alloc _)
 ·exact Za3 (Zaa (World.grownBy.refl w _) 1 _) ((Ext.refl _).alloc _)
def Zcg (l:List UInt8):List UInt8 × List UInt8 × Bool:=if semi l<l.length then (l.take (semi l),l.drop (semi l+1),true) else (l,[],false)
theorem Zlz:∀ l:List UInt8,Lib.indexByte l 59=if semi l<l.length then (semi l:Int) else -1:=by
 intro l
 induction l with
 | nil=>rfl
 | cons c r ih =>
  rw [Lib.indexByte,semi]
  by_cases hc:c=59
  ·subst hc
   simp
  ·have:(c==59)=false:=by simpa using hc
   rw [if_neg hc,this,ih,if_neg Bool.false_ne_true]
   have hl:=ZjZ r
   simp only [List.length_cons]
   by_cases hlt:semi r<r.length
   ·have h1:((semi r:Int)==-1)=false:=by rw [beq_eq_false_iff_ne];omega
    rw [if_pos hlt,if_pos (show semi r+1<r.length+1 by omega),h1]
    rfl
   ·rw [if_neg hlt,if_neg (show ¬ semi r+1<r.length+1 by omega)]
    rfl
theorem Zni (l:List UInt8) (w:World) :
 Calls Tryz.prog 152 #[.string (bs l),.string (bs [59])] w fun e w'=>e=.returned (.int .i64 (Lib.indexByte l 59))∧w'=w:=by
 have h1:(bs [59]).size=1:=rfl
 have hb1:=Zdd l
 have hb2:=Zdd [59]
 have i0:∀ W,(Instr.index 9 (.string (bs [59])) (.int .i64 0)).run Tryz.prog W=.ok (.int .u8 59) W:=fun W=>ZqV (k:=0) (by simp) rfl W
 have hp:=fun W=>Tryz.stringslite_IndexByte (bs l) 59 W
 have e59:(bs l).data.toList=l:=rfl
 simp only [e59] at hp
 have e8:(Int.toNat 59).toUInt8=(59:UInt8):=rfl
 simp only [e8] at hp
 by_cases he:l=[59]
 ·have E1:=Lh (show Lib.indexByte l 59=0 by rw [he];rfl)
  have hbe:([59]==l)=true:=by rw [he];rfl
  rw [E1.out]
  clear hp
  have HL:=Lh he
  clear he
  go_enter Tryz.func152,Tryz.ntmps152
  go_wp2
  go_ret
  exact⟨rfl,rfl⟩
 ·have hbe:([59]==l)=false:=by
   simp only [beq_eq_false_iff_ne,ne_eq]
   exact fun e=>he e.symm
  obtain⟨x,hx⟩:∃ x,x=Lib.indexByte l 59:=⟨_,rfl⟩
  rw [← hx] at hp ⊢
  have HP:=Lh hp
  clear hp he hx
  go_enter Tryz.func152,Tryz.ntmps152
  go_wp2_with fail
  refine(HP.out _).mono ?_
  rintro e w1 ⟨rfl,rfl⟩
  go_wp2
  go_ret
  exact⟨rfl,rfl⟩
theorem Zrs (l:List UInt8) (hl:l.length≤140737488351232) (w:World) :
 Calls Tryz.prog 287 #[.string (bs l),.string (bs [59])] w fun e w'=>e=.returned (.tuple #[.string (bs (Zcg l).1),.string (bs (Zcg l).2.1),.bool (Zcg l).2.2])∧∃ m,w'=w.drewN m:=by
 have hp:=fun W=>Zni l W
 rw [Zlz] at hp
 have h1:(bs [59]).size=1:=rfl
 by_cases hlt:semi l<l.length
 ·rw [if_pos hlt] at hp
  have hz:Zcg l=(l.take (semi l),l.drop (semi l+1),true):=by rw [Zcg,if_pos hlt]
  obtain⟨X,hX⟩:∃ X,X=l.take (semi l):=⟨_,rfl⟩
  obtain⟨Y,hY⟩:∃ Y,Y=l.drop (semi l+1):=⟨_,rfl⟩
  rw [← hX,← hY] at hz
  rw [hz]
  obtain⟨n,hn⟩:∃ n,n=semi l:=⟨_,rfl⟩
  rw [← hn] at hp hX hY hlt
  have c1:∀ W,(Instr.slice 9 (.string (bs l)) none (some (.int .i64 n)) none).run Tryz.prog W=.ok (.string (bs X)) W :=
   fun W=>Zqg (x:=X) (n:=l.drop n) (by rw [hX];simp) (by rw [hX];simp;omega) W
  have c2:∀ W,(Instr.slice 9 (.string (bs l)) (some (.int .i64 ((n:Int)+1))) none none).run Tryz.prog W=.ok (.string (bs Y)) W :=
   fun W=>ZkM (x:=l.take (n+1)) (n:=Y) (by rw [hY];simp) (by simp;omega) W
  have HP:=Lh hp
  clear hp hz hX hY hn
  have hn1:(n:Int)+1≤140737488351232:=by omega
  clear hlt
  go_enter Tryz.func287,Tryz.ntmps287
  go_wp2_with fail
  refine(HP.out _).mono ?_
  rintro e w1 ⟨rfl,rfl⟩
  go_wp2
  go_quiet (fail)
  go_wp2
  refine bodyPost_ret (v:=.tuple #[.string (bs X),.string (bs Y),.bool true]) (by simp [results,Tryz.results287,go_sem];try exact⟨rfl,rfl⟩) rfl ⟨rfl,_,rfl⟩
 ·rw [if_neg hlt] at hp
  have hz:Zcg l=(l,[],false):=by rw [Zcg,if_neg hlt]
  rw [hz]
  have HP:=Lh hp
  clear hp hz hlt
  go_enter Tryz.func287,Tryz.ntmps287
  go_wp2_with fail
  refine(HP.out _).mono ?_
  rintro e w1 ⟨rfl,rfl⟩
  go_wp2
  refine bodyPost_ret (v:=.tuple #[.string (bs l),.string (bs []),.bool false]) (by simp [results,Tryz.results287,go_sem];rfl) rfl ⟨rfl,0,rfl⟩
theorem Zpq (l:List UInt8) (hl:l.length≤140737488351232) (w:World) :
 Calls Tryz.prog 285 #[.string (bs l),.string (bs [59])] w fun e w'=>e=.returned (.tuple #[.string (bs (Zcg l).1),.string (bs (Zcg l).2.1),.bool (Zcg l).2.2])∧∃ m,w'=w.drewN m:=by
 have hp:=fun W=>Zrs l hl W
 obtain⟨X,hX⟩:∃ X,X=Zcg l:=⟨_,rfl⟩
 rw [← hX] at hp ⊢
 have HP:=Lh hp
 clear hp hX
 go_enter Tryz.func285,Tryz.ntmps285
 go_wp2_with fail
 refine(HP.out _).mono ?_
 rintro e w1 ⟨rfl,m,rfl⟩
 go_wp2
 refine bodyPost_ret (v:=.tuple #[.string (bs X.1),.string (bs X.2.1),.bool X.2.2]) (by simp [results,Tryz.results285,go_sem];try exact⟨rfl,rfl⟩) rfl ⟨rfl,_,rfl⟩
theorem Zi3 {w w':World} {r:Option Nat} (h:w.grownBy w' r) (n:Nat):w.grownBy (w'.drewN n) r:=⟨h.os,h.tape,h.output,h.size,h.block⟩
theorem Zo5 (w:World) (g:Nat) (l:List UInt8) (b:Bool) (hl:l.length≤140737488351232) (h:RD w g l b) :
 Calls Tryz.prog 278 #[.pointer (some ⟨g,0,none⟩),.string (bs [59])] w (RRet w g (.tuple #[.string (bs (Zcg l).1),.bool (Zcg l).2.2]) (Zcg l).2.1 b):=by
 have hp:=fun W=>Zpq l hl W
 obtain⟨a0,a1,f0,f1⟩:=h.cells
 obtain⟨X,hX⟩:∃ X,X=Zcg l:=⟨_,rfl⟩
 rw [← hX] at hp ⊢
 have HP:=Lh hp
 have HS:=fun n=>Lh (RD.setText (w:=w.drewN n) (show RD (w.drewN n) g l b from h) X.2.1)
 have HS:=Lh HS
 clear hp hX h
 go_enter Tryz.func278,Tryz.ntmps278
 go_wp2_with fail
 refine(HP.out _).mono ?_
 rintro e w1 ⟨rfl,m,rfl⟩
 go_wp2
 go_ret2
 exact⟨rfl,(HS.out m).out,Zaa (Zi3 (World.grownBy.refl w _) m) 0 _⟩
end Go.Proofs.YtclamhhgldkhnaaGreatDoor
