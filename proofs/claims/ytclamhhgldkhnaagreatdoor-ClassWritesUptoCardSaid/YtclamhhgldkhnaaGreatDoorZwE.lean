/- Several texts of this proof, one behind the other. -/
import Derived.Test.YtclamhhgldkhnaaGreatDoorZwD
import Derived.Test.YtclamhhgldkhnaaGreatDoorProg
import Derived.Laws.BytesArg
import Derived.Lib.SliceRun
import Derived.Lib.Bytes
import Derived.Laws.StructEq
import Derived.Deep.QuietTactic
import Derived.RegionTactic
import Derived.Test.YtclamhhgldkhnaaGreatDoorZwA
namespace Go.Proofs.YtclamhhgldkhnaaGreatDoor
open Go.RowKit
set_option linter.unusedVariables false
set_option maxHeartbeats 16000000
def Zti (w:World) (v:Value) (e:Ending) (w':World):Prop:=e=.returned v∧∃ m,w'=w.drewN m
def bs (l:List UInt8):ByteArray:=⟨l.toArray⟩
def TyD.vals (t:TyD):Array Value:=#[.int .i64 t.k,.string (bs t.s)]
theorem Zg7 {l:List UInt8} (h:64<l.length):ZbL l=false:=by
 match l with
 | []=>rfl
 | c :: r =>
  simp only [List.length_cons] at h
  simp only [ZbL,Bool.and_eq_false_iff,decide_eq_false_iff_not]
  right
  omega
theorem ZqV {l:List UInt8} {k:Nat} (h:k<l.length) {c:UInt8} (hc:l[k]=c) (W:World):(Instr.index 9 (.string (bs l)) (.int .i64 k)).run Tryz.prog W=.ok (.int .u8 c.toNat) W:=by
 have hs:k<(bs l).size:=h
 rw [run_index_string _ _ _ _ _ Tryz.underlying9,dif_pos ⟨by omega,by omega⟩]
 subst hc
 rfl
def okAt (c:UInt8) (k:Nat):Bool:=Zdr c || (Zgw c&&decide (0<k))
theorem nameB_at {l:List UInt8}:ZbL l=true↔0<l.length∧l.length≤64∧∀ j (h:j<l.length),okAt l[j] j=true:=by
 match l with
 | []=>simp [ZbL]
 | c :: r =>
  simp only [ZbL,Bool.and_eq_true,List.all_eq_true,decide_eq_true_eq,List.length_cons]
  constructor
  ·rintro ⟨⟨h1,h2⟩,h3⟩
   refine⟨by omega,by omega,fun j hj=>?_⟩
   match j with
   | 0=>simp [okAt,h1]
   | j+1 =>
    have:=h2 r[j] (List.getElem_mem _)
    simpa [okAt] using this
  ·rintro ⟨_,h2,h3⟩
   refine⟨⟨?_,fun d hd=>?_⟩,by omega⟩
   ·simpa [okAt] using h3 0 (by simp)
   ·obtain⟨j,hj,rfl⟩:=List.getElem_of_mem hd
    have hj':=hj
    have:=h3 (j+1) (by simpa using hj)
    rw [List.getElem_cons_succ] at this
    simpa [okAt] using this
theorem ZiJ {l:List UInt8} {k:Nat} {c:UInt8} (h:k<l.length) (hc:l[k]=c) (hb:okAt c k=false):ZbL l=false:=by
 cases hn:ZbL l with
 | false=>rfl
 | true =>
  have:=(nameB_at.1 hn).2.2 k h
  rw [hc,hb] at this
  cases this
theorem Zl4 (c:UInt8):((∀ k,okAt c k=true)∧((97≤(c.toNat:Int)∧(c.toNat:Int)≤122)∨((c.toNat:Int)<97∧65≤(c.toNat:Int)∧(c.toNat:Int)≤90)∨(c.toNat:Int)=95∨(c.toNat:Int)=36)) ∨
 ((∀ k,okAt c k=decide (0<k))∧48≤(c.toNat:Int)∧(c.toNat:Int)≤57∧((c.toNat:Int)==95)=false∧((c.toNat:Int)==36)=false) ∨
 ((
  ∀ k,okAt c k=false)∧((c.toNat:Int)==95)=false∧((c.toNat:Int)==36)=false ∧
  ((c.toNat:Int)<48∨(57<(c.toNat:Int)∧(c.toNat:Int)<65)∨(¬ (c.toNat:Int)≤90∧90<(c.toNat:Int)∧(c.toNat:Int)<97)∨(¬ (c.toNat:Int)≤90∧¬ (c.toNat:Int)≤122∧122<(c.toNat:Int)))):=by
 have hl:Zdr c=true↔(97≤c.toNat∧c.toNat≤122)∨(65≤c.toNat∧c.toNat≤90)∨c.toNat=95∨c.toNat=36:=by simp [Zdr,or_assoc]
 have hd:Zgw c=true↔48≤c.toNat∧c.toNat≤57:=by simp [Zgw]
 cases h1:Zdr c
 ·cases h2:Zgw c
  ·right;right
   rw [← Bool.not_eq_true,hl] at h1
   rw [← Bool.not_eq_true,hd] at h2
   refine⟨fun k=>?_,by simp;omega,by simp;omega,by omega⟩
   simp only [okAt]
   rw [Bool.eq_false_iff.2 (fun h=>h1 (hl.1 h):Zdr c≠true),Bool.eq_false_iff.2 (fun h=>h2 (hd.1 h):Zgw c≠true)]
   rfl
  ·right;left
   have h2':=hd.1 h2
   refine⟨fun k=>by simp [okAt,h1,h2],by omega,by omega,by simp;omega,by simp;omega⟩
 ·left
  have h1':=hl.1 h1
  exact⟨fun k=>by simp [okAt,h1],by omega⟩
theorem Zbr (l:List UInt8) (w:World) (hl:l.length≤140737488351232) :
 Calls Tryz.prog 29 #[.string (bs l)] w (Zti w (.bool (ZbL l))):=by
 have hsz:(bs l).size=l.length:=rfl
 by_cases h0:l.length=0
 ·obtain rfl:l=[]:=List.eq_nil_of_length_eq_zero h0
  go_enter Tryz.func29,Tryz.ntmps29
  go_wp2
  go_ret
  exact⟨rfl,0,rfl⟩
 by_cases h64:64<l.length
 ·rw [Zg7 h64]
  go_enter Tryz.func29,Tryz.ntmps29
  go_wp2
  go_ret
  exact⟨rfl,0,rfl⟩
 go_enter Tryz.func29,Tryz.ntmps29
 go_wp2
 go_loopw [3] (fun i wr=>∃ k q:Nat,k≤l.length∧i=.int .i64 k∧wr=w.drewN q∧(∀ j (h:j<l.length),j<k→okAt l[j] j=true)) (fun i _=>l.length-(intOf i).toNat)
 case atStart=>exact⟨0,0,by omega,rfl,rfl,fun j _ h=>absurd h (Nat.not_lt_zero _)⟩
 case round =>
  obtain⟨k,q,hk,rfl,rfl,ht⟩:=hrel
  have Ht:=Lh ht
  clear ht
  by_cases hlt:k<l.length
  ·obtain⟨c,hc⟩:∃ c,l[k]=c:=⟨_,rfl⟩
   have hix:=fun W=>ZqV hlt hc W
   have next:okAt c k=true→∀ j (h:j<l.length),j<k+1→okAt l[j] j=true:=by
    intro ho j h hj
    by_cases hjk:j<k
    ·exact Ht.out j h hjk
    ·obtain rfl:j=k:=by omega
     rw [hc]
     exact ho
   have bad:=fun hb=>ZiJ hlt hc hb
   have Next:=Lh next
   have Bad:=Lh bad
   clear next bad
   rcases Zl4 c with⟨ho,hx⟩ | ⟨ho,hx1,hx2,hx3,hx4⟩ | ⟨ho,hx3,hx4,hx⟩
   ·have Ho:=Lh (ho k)
    clear ho hc
    rcases hx with⟨hx1,hx2⟩ | ⟨hx1,hx2,hx3⟩ | hx | hx
    all_goals
     go_wp2
     exact⟨⟨k+1,q,by omega,by go_num,rfl,Next.out Ho.out⟩,by simp [intOf];omega⟩
   ·have Ho:=Lh (ho k)
    clear ho hc
    by_cases hk0:k=0
    ·have hk1:((k:Int)==0)=true:=by simp;omega
     have Ho:=Lh (Ho.out.trans (by rw [hk0];rfl:decide (0<k)=false))
     clear hk0
     go_wp2
     go_ret
     exact⟨by rw [Bad.out Ho.out];rfl,_,rfl⟩
    ·have hk1:((k:Int)==0)=false:=by simp;omega
     have hk2:decide (0<k)=true:=by simp;omega
     have Ho:=Lh (Ho.out.trans hk2)
     clear hk2
     go_wp2
     exact⟨⟨k+1,q,by omega,by go_num,rfl,Next.out Ho.out⟩,by simp [intOf];omega⟩
   ·have Ho:=Lh (ho k)
    clear ho hc
    rcases hx with hx | ⟨hx1,hx2⟩ | ⟨n90,hx1,hx2⟩ | ⟨n90,n122,hx⟩
    all_goals
     go_wp2
     go_ret
     exact⟨by rw [Bad.out Ho.out];rfl,_,rfl⟩
  ·obtain rfl:k=l.length:=by omega
   go_wp2
   go_ret
   refine⟨?_,_,rfl⟩
   rw [nameB_at.2 ⟨by omega,by omega,fun j h=>Ht.out j h (by omega)⟩]
   rfl
end Go.Proofs.YtclamhhgldkhnaaGreatDoor
namespace Go.Proofs.YtclamhhgldkhnaaGreatDoor
set_option linter.unusedVariables false
structure In where
 a:Int
 o:Int
 n:Int
 m:Int
 to:List Int
 ks:List Int
deriving DecidableEq
def i0:In:=⟨0,0,0,0,[],[]⟩
def Zad (o:Int):Int :=
 if 5≤o∧o≤10 then 1 else if o=1∨o=2 then 2
 else if o=3∨(61≤o∧o≤65)∨o=68∨o=76∨o=77∨(79≤o∧o≤82) then 3
 else if 42≤o∧o≤58 then 4 else if o=11 then 5 else if o=59 then 6 else if o=60 then 7 else 0
def Zbe (o:Int):Bool:=decide ((58≤o∧o≤60)∨o=78∨(83≤o∧o≤86))
theorem Zb2 (o:Int):0≤Zad o∧Zad o≤7:=by
 unfold Zad
 repeat' split
 all_goals omega
def be1 (n:Int):List Int:=[n%256]
def be2 (n:Int):List Int:=[n/256%256,n%256]
def be4 (n:Int):List Int:=[n/16777216%256,n/65536%256,n/256%256,n%256]
def u1 (a:Int):Int:=a
def u2 (a b:Int):Int:=a*256+b
def u4 (a b c d:Int):Int:=((a*256+b)*256+c)*256+d
def s1 (v:Int):Int:=if v<128 then v else v-256
def s2 (v:Int):Int:=if v<32768 then v else v-65536
def s4 (v:Int):Int:=if v<2147483648 then v else v-4294967296
def B8 (c:Int):Prop:=0≤c∧c<256
theorem Zsv {n:Int} (h:0≤n∧n≤255):be1 n=[n]:=by simp [be1];omega
theorem ZtQ {a:Int} (ha:B8 a):be1 (s1 a)=[a]:=by unfold be1 s1 B8 at *;split <;> simp <;> omega
theorem Zsk {a b:Int} (ha:B8 a) (hb:B8 b):be2 (u2 a b)=[a,b]:=by unfold be2 u2 B8 at *;simp;omega
theorem ZlO {a b:Int} (ha:B8 a) (hb:B8 b):be2 (s2 (u2 a b))=[a,b]:=by unfold be2 s2 u2 B8 at *;split <;> simp <;> omega
theorem Zta {a b c d:Int} (ha:B8 a) (hb:B8 b) (hc:B8 c) (hd:B8 d):be4 (s4 (u4 a b c d))=[a,b,c,d]:=by unfold be4 s4 u4 B8 at *;split <;> simp <;> omega
theorem Zub {a:Int} (ha:B8 a):-128≤s1 a∧s1 a≤127:=by unfold s1 B8 at *;split <;> omega
theorem Zn7 {a b:Int} (ha:B8 a) (hb:B8 b):0≤u2 a b∧u2 a b≤65535:=by unfold u2 B8 at *;omega
theorem ZtM {a b:Int} (ha:B8 a) (hb:B8 b):-32768≤s2 (u2 a b)∧s2 (u2 a b)≤32767:=by unfold s2 u2 B8 at *;split <;> omega
theorem Zud {a b c d:Int} (ha:B8 a) (hb:B8 b) (hc:B8 c) (hd:B8 d):-2147483648≤s4 (u4 a b c d)∧s4 (u4 a b c d)≤2147483647:=by unfold s4 u4 B8 at *;split <;> omega
def Zbh (a t:Int):Bool:=decide (0≤t∧t<8192∧-32768≤t-a∧t-a≤32767)
def ZbO (n:Int):Bool:=decide (-2147483648≤n∧n≤2147483647)
def rise:List Int→Bool
 | []=>true
 | [k]=>ZbO k
 | k :: l :: r=>ZbO k&&decide (k<l)&&rise (l :: r)
def Zan (x:In):Bool :=
 let z:=Zad x.o
 let n:=if z=1∨z=5 then decide (0≤x.n∧x.n≤255) else if z=2 then decide (-32768≤x.n∧x.n≤32767) else if z=3 then decide (0≤x.n∧x.n≤65535)
  else if z=6 then decide (2≤x.to.length∧x.to.length≤1001)&&ZbO x.n&&ZbO (x.n+x.to.length-2) else decide (x.n=0)
 let m:=if z=5 then decide (-128≤x.m∧x.m≤127) else decide (x.m=0)
 let t:=if z=4 then decide (x.to.length=1) else if z=6 then true else if z=7 then decide (1≤x.to.length∧x.to.length≤1001) else decide (x.to=[])
 let k:=if z=7 then decide (x.ks.length+1=x.to.length) else decide (x.ks=[])
 n&&m&&t&&k
def mayI (x:In):Bool:=decide (0≤x.a∧x.a<8192∧0≤x.o∧x.o≤89)&&x.to.all (Zbh x.a)&&Zan x&&rise x.ks
def tos (a:Int):List Int→List Int
 | []=>[]
 | t :: r=>be2 (t-a)++tos a r
def kts (a:Int):List Int→List Int→List Int
 | k :: ks,t :: r=>be4 k++(be2 (t-a)++kts a ks r)
 | _,_=>[]
def ZoQ (x:In):List Int :=
 let z:=Zad x.o
 if z=1 then be1 x.n else if z=2∨z=3 then be2 x.n else if z=4 then be2 (x.to.headD 0-x.a) else if z=5 then be1 x.n++be1 x.m
 else if z=6 then be2 (x.to.headD 0-x.a)++(be4 x.n++(be2 (x.to.length-1)++tos x.a x.to.tail))
 else if z=7 then be2 (x.to.headD 0-x.a)++(be2 x.ks.length++kts x.a x.ks x.to.tail) else []
def encB (x:In):List Int:=x.o :: ZoQ x
def ZhL (a:Int):Nat→List Int→Option (List Int × List Int)
 | 0,l=>some ([],l)
 | n+1,p :: q :: l=>(ZhL a n l).map fun x=>((a+s2 (u2 p q)) :: x.1,x.2)
 | _+1,_=>none
def ZhD (a:Int):Nat→List Int→Option (List Int × List Int × List Int)
 | 0,l=>some ([],[],l)
 | n+1,b :: c :: d :: e :: p :: q :: l=>(ZhD a n l).map fun x=>(s4 (u4 b c d e) :: x.1,(a+s2 (u2 p q)) :: x.2.1,x.2.2)
 | _+1,_=>none
def body (a o:Int) (l:List Int):Option (In × List Int) :=
 let z:=Zad o
 if z=1 then (match l with | p :: r=>some (⟨a,o,p,0,[],[]⟩,r) | _=>none)
 else if z=2 then (match l with | p :: q :: r=>some (⟨a,o,s2 (u2 p q),0,[],[]⟩,r) | _=>none)
 else if z=3 then (match l with | p :: q :: r=>some (⟨a,o,u2 p q,0,[],[]⟩,r) | _=>none)
 else if z=4 then (match l with | p :: q :: r=>some (⟨a,o,0,0,[a+s2 (u2 p q)],[]⟩,r) | _=>none)
 else if z=5 then (match l with | p :: q :: r=>some (⟨a,o,p,s1 q,[],[]⟩,r) | _=>none)
 else if z=6 then (match l with
  | p :: q :: b :: c :: d :: e :: f :: g :: r=>(ZhL a (u2 f g).toNat r).map fun x=>(⟨a,o,s4 (u4 b c d e),0,(a+s2 (u2 p q)) :: x.1,[]⟩,x.2)
  | _=>none)
 else if z=7 then (match l with
  | p :: q :: f :: g :: r=>(ZhD a (u2 f g).toNat r).map fun x=>(⟨a,o,0,0,(a+s2 (u2 p q)) :: x.2.1,x.1⟩,x.2.2)
  | _=>none)
 else some (⟨a,o,0,0,[],[]⟩,l)
def Zas (b:List Int) (at':Int):In × Int × Int :=
 if at'<0∨(b.length:Int)≤at'∨8192≤at' then (i0,0,9)
 else match b.drop at'.toNat with
  | []=>(i0,0,9)
  | o :: l=>if 89<o then (i0,0,60) else match body at' o l with
   | none=>(i0,0,3)
   | some (x,r)=>if mayI x=true then (x,b.length-r.length,0) else (i0,0,4)
theorem Zp3 {n:Int} (h:ZbO n=true):-2147483648≤n∧n≤2147483647:=of_decide_eq_true h
theorem Zgn {x:In} (h:mayI x=true):(0≤x.a∧x.a<8192∧0≤x.o∧x.o≤89)∧x.to.all (Zbh x.a)=true∧Zan x=true∧rise x.ks=true:=by
 unfold mayI at h
 rw [Bool.and_eq_true,Bool.and_eq_true,Bool.and_eq_true] at h
 exact⟨of_decide_eq_true h.1.1.1,h.1.1.2,h.1.2,h.2⟩
theorem Zl2 {a:Int}:∀ {n:Nat} {l:List Int} {x:List Int × List Int},(∀ c∈l,B8 c)→ZhL a n l=some x→x.1.length=n∧l=tos a x.1++x.2:=by
 intro n
 induction n with
 | zero =>
  intro l x _ h
  injection h with h
  subst h
  exact⟨rfl,rfl⟩
 | succ n ih =>
  intro l x hb h
  match l,h,hb with
  | p :: c :: l,h,hb =>
   simp only [ZhL] at h
   obtain⟨y,hy,he⟩:=Option.map_eq_some_iff.1 h
   subst he
   obtain⟨h1,h2⟩:=ih (fun z hz=>hb z (List.mem_cons_of_mem _ (List.mem_cons_of_mem _ hz))) hy
   refine⟨by simp [h1],?_⟩
   have e:a+s2 (u2 p c)-a=s2 (u2 p c):=by omega
   rw [tos,e,ZlO (hb p (by simp)) (hb c (by simp))]
   simp only [List.cons_append,List.nil_append]
   rw [← h2]
theorem ZlI {a:Int}:∀ {n:Nat} {l:List Int} {x:List Int × List Int × List Int},(∀ c∈l,B8 c)→ZhD a n l=some x→x.1.length=n∧x.2.1.length=n∧l=kts a x.1 x.2.1++x.2.2:=by
 intro n
 induction n with
 | zero =>
  intro l x _ h
  injection h with h
  subst h
  exact⟨rfl,rfl,rfl⟩
 | succ n ih =>
  intro l x hb h
  match l,h,hb with
  | b :: c :: d :: e :: p :: q :: l,h,hb =>
   simp only [ZhD] at h
   obtain⟨y,hy,he⟩:=Option.map_eq_some_iff.1 h
   subst he
   obtain⟨h1,h2,h3⟩:=ih (fun z hz=>hb z (by simp [hz])) hy
   refine⟨by simp [h1],by simp [h2],?_⟩
   have e2:a+s2 (u2 p q)-a=s2 (u2 p q):=by omega
   rw [kts,e2,ZlO (hb p (by simp)) (hb q (by simp)),Zta (hb b (by simp)) (hb c (by simp)) (hb d (by simp)) (hb e (by simp))]
   simp only [List.cons_append,List.nil_append]
   rw [← h3]
theorem Zm2 {a o:Int} {l:List Int} {x:In × List Int} (hb:∀ c∈l,B8 c) (h:body a o l=some x):x.1.a=a∧x.1.o=o∧l=ZoQ x.1++x.2:=by
 unfold body at h
 simp only at h
 unfold ZoQ
 simp only
 obtain⟨z,hz⟩:∃ z,z=Zad o:=⟨_,rfl⟩
 have hz7:=Zb2 o
 rw [← hz] at h
 have hc:z=0∨z=1∨z=2∨z=3∨z=4∨z=5∨z=6∨z=7:=by omega
 have hzz:=fun {y:In} (e:y.o=o)=>(show Zad y.o=z by rw [e,hz])
 clear hz7
 rcases hc with hc | hc | hc | hc | hc | hc | hc | hc
 ·rw [hc] at h
  simp at h
  subst h
  refine⟨rfl,rfl,?_⟩
  rw [hzz rfl,hc]
  simp
 ·rw [hc] at h
  match l,h,hb with
  | p :: l,h,hb =>
   simp at h
   subst h
   refine⟨rfl,rfl,?_⟩
   rw [hzz rfl,hc]
   have:=hb p (by simp)
   simp [Zsv (n:=p) (by unfold B8 at this;omega)]
 ·rw [hc] at h
  match l,h,hb with
  | p :: c :: l,h,hb =>
   simp at h
   subst h
   refine⟨rfl,rfl,?_⟩
   rw [hzz rfl,hc]
   simp [ZlO (hb p (by simp)) (hb c (by simp))]
 ·rw [hc] at h
  match l,h,hb with
  | p :: c :: l,h,hb =>
   simp at h
   subst h
   refine⟨rfl,rfl,?_⟩
   rw [hzz rfl,hc]
   simp [Zsk (hb p (by simp)) (hb c (by simp))]
 ·rw [hc] at h
  match l,h,hb with
  | p :: c :: l,h,hb =>
   simp at h
   subst h
   refine⟨rfl,rfl,?_⟩
   rw [hzz rfl,hc]
   have e:a+s2 (u2 p c)-a=s2 (u2 p c):=by omega
   simp [e,ZlO (hb p (by simp)) (hb c (by simp))]
 ·rw [hc] at h
  match l,h,hb with
  | p :: c :: l,h,hb =>
   simp at h
   subst h
   refine⟨rfl,rfl,?_⟩
   rw [hzz rfl,hc]
   have:=hb p (by simp)
   simp [Zsv (n:=p) (by unfold B8 at this;omega),ZtQ (hb c (by simp))]
 ·rw [hc] at h
  match l,h,hb with
  | p :: c :: b :: d :: e :: f :: g :: i :: l,h,hb =>
   simp at h
   obtain⟨y1,y2,hy,he⟩:=h
   subst he
   refine⟨rfl,rfl,?_⟩
   rw [hzz rfl,hc]
   obtain⟨h1,h2⟩:=Zl2 (fun z hz=>hb z (by simp [hz])) hy
   have hu:=Zn7 (hb g (by simp)) (hb i (by simp))
   have e1:a+s2 (u2 p c)-a=s2 (u2 p c):=by omega
   have e2:(y1.length:Int)=u2 g i:=by simp only at h1;omega
   simp only at h2
   simp [e1,e2,ZlO (hb p (by simp)) (hb c (by simp)),Zsk (hb g (by simp)) (hb i (by simp)),Zta (hb b (by simp)) (hb d (by simp)) (hb e (by simp)) (hb f (by simp)),← h2]
 ·rw [hc] at h
  match l,h,hb with
  | p :: c :: f :: g :: l,h,hb =>
   simp at h
   obtain⟨y1,y2,y3,hy,he⟩:=h
   subst he
   refine⟨rfl,rfl,?_⟩
   rw [hzz rfl,hc]
   obtain⟨h1,h2,h3⟩:=ZlI (fun z hz=>hb z (by simp [hz])) hy
   have hu:=Zn7 (hb f (by simp)) (hb g (by simp))
   have e1:a+s2 (u2 p c)-a=s2 (u2 p c):=by omega
   have e2:(y1.length:Int)=u2 f g:=by simp only at h1;omega
   simp only at h3
   simp [e1,e2,ZlO (hb p (by simp)) (hb c (by simp)),Zsk (hb f (by simp)) (hb g (by simp)),← h3]
theorem ZnX {b:List Int} {k:Int} (hb:∀ c∈b,B8 c) (h:(Zas b k).2.2=0):mayI (Zas b k).1=true∧0≤k∧(Zas b k).1.a=k∧k<(Zas b k).2.1∧(Zas b k).2.1≤b.length∧encB (Zas b k).1=(b.drop k.toNat).take ((Zas b k).2.1-k).toNat:=by
 unfold Zas at h ⊢
 by_cases h1:k<0∨(b.length:Int)≤k∨8192≤k
 ·rw [if_pos h1] at h;cases h
 ·rw [if_neg h1] at h ⊢
  have hbd:∀ c∈b.drop k.toNat,B8 c:=fun c hc=>hb c (List.mem_of_mem_drop hc)
  have hld:(b.drop k.toNat).length=b.length-k.toNat:=List.length_drop
  obtain⟨d,hd⟩:∃ d,d=b.drop k.toNat:=⟨_,rfl⟩
  rw [← hd] at h hbd hld ⊢
  match d,h,hbd,hld with
  | [],h,_,_=>cases h
  | o :: l,h,hbd,hld =>
   simp only at h ⊢
   by_cases h2:89<o
   ·rw [if_pos h2] at h;cases h
   ·rw [if_neg h2] at h ⊢
    cases hbo:body k o l with
    | none=>rw [hbo] at h;cases h
    | some y =>
     obtain⟨x,r⟩:=y
     rw [hbo] at h
     simp only at h ⊢
     by_cases h3:mayI x=true
     ·rw [if_pos h3]
      obtain⟨e1,e2,e3⟩:=Zm2 (fun c hc=>hbd c (List.mem_cons_of_mem _ hc)) hbo
      simp only at e1 e2 e3
      have hlen:=congrArg List.length e3
      rw [List.length_append] at hlen
      rw [List.length_cons] at hld
      refine⟨h3,by omega,e1,by simp only;omega,by simp only;omega,?_⟩
      have hn:((b.length:Int)-r.length-k).toNat=(ZoQ x).length+1:=by omega
      simp only
      rw [hn,List.take_succ_cons,e3,List.take_left,encB,e2]
     ·rw [if_neg h3] at h;cases h
def ZaQ (l:List In) (t:Int):Bool:=l.any fun x=>decide (x.a=t)
def cuts (b:List Int):Nat→Nat→List In × Int × Int
 | 0,_=>([],0,0)
 | n+1,k =>
  if k<b.length then
   if (Zas b k).2.2=0 then
    (if (cuts b n (Zas b k).2.1.toNat).2.2=0 then ((Zas b k).1 :: (cuts b n (Zas b k).2.1.toNat).1,0,0) else cuts b n (Zas b k).2.1.toNat)
   else ([],(k:Int),(Zas b k).2.2)
  else ([],0,0)
def cutF (b:List Int) (k:Nat):List In × Int × Int:=cuts b (b.length-k) k
def Zen (b:List Int):Prop:=∀ c∈b,B8 c
theorem ZnF {b:List Int}:∀ {n k:Nat},(cuts b n k).2.2≠0→(cuts b n k).1=[]:=by
 intro n
 induction n with
 | zero=>intro k h;rfl
 | succ n ih =>
  intro k h
  unfold cuts at h ⊢
  split at h <;> rename_i h1
  ·rw [if_pos h1]
   split at h <;> rename_i h2
   ·rw [if_pos h2]
    split at h <;> rename_i h3
    ·exact absurd rfl h
    ·rw [if_neg h3]
     exact ih h
   ·rw [if_neg h2]
  ·exact absurd rfl h
theorem Zgk {b:List Int}:∀ {n k:Nat},(cuts b n k).2.2=0→(cuts b n k).2.1=0:=by
 intro n
 induction n with
 | zero=>intro k h;rfl
 | succ n ih =>
  intro k h
  unfold cuts at h ⊢
  split at h <;> rename_i h1
  ·rw [if_pos h1]
   split at h <;> rename_i h2
   ·rw [if_pos h2]
    split at h <;> rename_i h3
    ·rw [if_pos h3]
    ·exact absurd h h3
   ·exact absurd h h2
  ·rw [if_neg h1]
theorem ZcK {b:List Int} (hb:Zen b) {k:Nat} (h:(Zas b k).2.2=0):∃ n:Nat,(Zas b k).2.1=n∧k<n∧n≤b.length:=by
 obtain⟨h1,h2,h3,h4,h5,h6⟩:=ZnX hb h
 exact⟨(Zas b k).2.1.toNat,by omega,by omega,by omega⟩
theorem ZmC {b:List Int} (hb:Zen b):∀ (n m k:Nat),b.length-k≤n→b.length-k≤m→cuts b n k=cuts b m k:=by
 intro n
 induction n with
 | zero =>
  intro m k h1 h2
  cases m with
  | zero=>rfl
  | succ m =>
   rw [cuts,cuts,if_neg (by omega)]
 | succ n ih =>
  intro m k h1 h2
  cases m with
  | zero=>rw [cuts,cuts,if_neg (by omega)]
  | succ m =>
   rw [cuts,cuts]
   by_cases hk:k<b.length
   ·rw [if_pos hk,if_pos hk]
    by_cases he:(Zas b k).2.2=0
    ·obtain⟨j,hj,hj1,hj2⟩:=ZcK hb he
     rw [hj,Int.toNat_natCast,ih m j (by omega) (by omega)]
    ·rw [if_neg he,if_neg he]
   ·rw [if_neg hk,if_neg hk]
theorem Zev {b:List Int} (hb:Zen b) {k j:Nat} {x:In} (hk:k<b.length) (h:Zas b k=(x,(j:Int),0)) :
 cutF b k=if (cutF b j).2.2=0 then (x :: (cutF b j).1,0,0) else cutF b j:=by
 have h0:(Zas b k).2.2=0:=by rw [h]
 obtain⟨i,hi,hi1,hi2⟩:=ZcK hb h0
 have hij:i=j:=by rw [h] at hi;simp only at hi;omega
 subst hij
 unfold cutF
 rw [show b.length-k=(b.length-k-1)+1 by omega,cuts,if_pos hk,if_pos h0,hi,Int.toNat_natCast,h,ZmC hb (b.length-k-1) (b.length-i) i (by omega) (by omega)]
theorem Zfu {b:List Int} {k:Nat} (hk:k<b.length) (h:(Zas b k).2.2≠0):cutF b k=([],(k:Int),(Zas b k).2.2):=by
 unfold cutF
 rw [show b.length-k=(b.length-k-1)+1 by omega,cuts,if_pos hk,if_neg h]
theorem ZhZ {b:List Int} {k:Nat} (hk:b.length≤k):cutF b k=([],0,0):=by
 unfold cutF
 rw [show b.length-k=0 by omega,cuts]
def Come (b:List Int) (R:List In × Int × Int) (acc:List In) (k:Nat):Prop:=R=if (cutF b k).2.2=0 then (acc++(cutF b k).1,0,0) else cutF b k
theorem Come.start (b:List Int):Come b (cutF b 0) [] 0:=by
 unfold Come
 split
 ·rename_i h
  have h1:(cutF b 0).2.1=0:=Zgk h
  rw [List.nil_append]
  exact Prod.ext rfl (Prod.ext h1 h)
 ·rfl
theorem Come.next {b:List Int} (hb:Zen b) {R:List In × Int × Int} {acc:List In} {k j:Nat} {x:In} (h:Come b R acc k) (hk:k<b.length) (hd:Zas b k=(x,(j:Int),0)):Come b R (acc++[x]) j:=by
 unfold Come at *
 rw [Zev hb hk hd] at h
 by_cases h2:(cutF b j).2.2=0
 ·rw [if_pos h2] at h ⊢
  rw [h]
  simp
 ·rw [if_neg h2,if_neg h2] at h
  rw [if_neg h2]
  exact h
theorem Come.end_ {b:List Int} {R:List In × Int × Int} {acc:List In} {k:Nat} (h:Come b R acc k) (hk:b.length≤k):R=(acc,0,0):=by
 unfold Come at h
 rw [ZhZ hk] at h
 simpa using h
theorem Come.bad {b:List Int} {R:List In × Int × Int} {acc:List In} {k:Nat} (h:Come b R acc k) (hk:k<b.length) (he:(Zas b k).2.2≠0):R=([],(k:Int),(Zas b k).2.2):=by
 unfold Come at h
 rw [Zfu hk he,if_neg he] at h
 exact h
def Zaj (p:In→Bool):List In→Int × Bool
 | []=>(0,false)
 | x :: l=>if p x=true then Zaj p l else (x.a,true)
theorem ZiE {p:In→Bool}:∀ {l:List In},(Zaj p l).2=false→∀ x∈l,p x=true:=by
 intro l
 induction l with
 | nil=>intro _ x hx;cases hx
 | cons y l ih =>
  intro h x hx
  unfold Zaj at h
  split at h <;> rename_i h1
  ·rcases List.mem_cons.1 hx with rfl | hx
   ·exact h1
   ·exact ih h x hx
  ·cases h
theorem ZcR {p:In→Bool} {l:List In} {k:Nat} (h:k<l.length) (hp:p (l.getD k i0)=true):Zaj p (l.drop k)=Zaj p (l.drop (k+1)):=by
 have e:l.getD k i0=l[k]:=by simp [h]
 rw [e] at hp
 rw [List.drop_eq_getElem_cons h,Zaj,if_pos hp]
theorem Zc2 {p:In→Bool} {l:List In} {k:Nat} (h:k<l.length) (hp:p (l.getD k i0)=false):Zaj p (l.drop k)=((l.getD k i0).a,true):=by
 have e:l.getD k i0=l[k]:=by simp [h]
 rw [List.drop_eq_getElem_cons h,Zaj,e]
 rw [e] at hp
 rw [if_neg (by rw [hp];simp)]
def good (l:List In) (x:In):Bool:=x.to.all (ZaQ l)
def cutL (R:List In × Int × Int):List In × Int × Int :=
 if R.2.2=0 then
  if (Zaj (good R.1) R.1).2=true then ([],(Zaj (good R.1) R.1).1,70)
  else if Zbe (R.1.getD (R.1.length-1) i0).o=true then (R.1,0,0) else ([],(R.1.getD (R.1.length-1) i0).a,70)
 else ([],R.2.1,R.2.2)
def cutZ (b:List Int):List In × Int × Int:=if 8192<b.length then ([],0,5) else if b.length=0 then ([],0,70) else cutL (cutF b 0)
theorem ZhJ {b:List Int} (hb:Zen b):∀ (n k:Nat),b.length-k=n→(cutF b k).2.2=0→∀ x∈(cutF b k).1,mayI x=true∧(k:Int)≤x.a∧x.a<b.length:=by
 intro n
 induction n using Nat.strongRecOn with
 | ind n ih =>
  intro k hn h x hx
  by_cases hk:k<b.length
  ·by_cases he:(Zas b k).2.2=0
   ·obtain⟨j,hj,hj1,hj2⟩:=ZcK hb he
    obtain⟨h1,h2,h3,h4,h5,h6⟩:=ZnX hb he
    have hd:Zas b k=((Zas b k).1,(j:Int),0):=Prod.ext rfl (Prod.ext hj he)
    rw [Zev hb hk hd] at h hx
    split at h <;> rename_i h7
    ·rw [if_pos h7] at hx
     simp only at hx
     rcases List.mem_cons.1 hx with rfl | hx
     ·exact⟨h1,by omega,by omega⟩
     ·obtain⟨q1,q2,q3⟩:=ih (b.length-j) (by omega) j rfl h7 x hx
      exact⟨q1,by omega,q3⟩
    ·exact absurd h h7
   ·rw [Zfu hk he] at h
    exact absurd h he
  ·rw [ZhZ (by omega)] at hx
   cases hx
theorem Zk6 {b:List Int} (hb:Zen b) (h0:0<b.length) (h:(cutF b 0).2.2=0):0<(cutF b 0).1.length:=by
 by_cases he:(Zas b (0:Nat)).2.2=0
 ·obtain⟨j,hj,hj1,hj2⟩:=ZcK hb he
  have hd:Zas b (0:Nat)=((Zas b (0:Nat)).1,(j:Int),0):=Prod.ext rfl (Prod.ext hj he)
  rw [Zev hb h0 hd] at h ⊢
  split at h <;> rename_i h7
  ·rw [if_pos h7]
   simp
  ·exact absurd h h7
 ·rw [Zfu h0 he] at h
  exact absurd h he
theorem Zqa {b:List Int} (hb:Zen b):∀ (n k:Nat),b.length-k=n→(cutF b k).1.length≤n:=by
 intro n
 induction n using Nat.strongRecOn with
 | ind n ih =>
  intro k hn
  by_cases hk:k<b.length
  ·by_cases he:(Zas b k).2.2=0
   ·obtain⟨j,hj,hj1,hj2⟩:=ZcK hb he
    have hd:Zas b k=((Zas b k).1,(j:Int),0):=Prod.ext rfl (Prod.ext hj he)
    have:=ih (b.length-j) (by omega) j rfl
    rw [Zev hb hk hd]
    split
    ·simp;omega
    ·omega
   ·rw [Zfu hk he];simp
  ·rw [ZhZ (by omega)];simp
theorem ZeZ {b:List Int} (h:(cutZ b).2.2=0):b.length≤8192∧0<b.length∧cutF b 0=cutZ b∧(∀ x∈(cutZ b).1,good (cutZ b).1 x=true)∧Zbe ((cutZ b).1.getD ((cutZ b).1.length-1) i0).o=true:=by
 unfold cutZ at h ⊢
 split at h <;> rename_i h1
 ·cases h
 ·rw [if_neg h1]
  split at h <;> rename_i h2
  ·cases h
  ·rw [if_neg h2]
   unfold cutL at h ⊢
   split at h <;> rename_i h3
   ·rw [if_pos h3]
    split at h <;> rename_i h4
    ·cases h
    ·rw [if_neg h4]
     split at h <;> rename_i h5
     ·rw [if_pos h5]
      refine⟨by omega,by omega,Prod.ext rfl (Prod.ext (Zgk h3) h3),ZiE (by simpa using h4),h5⟩
     ·cases h
   ·exact absurd h h3
theorem Zem {b:List Int} (h:(cutZ b).2.2≠0):(cutZ b).1=[]:=by
 unfold cutZ at h ⊢
 split at h <;> rename_i h1
 ·rw [if_pos h1]
 ·rw [if_neg h1]
  split at h <;> rename_i h2
  ·rw [if_pos h2]
  ·rw [if_neg h2]
   unfold cutL at h ⊢
   split at h <;> rename_i h3
   ·rw [if_pos h3]
    split at h <;> rename_i h4
    ·rw [if_pos h4]
    ·rw [if_neg h4]
     split at h <;> rename_i h5
     ·exact absurd rfl h
     ·rw [if_neg h5]
   ·rw [if_neg h3]
theorem Zpa {b:List Int} (hb:Zen b):∀ x∈(cutZ b).1,mayI x=true∧0≤x.a∧x.a<b.length:=by
 intro x hx
 by_cases h:(cutZ b).2.2=0
 ·obtain⟨_,_,h3,_⟩:=ZeZ h
  rw [← h3] at h hx
  have:=ZhJ hb _ 0 rfl h x hx
  exact⟨this.1,by omega,this.2.2⟩
 ·rw [Zem h] at hx
  cases hx
theorem Zp9 {b:List Int} (hb:Zen b):(cutZ b).1.length≤8192:=by
 by_cases h:(cutZ b).2.2=0
 ·obtain⟨h1,_,h3,_⟩:=ZeZ h
  rw [← h3]
  have:=Zqa hb _ 0 rfl
  omega
 ·rw [Zem h];simp
def ZdT (t:Int):List In→Nat→Int × Bool
 | [],_=>(0,false)
 | x :: l,i=>if x.a=t then ((i:Int),true) else ZdT t l (i+1)
def ZiA (l:List In) (t:Int):Int × Bool:=ZdT t l 0
theorem ZjJ {t:Int} {l:List In} {k:Nat} (h:k<l.length) (hp:¬ (l.getD k i0).a=t):ZdT t (l.drop k) k=ZdT t (l.drop (k+1)) (k+1):=by
 have e:l.getD k i0=l[k]:=by simp [h]
 rw [e] at hp
 rw [List.drop_eq_getElem_cons h,ZdT,if_neg hp]
theorem Zj0 {t:Int} {l:List In} {k:Nat} (h:k<l.length) (hp:(l.getD k i0).a=t):ZdT t (l.drop k) k=((k:Int),true):=by
 have e:l.getD k i0=l[k]:=by simp [h]
 rw [e] at hp
 rw [List.drop_eq_getElem_cons h,ZdT,if_pos hp]
theorem Zlt {t:Int}:∀ {l:List In} {k:Nat},(ZdT t l k).2=ZaQ l t:=by
 intro l
 induction l with
 | nil=>intro k;rfl
 | cons x l ih =>
  intro k
  unfold ZdT
  have e:ZaQ (x :: l) t=(decide (x.a=t) || ZaQ l t):=by simp [ZaQ]
  rw [e]
  by_cases h:x.a=t
  ·rw [if_pos h,decide_eq_true h]
   rfl
  ·rw [if_neg h,decide_eq_false h,Bool.false_or]
   exact ih
theorem hasAt_iff {l:List In} {t:Int}:ZaQ l t=true↔∃ x∈l,x.a=t:=by simp [ZaQ]
end Go.Proofs.YtclamhhgldkhnaaGreatDoor
namespace Go.Proofs.YtclamhhgldkhnaaGreatDoor
open Go.RowKit
set_option linter.unusedVariables false
structure Shp (α:Type) where
 T:TypeId
 n:Nat
 vals:α→Array Value
 zero:α
 nest:World→α→Prop
 nestO:Nat→World→α→Prop
 pos:0<n
 size:∀ x,(vals x).size=n
 one:∀ {w x},nest w x→∀ u∈(vals x).toList,u.oneCell'=true
 ext:∀ {w w' x},nest w x→Ext w w'→nest w' x
 extO:∀ {B w w' x},nestO B w x→Ext w w'→nestO B w' x
 low:∀ {B w x},nestO B w x→nest w x
 kept:∀ {B w w' x row},nestO B w x→w.grownBy w' row→(∀ g,row=some g→∃ c z,w.heap[g]?=some (.cells c T z))→nestO B w' x
section
variable {α : Type} (S : Shp α)
def Shp.el (l:List α) (j:Nat):α:=l.getD j S.zero
def Shp.At (w:World) (b o:Nat) (x:α):Prop:=∀ i,i<S.n→w.cell? ⟨b,o+i,none⟩=(S.vals x)[i]?
def Shp.Row (w:World) (v:Value) (l:List α):Prop :=
 ∃ (A:Option Addr) (c:Nat),v=.slice A l.length c∧l.length≤c∧c≤maxLen∧(A=none→c=0) ∧
  (0<l.length→∃ b o,A=some ⟨b,o,none⟩∧b<w.heap.size∧∀ j,j<l.length→S.At w b (o+j*S.n) (S.el l j))∧∀ x∈l,S.nest w x
def Shp.Own (B:Nat) (w:World) (v:Value) (l:List α):Prop:=w.ownsRow B S.T S.n v l.length (l.flatMap fun x=>(S.vals x).toList)∧∀ x∈l,S.nestO B w x
end
section
variable {α : Type} {S : Shp α} {w w' : World} {B : Nat} {v : Value} {l : List α}
theorem Shp.At.ext {b o:Nat} {x:α} (h:S.At w b o x) (he:Ext w w') (hb:b<w.heap.size):S.At w' b o x:=fun i hi=>(he.cell (p:=⟨b,o+i,none⟩) hb).trans (h i hi)
theorem Shp.Row.ext (h:S.Row w v l) (he:Ext w w'):S.Row w' v l:=by
 obtain⟨A,c,h1,h2,h3,h4,h6,h7⟩:=h
 refine⟨A,c,h1,h2,h3,h4,fun hl=>?_,fun e hm=>S.ext (h7 e hm) he⟩
 obtain⟨b,o,ha,hb,hc⟩:=h6 hl
 exact⟨b,o,ha,Nat.lt_of_lt_of_le hb he.size,fun j hj=>(hc j hj).ext he hb⟩
theorem Shp.Row.nil (S:Shp α) (w:World):S.Row w (.slice none 0 0) []:=⟨none,0,rfl,Nat.le_refl _,by simp [maxLen],fun _=>rfl,fun h=>by simp at h,fun _ h=>by cases h⟩
theorem Shp.el_mem {j:Nat} (h:j<l.length):S.el l j∈l:=by
 unfold Shp.el
 rw [List.getD_eq_getElem?_getD,List.getElem?_eq_getElem h]
 exact List.getElem_mem h
theorem Shp.el_get {j:Nat} (h:j<l.length):S.el l j=l[j]:=by
 unfold Shp.el
 rw [List.getD_eq_getElem?_getD,List.getElem?_eq_getElem h]
 rfl
theorem Shp.el_of_mem {x:α} (h:x∈l):∃ i,i<l.length∧S.el l i=x:=by
 obtain⟨i,hi,he⟩:=List.mem_iff_getElem.1 h
 exact⟨i,hi,by rw [S.el_get hi,he]⟩
theorem Shp.Row.cut (h:S.Row w v l):∃ A c,v=.slice A l.length c∧l.length≤c∧c≤maxLen∧(A=none→c=0):=by
 obtain⟨A,c,h1,h2,h3,h4,-⟩:=h
 exact⟨A,c,h1,h2,h3,h4⟩
theorem Shp.Row.at {A:Option Addr} {n c:Nat} (h:S.Row w (.slice A n c) l) (hl:0<l.length) :
 ∃ b o,A=some ⟨b,o,none⟩∧∀ W,Ext w W→∀ j,j<l.length→S.At W b (o+j*S.n) (S.el l j)∧S.nest W (S.el l j):=by
 obtain⟨A',c',h1,h2,h3,h4,h6,h7⟩:=h
 obtain⟨b,o,rfl,hb,hc⟩:=h6 hl
 injection h1 with e1 e2 e3
 subst e1 e2 e3
 exact⟨b,o,rfl,fun W e j hj=>⟨(hc j hj).ext e hb,S.ext (h7 _ (S.el_mem hj)) e⟩⟩
theorem Shp.Row.low (h:S.Row w v l):∀ x∈l,S.nest w x:=by
 obtain⟨A,c,h1,h2,h3,h4,h6,h7⟩:=h
 exact h7
theorem Shp.flat_len (l:List α):(l.flatMap fun x=>(S.vals x).toList).length=l.length*S.n:=by
 induction l with
 | nil=>simp
 | cons x l ih=>rw [List.flatMap_cons,List.length_append,ih,Array.length_toList,S.size,List.length_cons,Nat.add_mul];omega
theorem Shp.flat_at:∀ (l:List α) (j i:Nat),j<l.length→i<S.n→(l.flatMap fun x=>(S.vals x).toList)[j*S.n+i]?=(S.vals (S.el l j))[i]?:=by
 intro l
 induction l with
 | nil=>intro j i h;simp at h
 | cons x l ih =>
  intro j i hj hi
  rw [List.flatMap_cons]
  match j with
  | 0 =>
   rw [List.getElem?_append_left (by rw [Array.length_toList,S.size];omega)]
   simp [Shp.el]
  | j+1 =>
   have e:(j+1)*S.n+i=S.n+(j*S.n+i):=by rw [Nat.add_mul];omega
   rw [List.getElem?_append_right (by rw [Array.length_toList,S.size];omega),Array.length_toList,S.size,show (j+1)*S.n+i-S.n=j*S.n+i by omega,ih j i (by simpa using hj) hi]
   simp [Shp.el]
theorem Shp.Own.row (h:S.Own B w v l):S.Row w v l:=by
 obtain⟨⟨h1,h2⟩,hf⟩:=h
 have hf':∀ e∈l,S.nest w e:=fun e he=>S.low (hf e he)
 rcases h2 with⟨rfl,h0⟩ | ⟨g,cap,cur,rfl,hb,hg,hn,hm,hs,ht⟩
 ·exact⟨none,0,by rw [h0],by omega,by simp [maxLen],fun _=>rfl,fun hp=>by omega,hf'⟩
 ·refine⟨_,_,rfl,hn,hm,(fun h=>by cases h),fun _=>⟨g,0,rfl,Zab hg,fun j hj i hi=>?_⟩,hf'⟩
  have hlt:j*S.n+i<l.length*S.n:=by
   have:=Nat.mul_le_mul_right S.n (show j+1≤l.length from hj)
   rw [Nat.add_mul] at this
   omega
  have e1:=S.flat_at l j i hj hi
  rw [← ht,List.getElem?_take_of_lt hlt] at e1
  rw [cell_of_row w g _ cur S.T (0,0) hg,← e1]
  simp
theorem Shp.Own.nil (S:Shp α) (B:Nat) (w:World):S.Own B w (.slice none 0 0) []:=⟨World.ownsRow_nil w B S.T S.n,fun _ h=>by cases h⟩
theorem Shp.Own.ext (h:S.Own B w v l) (he:Ext w w'):S.Own B w' v l:=by
 obtain⟨⟨h1,h2⟩,hf⟩:=h
 refine⟨⟨h1,?_⟩,fun e hm=>S.extO (hf e hm) he⟩
 rcases h2 with h2 | ⟨g,cap,cur,hv,hb,hg,hr⟩
 ·exact .inl h2
 ·exact .inr ⟨g,cap,cur,hv,hb,(he.block g (Zab hg)).trans hg,hr⟩
theorem Shp.Own.low (h:S.Own B w v l):∀ g,v.ownBlock=some g→B≤g:=fun g hg=>(World.ownsRow.lt h.1 g hg).1
theorem Shp.Own.slice (h:S.Own B w v l):∃ A c,v=.slice A l.length c∧l.length≤c∧c≤maxLen:=by
 obtain⟨A,c,h1,h2,h3,-⟩:=h.row.cut
 exact⟨A,c,h1,h2,h3⟩
theorem Shp.Own.typed (h:S.Own B w v l):∀ g,v.ownBlock=some g→∃ c z,w.heap[g]?=some (.cells c S.T z):=by
 intro g hg
 rcases h.1.2 with⟨rfl,_⟩ | ⟨g',cap,cur,rfl,_,hg',_⟩
 ·cases hg
 ·injection hg with hg
  subst hg
  exact⟨_,_,hg'⟩
theorem Shp.Own.ne (h:S.Own B w v l) {g:Nat} {c:Array Value} {T:TypeId} {z:Nat × Nat} (hg:w.heap[g]?=some (.cells c T z)) (hT:T≠S.T):v.ownBlock≠some g:=by
 intro e
 obtain⟨c',z',h'⟩:=h.typed g e
 rw [hg] at h'
 injection h' with h'
 injection h' with h1 h2 h3
 exact hT h2
theorem Shp.Own.kept (h:S.Own B w v l) {row:Option Nat} (hg:w.grownBy w' row) (hne:∀ g,v.ownBlock=some g→row≠some g) (hf:∀ x∈l,S.nestO B w x→S.nestO B w' x):S.Own B w' v l:=by
 obtain⟨⟨h1,h2⟩,h3⟩:=h
 refine⟨⟨h1,?_⟩,fun e he=>hf e he (h3 e he)⟩
 rcases h2 with h2 | ⟨g,cap,cur,hv,hb,hg',hr'⟩
 ·exact .inl h2
 ·refine .inr ⟨g,cap,cur,hv,hb,(hg.block g (Zab hg') ?_).trans hg',hr'⟩
  exact fun e=>hne g (by rw [hv];rfl) e.symm
theorem Shp.flat_one (h:∀ x∈l,S.nest w x):∀ u∈(l.flatMap fun x=>(S.vals x).toList),u.oneCell'=true:=by
 intro u hu
 obtain⟨x,hm,hx⟩:=List.mem_flatMap.1 hu
 exact S.one (h x hm) u hx
theorem Shp.Row.single {g:Nat} {T:TypeId} {x:α} (h:w.heap[g]?=some (.cells (S.vals x) T (0,0))) (hx:S.nest w x):S.Row w (.slice (some ⟨g,0,none⟩) 1 1) [x]:=by
 refine⟨_,_,rfl,Nat.le_refl _,by simp [maxLen],(fun h=>by cases h),fun _=>⟨g,0,rfl,Zab h,fun j hj i hi=>?_⟩,fun e he=>by rw [List.mem_singleton.1 he];exact hx⟩
 have:j=0:=by simp at hj;omega
 subst this
 rw [cell_of_row w g _ _ T (0,0) h]
 simp [Shp.el]
theorem Shp.run_app {P:Program} (w:World) (B:Nat) (t ty:TypeId) (z:Value) (bytes:Nat) (ht:P.underlying t=some (.slice S.T))
 (hi:(P.info? S.T).map (fun i=>(i.zero,i.size,i.bytes))=some (some z,S.n,bytes)) (hz:z.cells.size=S.n)
 (v:Value) (l:List α) (ho:S.Own B w v l) (x:Value) (m:List α) (hr:S.Row w x m) (hmo:∀ e∈m,S.nestO B w e)
 (hb:(l.length+m.length)*bytes≤140737488355328) (hb1:1≤bytes) (hB:B≤w.heap.size) :
 ∃ v' w',(Builtin.append_ #[t,t] ty #[v,x]).run P w=.ok v' w'∧S.Own B w' v' (l++m)∧w.grownBy w' v.ownBlock∧(v'.ownBlock=v.ownBlock∨v'.ownBlock=some w.heap.size):=by
 obtain⟨i,hi1,hi2,hi3,hi4⟩:=info_parts hi
 obtain⟨A,c,rfl,h2,h3,h4,h6,h7⟩:=hr
 have hlen:l.length+m.length≤140737488355328:=Nat.le_trans (Nat.le_mul_of_pos_right _ (by omega)) hb
 rcases A with _ | ad
 ·have hc:=h4 rfl
  have hm:m=[]:=List.eq_nil_of_length_eq_zero (by omega)
  subst hm
  refine⟨v,w,?_,by simpa using ho,World.grownBy.refl w _,.inl rfl⟩
  rcases ho.1.2 with⟨rfl,_⟩ | ⟨g,cap,cur,rfl,_,_,hnc,_⟩
  ·simp [Builtin.append_,run_underlying ht,sizeOf,typeInfo,hi1,Builtin.lenOf,Builtin.firstCells]
  ·simp [Builtin.append_,run_underlying ht,sizeOf,typeInfo,hi1,Builtin.lenOf,Builtin.firstCells,hnc,storeCells]
 ·have hcells:∀ j u,(m.flatMap fun x=>(S.vals x).toList)[j]?=some u→w.cell? (ad.add j)=some u:=by
   intro j u hu
   have hj:j<m.length*S.n:=by
    have:=(List.getElem?_eq_some_iff.1 hu).1
    rwa [S.flat_len] at this
   have hp:=S.pos
   have hm0:0<m.length:=by
    rcases Nat.eq_zero_or_pos m.length with h | h
    ·rw [h] at hj;omega
    ·exact h
   obtain⟨b,o,hA,_,hc⟩:=h6 hm0
   injection hA with hA
   subst hA
   have hq:j/S.n<m.length:=by rw [Nat.div_lt_iff_lt_mul hp];exact hj
   have hr:=Nat.mod_lt j hp
   have he:j=j/S.n*S.n+j%S.n:=by have:=Nat.div_add_mod j S.n;rw [Nat.mul_comm] at this;omega
   rw [he,S.flat_at m _ _ hq hr] at hu
   have:=hc _ hq _ hr
   rw [Addr.add_lit,← hu,← this]
   congr 2
   omega
  obtain⟨v',w',hrun,k2,k3,_,k5⟩:=run_append_own_at (P:=P) w B t ty S.T i z S.n bytes ht hi1 hi2 hi3 hi4 hz S.pos v l.length (l.flatMap fun x=>(S.vals x).toList) ho.1 ad m.length c (m.flatMap fun x=>(S.vals x).toList) (S.flat_len m) hcells (S.flat_one h7) (by simp only [maxLen];omega) hb hB
  refine⟨v',w',hrun,⟨?_,fun e he=>?_⟩,k3,k5⟩
  ·rw [List.flatMap_append,List.length_append]
   exact k2
  ·exact S.kept ((List.mem_append.1 he).elim (ho.2 e) (hmo e)) k3 ho.typed
theorem Shp.wpList_app {P:Program} (S:Shp α) (w:World) {ops:Array Oper} {rest:List Oper} {o:Oper} {a:Act} {Q:Exit→Act→World→Prop} (hgd:Region.wanted o (yielded ops a.tmps)=true) (s y:Operand) (B:Nat) (t:TypeId) (z:Value) (bytes:Nat)
 (hop:o.op=.call { callee:=.builtin .append,args:=#[s,y],argTypes:=#[t,t] }) (ht:P.underlying t=some (.slice S.T))
 (hi:(P.info? S.T).map (fun i=>(i.zero,i.size,i.bytes))=some (some z,S.n,bytes)) (hz:z.cells.size=S.n) (hb1:1≤bytes)
 (v:Value) (l:List α) (hs:a.eval s=v) (ho:S.Own B w v l) (x:Value) (m:List α) (hx:a.eval y=x) (hr:S.Row w x m) (hmo:∀ e∈m,S.nestO B w e)
 (hb:(l.length+m.length)*bytes≤140737488355328) (hB:B≤w.heap.size)
 (h:∀ v' w',S.Own B w' v' (l++m)→w.grownBy w' v.ownBlock→(v'.ownBlock=v.ownBlock∨v'.ownBlock=some w.heap.size)→wpList P ops Q rest (a.put o.dst v') w') :
 wpList P ops Q (o :: rest) a w:=by
 refine wpList_step fun K hK=>?_
 rw [if_pos hgd]
 obtain⟨v',w',hrun,h2,h3,h4⟩:=S.run_app (P:=P) w B t o.type z bytes ht hi hz v l ho x m hr hmo hb hb1 hB
 unfold Oper.wp execOp
 simp only [hop,resolve,invoke,builtin,Sem.run_bind,Sem.run_pure,Result.andThen_ok,List.map_toArray,List.map_cons,List.map_nil,hs,hx,hrun]
 exact hK _ _ (h v' w' h2 h3 h4)
end
end Go.Proofs.YtclamhhgldkhnaaGreatDoor
