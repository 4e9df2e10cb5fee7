/- Several texts of this proof, one behind the other. -/
import Derived.Test.YtclamhhgldkhnaaGreatDoorZwA
import Derived.Lib.ValidLaws
namespace Go.Proofs.YtclamhhgldkhnaaGreatDoor
open Go.Lib
set_option linter.unusedVariables false
set_option maxHeartbeats 16000000
def Sc (c:Int):Prop:=(0≤c∧c<55296)∨(57343<c∧c≤1114111)
instance (c:Int):Decidable (Sc c):=by unfold Sc;infer_instance
theorem Sc.lo {c:Int} (h:Sc c):0≤c:=by unfold Sc at h;omega
theorem Sc.hi {c:Int} (h:Sc c):c≤1114111:=by unfold Sc at h;omega
theorem ZbJ (c:Int):validRune c=true↔Sc c:=by
 unfold validRune Sc
 rw [decide_eq_true_iff]
def th (c:Int):List Int:=[224+c/4096,128+c/64%64,128+c%64]
def ch (c:Int):List Int :=
 if 1≤c∧c≤127 then [c] else if c≤2047 then [192+c/64,128+c%64] else if c≤65535 then th c else th (55296+(c-65536)/1024)++th (56320+(c-65536)%1024)
theorem ch1 {c:Int} (h:1≤c∧c≤127):ch c=[c]:=by unfold ch;rw [if_pos h]
theorem ch2 {c:Int} (h:¬ (1≤c∧c≤127)) (h2:c≤2047):ch c=[192+c/64,128+c%64]:=by unfold ch;rw [if_neg h,if_pos h2]
theorem ch3 {c:Int} (h2:2047<c) (h3:c≤65535):ch c=th c:=by unfold ch;rw [if_neg (by omega),if_neg (by omega),if_pos h3]
theorem ch6 {c:Int} (h3:65535<c):ch c=th (55296+(c-65536)/1024)++th (56320+(c-65536)%1024):=by unfold ch;rw [if_neg (by omega),if_neg (by omega),if_neg (by omega)]
theorem Zqj {P:Int→List Int→Prop} (c:Int) (h0:0≤c) (hc:c≤1114111)
 (c1:1≤c→c≤127→P c [c]) (c2:(c=0∨128≤c)→c≤2047→P c [192+c/64,128+c%64]) (c3:2048≤c→c≤65535→P c [224+c/4096,128+c/64%64,128+c%64])
 (c6:65536≤c→P c [224+(55296+(c-65536)/1024)/4096,128+(55296+(c-65536)/1024)/64%64,128+(55296+(c-65536)/1024)%64,224+(56320+(c-65536)%1024)/4096,128+(56320+(c-65536)%1024)/64%64,128+(56320+(c-65536)%1024)%64]):P c (ch c):=by
 by_cases h1:1≤c∧c≤127
 ·rw [ch1 h1];exact c1 h1.1 h1.2
 ·by_cases h2:c≤2047
  ·rw [ch2 h1 h2];exact c2 (by omega) h2
  ·by_cases h3:c≤65535
   ·rw [ch3 (by omega) h3];exact c3 (by omega) h3
   ·rw [ch6 (by omega)];exact c6 (by omega)
theorem Zfe (c:Int):1≤(ch c).length∧(ch c).length≤6:=by
 unfold ch th
 split
 ·simp
 ·split
  ·simp
  ·split <;> simp
def Zea:Nat→List UInt8→List Int
 | 0,_=>[]
 | n+1,l=>if l=[] then [] else ((decodeL l).1:Int) :: Zea n (l.drop (decodeL l).2)
def Zci (l:List UInt8):List Int:=Zea l.length l
theorem ZcX:∀ n,Zea n []=[]
 | 0=>rfl
 | _+1=>by simp [Zea]
theorem Ze9:∀ (n m:Nat) (l:List UInt8),l.length≤n→l.length≤m→Zea n l=Zea m l
 | 0,m,l,hn,_=>by
  have:l=[]:=List.eq_nil_of_length_eq_zero (by omega)
  subst this
  rw [ZcX,ZcX]
 | n+1,0,l,_,hm=>by
  have:l=[]:=List.eq_nil_of_length_eq_zero (by omega)
  subst this
  rw [ZcX,ZcX]
 | n+1,m+1,l,hn,hm=>by
  unfold Zea
  by_cases hne:l=[]
  ·simp [hne]
  ·have hw:=decodeL_width l
   have hl:0<l.length:=List.length_pos_iff.2 hne
   rw [if_neg hne,if_neg hne,Ze9 n m (l.drop (decodeL l).2) (by rw [List.length_drop];omega) (by rw [List.length_drop];omega)]
theorem Zgi:Zci []=[]:=rfl
theorem Zcz (l:List UInt8) (hne:l≠[]):Zci l=((decodeL l).1:Int) :: Zci (l.drop (decodeL l).2):=by
 have hl:0<l.length:=List.length_pos_iff.2 hne
 have hw:=decodeL_width l
 obtain⟨n,hn⟩:∃ n,l.length=n+1:=⟨l.length-1,by omega⟩
 unfold Zci
 rw [hn]
 show (if l=[] then [] else _)=_
 rw [if_neg hne,Ze9 n (l.drop (decodeL l).2).length _ (by rw [List.length_drop];omega) (Nat.le_refl _)]
theorem ZgX (l:List UInt8):Sc ((decodeL l).1:Int):=by
 rw [decodeL_N]
 have k0:=(l.getD 0 0).toNat_lt
 rcases decodeN_shape l.length (l.getD 0 0).toNat (l.getD 1 0).toNat (l.getD 2 0).toNat (l.getD 3 0).toNat with⟨c,e⟩ | ⟨c1,c2,c3,cv,e⟩ | ⟨c1,c2,c3,c4,cv,cs,e⟩ | ⟨c1,c2,c3,c4,c5,cv,cw,e⟩ | e
 all_goals
  rw [e]
  unfold Sc
  dsimp only
  omega
theorem Zqe (l:List UInt8):∀ c∈Zci l,Sc c:=by
 obtain⟨n,hn⟩:∃ n,l.length≤n:=⟨_,Nat.le_refl _⟩
 induction n generalizing l with
 | zero =>
  have:l=[]:=List.eq_nil_of_length_eq_zero (by omega)
  subst this
  intro c hc;cases hc
 | succ n ih =>
  by_cases hne:l=[]
  ·subst hne;intro c hc;cases hc
  ·rw [Zcz l hne]
   have hw:=decodeL_width l
   have hl:0<l.length:=List.length_pos_iff.2 hne
   intro c hc
   rcases List.mem_cons.1 hc with rfl | hc
   ·exact ZgX l
   ·exact ih _ (by rw [List.length_drop];omega) c hc
def mu (cs:List Int):List Int:=cs.flatMap ch
def utf (cs:List Int):List UInt8:=cs.flatMap encodeRune
def encZ (l:List UInt8):List Int:=mu (Zci l)
theorem Zd1 (c:Int) (cs:List Int):mu (c :: cs)=ch c++mu cs:=rfl
theorem Zny (a b:List Int):mu (a++b)=mu a++mu b:=by simp [mu]
theorem Zgo (a:List Int) (c:Int):mu (a++[c])=mu a++ch c:=by simp [mu]
theorem Zhx (c:Int) (cs:List Int):utf (c :: cs)=encodeRune c++utf cs:=rfl
theorem Zpn (a:List Int) (c:Int):utf (a++[c])=utf a++encodeRune c:=by simp [utf]
theorem ZgH (c:Int):1≤(encodeRune c).length∧(encodeRune c).length≤4:=by
 unfold encodeRune
 rw [List.length_map]
 exact encodeRuneZ_length c
theorem ZtZ {c:Int} (h:Sc c):(encodeRune c).length≤(ch c).length∧(ch c).length≤2*(encodeRune c).length:=by
 unfold encodeRune
 rw [List.length_map]
 unfold Sc at h
 by_cases h1:c≤127
 ·rw [encodeRuneZ_one (by omega) h1]
  have:=Zfe c
  by_cases h0:c=0
  ·subst h0;decide
  ·rw [ch1 (by omega)];simp
 ·by_cases h2:c≤2047
  ·rw [encodeRuneZ_two (by omega) h2,ch2 (by omega) h2];simp
  ·by_cases h3:c≤65535
   ·rw [encodeRuneZ_three (by omega),ch3 (by omega) h3];simp [th]
   ·rw [encodeRuneZ_four (by omega) (by omega),ch6 (by omega)];simp [th]
theorem Zq3 {cs:List Int} (h:∀ c∈cs,Sc c):(utf cs).length≤(mu cs).length∧(mu cs).length≤2*(utf cs).length:=by
 induction cs with
 | nil=>simp [utf,mu]
 | cons c cs ih =>
  rw [Zhx,Zd1,List.length_append,List.length_append]
  have h1:=ZtZ (h c (by simp))
  have h2:=ih (fun d hd=>h d (by simp [hd]))
  omega
theorem Zm8 (l:List UInt8) (hv:validD l=true):utf (Zci l)=l:=by
 obtain⟨n,hn⟩:∃ n,l.length≤n:=⟨_,Nat.le_refl _⟩
 induction n generalizing l with
 | zero =>
  have:l=[]:=List.eq_nil_of_length_eq_zero (by omega)
  subst this
  rfl
 | succ n ih =>
  by_cases hne:l=[]
  ·subst hne;rfl
  ·rw [validD_step l hne] at hv
   have hw:=decodeL_width l
   have hl:0<l.length:=List.length_pos_iff.2 hne
   by_cases hb:(decodeL l).1=65533∧(decodeL l).2=1
   ·rw [if_pos hb] at hv;cases hv
   ·rw [if_neg hb] at hv
    rw [Zcz l hne,Zhx,ih _ hv (by rw [List.length_drop];omega),encode_decode l hne hb,List.take_append_drop]
theorem u8z (z:Int) (h0:0≤z) (h1:z<256):(z.toNat.toUInt8).toNat=z.toNat:=by
 simp
 omega
theorem ZgN {c:Int} (h:Sc c) (r:List UInt8):((decodeL (encodeRune c++r)).1:Int)=c∧(decodeL (encodeRune c++r)).2=(encodeRune c).length:=by
 rw [decodeL_N]
 unfold encodeRune
 unfold Sc at h
 by_cases h1:c≤127
 ·rw [encodeRuneZ_one (by omega) h1]
  simp only [List.map_cons,List.map_nil,List.cons_append,List.nil_append,List.getD_cons_zero,List.getD_cons_succ,List.length_cons,List.length_nil]
  rw [u8z _ (by omega) (by omega)]
  unfold decodeN
  rw [if_pos (by omega)]
  exact⟨by dsimp only;omega,rfl⟩
 ·by_cases h2:c≤2047
  ·rw [encodeRuneZ_two (by omega) h2]
   simp only [List.map_cons,List.map_nil,List.cons_append,List.nil_append,List.getD_cons_zero,List.getD_cons_succ,List.length_cons,List.length_nil]
   rw [u8z _ (by omega) (by omega),u8z _ (by omega) (by omega)]
   unfold decodeN
   rw [if_neg (by omega),if_pos ⟨by omega,by omega,by omega⟩,if_pos (by omega)]
   exact⟨by dsimp only;omega,rfl⟩
  ·by_cases h3:c≤65535
   ·rw [encodeRuneZ_three (by omega)]
    simp only [List.map_cons,List.map_nil,List.cons_append,List.nil_append,List.getD_cons_zero,List.getD_cons_succ,List.length_cons,List.length_nil]
    rw [u8z _ (by omega) (by omega),u8z _ (by omega) (by omega),u8z _ (by omega) (by omega)]
    unfold decodeN
    rw [if_neg (by omega),if_neg (by omega),if_pos ⟨by omega,⟨by omega,by omega⟩,by omega,by omega⟩,if_pos (by omega)]
    exact⟨by dsimp only;omega,rfl⟩
   ·rw [encodeRuneZ_four (by omega) (by omega)]
    simp only [List.map_cons,List.map_nil,List.cons_append,List.nil_append,List.getD_cons_zero,List.getD_cons_succ,List.length_cons,List.length_nil]
    rw [u8z _ (by omega) (by omega),u8z _ (by omega) (by omega),u8z _ (by omega) (by omega),u8z _ (by omega) (by omega)]
    unfold decodeN
    rw [if_neg (by omega),if_neg (by omega),if_neg (by omega),if_pos ⟨by omega,⟨by omega,by omega⟩,⟨by omega,by omega⟩,by omega,by omega⟩,if_pos (by omega)]
    exact⟨by dsimp only;omega,rfl⟩
theorem ZoR {cs:List Int} (h:∀ c∈cs,Sc c):validD (utf cs)=true∧Zci (utf cs)=cs:=by
 induction cs with
 | nil=>exact⟨rfl,rfl⟩
 | cons c cs ih =>
  obtain⟨i1,i2⟩:=ih (fun d hd=>h d (by simp [hd]))
  obtain⟨d1,d2⟩:=ZgN (h c (by simp)) (utf cs)
  have hl:=ZgH c
  have hne:encodeRune c++utf cs≠[]:=fun e=>by
   have:=congrArg List.length e
   simp at this
   rw [this.1] at hl
   simp at hl
  have hd:(encodeRune c++utf cs).drop (encodeRune c).length=utf cs:=by simp
  rw [Zhx]
  constructor
  ·rw [validD_step _ hne,d2,hd,i1,if_neg]
   rintro ⟨e1,e2⟩
   have hc:c=65533:=by omega
   subst hc
   have:(encodeRune 65533).length=3:=by decide
   omega
  ·rw [Zcz _ hne,d1,d2,hd,i2]
def Zai (b:List Int):Int × Nat :=
 if 1≤b.length∧1≤gi b 0∧gi b 0≤127 then (gi b 0,1)
 else if 2≤b.length∧gi b 0/32=6∧gi b 1/64=2 then (gi b 0%32*64+gi b 1%64,2)
 else if 3≤b.length∧gi b 0/16=14∧gi b 1/64=2∧gi b 2/64=2 then (gi b 0%16*4096+gi b 1%64*64+gi b 2%64,3)
 else (0,0)
def badU (u:Int × Nat):Prop:=(u.2=2∧u.1<128∧u.1≠0)∨(u.2=3∧u.1<2048)∨(56320≤u.1∧u.1≤57343)
instance (u:Int × Nat):Decidable (badU u):=by unfold badU;infer_instance
def ZaK (b:List Int):Int × Nat :=
 if badU (Zai b) then (0,0)
 else if (Zai b).1<55296∨56319<(Zai b).1 then Zai b
 else if (Zai (b.drop (Zai b).2)).2≠3∨(Zai (b.drop (Zai b).2)).1<56320∨57343<(Zai (b.drop (Zai b).2)).1 then (0,0)
 else (65536+((Zai b).1-55296)*1024+(Zai (b.drop (Zai b).2)).1-56320,6)
theorem Zi8 {b:List Int} (h1:badU (Zai b)):ZaK b=(0,0):=by unfold ZaK;exact if_pos h1
theorem Zdq {b:List Int} (h1:¬ badU (Zai b)) (h2:(Zai b).1<55296∨56319<(Zai b).1):ZaK b=Zai b:=by unfold ZaK;exact(if_neg h1).trans (if_pos h2)
theorem Zlf {b:List Int} (h1:¬ badU (Zai b)) (h2:¬ ((Zai b).1<55296∨56319<(Zai b).1)) (h3:(Zai (b.drop (Zai b).2)).2≠3∨(Zai (b.drop (Zai b).2)).1<56320∨57343<(Zai (b.drop (Zai b).2)).1):ZaK b=(0,0):=by unfold ZaK;exact(if_neg h1).trans ((if_neg h2).trans (if_pos h3))
theorem Zgc {b:List Int} (h1:¬ badU (Zai b)) (h2:¬ ((Zai b).1<55296∨56319<(Zai b).1)) (h3:¬ ((Zai (b.drop (Zai b).2)).2≠3∨(Zai (b.drop (Zai b).2)).1<56320∨57343<(Zai (b.drop (Zai b).2)).1)):ZaK b=(65536+((Zai b).1-55296)*1024+(Zai (b.drop (Zai b).2)).1-56320,6):=by unfold ZaK;exact(if_neg h1).trans ((if_neg h2).trans (if_neg h3))
theorem Zd2 (b:List Int) :
 (1≤b.length∧1≤gi b 0∧gi b 0≤127∧Zai b=(gi b 0,1)) ∨
 (2≤b.length∧gi b 0/32=6∧gi b 1/64=2∧Zai b=(gi b 0%32*64+gi b 1%64,2)) ∨
 (3≤b.length∧gi b 0/16=14∧gi b 1/64=2∧gi b 2/64=2∧Zai b=(gi b 0%16*4096+gi b 1%64*64+gi b 2%64,3))∨Zai b=(0,0):=by
 unfold Zai
 repeat' split
 ·left;rename_i h;exact⟨h.1,h.2.1,h.2.2,rfl⟩
 ·right;left;rename_i h;exact⟨h.1,h.2.1,h.2.2,rfl⟩
 ·right;right;left;rename_i h;exact⟨h.1,h.2.1,h.2.2.1,h.2.2.2,rfl⟩
 ·right;right;right;rfl
theorem gi0 (x:Int) (l:List Int):gi (x :: l) 0=x:=rfl
theorem giS (x:Int) (l:List Int) (n:Nat):gi (x :: l) (n+1)=gi l n:=by simp [gi]
theorem ZsO:∀ b:List Int,1≤b.length→b.take 1=[gi b 0]
 | _ :: _,_=>rfl
theorem ZsY:∀ b:List Int,2≤b.length→b.take 2=[gi b 0,gi b 1]
 | [_],h=>by simp at h
 | _ :: _ :: _,_=>rfl
theorem ZqW:∀ b:List Int,3≤b.length→b.take 3=[gi b 0,gi b 1,gi b 2]
 | [_],h=>by simp at h
 | [_,_],h=>by simp at h
 | _ :: _ :: _ :: _,_=>rfl
theorem ZhT (c:Int) (h0:2048≤c) (h1:c≤65535) (r:List Int):Zai (th c++r)=(c,3):=by
 unfold Zai th
 simp only [List.cons_append,List.nil_append,gi0,giS,List.length_cons]
 rw [if_neg (by omega),if_neg (by omega),if_pos ⟨by omega,by omega,by omega,by omega⟩]
 congr 1
 omega
theorem ZkZ {c:Int} (h:Sc c) (r:List Int):ZaK (ch c++r)=(c,(ch c).length):=by
 unfold Sc at h
 by_cases h1:1≤c∧c≤127
 ·have e:Zai (ch c++r)=(c,1):=by
   rw [ch1 h1]
   unfold Zai
   simp only [List.cons_append,List.nil_append,gi0,giS,List.length_cons]
   rw [if_pos ⟨by omega,by omega,by omega⟩]
  have hb:¬ badU (Zai (ch c++r)):=by rw [e];unfold badU;dsimp only;omega
  rw [Zdq hb (by rw [e];dsimp only;omega),e,ch1 h1]
  rfl
 ·by_cases h2:c≤2047
  ·have e:Zai (ch c++r)=(c,2):=by
    rw [ch2 h1 h2]
    unfold Zai
    simp only [List.cons_append,List.nil_append,gi0,giS,List.length_cons]
    rw [if_neg (by omega),if_pos ⟨by omega,by omega,by omega⟩]
    congr 1
    omega
   have hb:¬ badU (Zai (ch c++r)):=by rw [e];unfold badU;dsimp only;omega
   rw [Zdq hb (by rw [e];dsimp only;omega),e,ch2 h1 h2]
   rfl
  ·by_cases h3:c≤65535
   ·have e:Zai (ch c++r)=(c,3):=by
     rw [ch3 (by omega) h3]
     exact ZhT c (by omega) h3 r
    have hb:¬ badU (Zai (ch c++r)):=by rw [e];unfold badU;dsimp only;omega
    rw [Zdq hb (by rw [e];dsimp only;omega),e,ch3 (by omega) h3]
    rfl
   ·have e:Zai (ch c++r)=(55296+(c-65536)/1024,3):=by
     rw [ch6 (by omega),List.append_assoc]
     exact ZhT _ (by omega) (by omega) _
    have e2:Zai ((ch c++r).drop 3)=(56320+(c-65536)%1024,3):=by
     rw [ch6 (by omega),List.append_assoc,List.drop_left' (by rfl)]
     exact ZhT _ (by omega) (by omega) _
    have hb:¬ badU (Zai (ch c++r)):=by rw [e];unfold badU;dsimp only;omega
    have e3:Zai ((ch c++r).drop (Zai (ch c++r)).2)=(56320+(c-65536)%1024,3):=by rw [e];exact e2
    rw [Zgc hb (by rw [e];dsimp only;omega) (by rw [e3];dsimp only;omega),e3,e,ch6 (by omega)]
    refine Prod.ext ?_ rfl
    dsimp only
    omega
theorem Fit.gi {b:List Int} (h:Fit .u8 b) (j:Nat):0≤gi b j∧gi b j<256:=by
 by_cases hj:j<b.length
 ·exact h.u8 (Zbb hj)
 ·unfold Go.Proofs.YtclamhhgldkhnaaGreatDoor.gi
  rw [List.getD_eq_getElem?_getD,List.getElem?_eq_none (by omega)]
  simp
theorem Zg5 {b:List Int} (h:(Zai b).2=0):Zai b=(0,0):=by
 rcases Zd2 b with⟨_,_,_,e⟩ | ⟨_,_,_,e⟩ | ⟨_,_,_,_,e⟩ | e
 ·rw [e] at h;simp at h
 ·rw [e] at h;simp at h
 ·rw [e] at h;simp at h
 ·exact e
theorem Zl0 {b:List Int} (h:(ZaK b).2=0):ZaK b=(0,0):=by
 by_cases h1:badU (Zai b)
 ·exact Zi8 h1
 ·by_cases h2:(Zai b).1<55296∨56319<(Zai b).1
  ·rw [Zdq h1 h2] at h ⊢
   exact Zg5 h
  ·by_cases h3:(Zai (b.drop (Zai b).2)).2≠3∨(Zai (b.drop (Zai b).2)).1<56320∨57343<(Zai (b.drop (Zai b).2)).1
   ·exact Zlf h1 h2 h3
   ·rw [Zgc h1 h2 h3] at h
    exact absurd h (by simp)
theorem Zgb {b:List Int} (hf:Fit .u8 b) (h:(Zai b).2≠0) (hb:¬ badU (Zai b)):(Zai b).2≤b.length∧0≤(Zai b).1∧(Zai b).1≤65535∧b.take (Zai b).2=ch (Zai b).1∧(2048≤(Zai b).1→(Zai b).2=3):=by
 have g0:=hf.gi 0
 have g1:=hf.gi 1
 have g2:=hf.gi 2
 unfold badU at hb
 rcases Zd2 b with⟨c1,c2,c3,e⟩ | ⟨c1,c2,c3,e⟩ | ⟨c1,c2,c3,c4,e⟩ | e
 ·rw [e] at h hb ⊢
  dsimp only at h hb ⊢
  exact⟨c1,by omega,by omega,by rw [ZsO b c1,ch1 ⟨c2,c3⟩],by omega⟩
 ·rw [e] at h hb ⊢
  dsimp only at h hb ⊢
  refine⟨c1,by omega,by omega,?_,by omega⟩
  rw [ZsY b c1,ch2 (by omega) (by omega),show gi b 0=192+(gi b 0%32*64+gi b 1%64)/64 by omega,show gi b 1=128+(gi b 0%32*64+gi b 1%64)%64 by omega]
  congr 2 <;> omega
 ·rw [e] at h hb ⊢
  dsimp only at h hb ⊢
  refine⟨c1,by omega,by omega,?_,fun _=>rfl⟩
  rw [ZqW b c1,ch3 (by omega) (by omega)]
  unfold th
  congr 1
  ·omega
  ·congr 1
   ·omega
   ·congr 1
    omega
 ·rw [e] at h;exact absurd rfl h
theorem ZcW {b:List Int} (hf:Fit .u8 b) (h:(ZaK b).2≠0):Sc (ZaK b).1∧(ZaK b).2≤b.length∧b.take (ZaK b).2=ch (ZaK b).1:=by
 by_cases h1:badU (Zai b)
 ·rw [Zi8 h1] at h
  exact absurd rfl h
 ·by_cases h2:(Zai b).1<55296∨56319<(Zai b).1
  ·have e:ZaK b=Zai b:=Zdq h1 h2
   rw [e] at h ⊢
   obtain⟨s1,s2,s3,s4,s5⟩:=Zgb hf h h1
   refine⟨?_,s1,s4⟩
   unfold badU at h1
   unfold Sc
   omega
  ·by_cases h3:(Zai (b.drop (Zai b).2)).2≠3∨(Zai (b.drop (Zai b).2)).1<56320∨57343<(Zai (b.drop (Zai b).2)).1
   ·rw [Zlf h1 h2 h3] at h
    exact absurd rfl h
   ·have e:ZaK b=(65536+((Zai b).1-55296)*1024+(Zai (b.drop (Zai b).2)).1-56320,6):=Zgc h1 h2 h3
    have hu:(Zai b).2≠0:=fun e0=>by
     have:=Zg5 e0
     rw [this] at h2
     exact h2 (by dsimp only;omega)
    obtain⟨s1,s2,s3,s4,s5⟩:=Zgb hf hu h1
    have h6:(Zai b).2=3:=s5 (by omega)
    have g0:=(hf.drop 3).gi 0
    have g1:=(hf.drop 3).gi 1
    have g2:=(hf.drop 3).gi 2
    rw [h6] at h3 e s1 s4
    rw [e]
    dsimp only
    rcases Zd2 (b.drop 3) with⟨c1,c2,c3,e'⟩ | ⟨c1,c2,c3,e'⟩ | ⟨c1,c2,c3,c4,e'⟩ | e'
    ·rw [e'] at h3;exact absurd (.inl (by simp)) h3
    ·rw [e'] at h3;exact absurd (.inl (by simp)) h3
    ·rw [e'] at h3 ⊢
     dsimp only at h3 ⊢
     rw [List.length_drop] at c1
     refine⟨?_,by omega,?_⟩
     ·unfold Sc;omega
     ·have t6:b.take 6=b.take 3++(b.drop 3).take 3:=by
       rw [show (6:Nat)=3+3 from rfl,List.take_add]
      rw [t6,s4,ZqW (b.drop 3) (by rw [List.length_drop];exact c1),ch3 (by omega) (by omega),ch6 (by omega)]
      unfold th
      simp only [List.cons_append,List.nil_append,List.cons.injEq,and_true]
      exact⟨by omega,by omega,by omega,by omega,by omega,by omega⟩
    ·rw [e'] at h3;exact absurd (.inl (by simp)) h3
theorem ZfL {b:List Int} (hf:Fit .u8 b) (h:(ZaK b).2≠0):(ZaK b).2=(ch (ZaK b).1).length:=by
 obtain⟨_,h1,h2⟩:=ZcW hf h
 rw [← h2,List.length_take]
 omega
def rowZ (b:List Int):Int × Nat :=
 if b=[] then (0,0)
 else if gi b 0<192 then (gi b 0,1)
 else if gi b 0<224 then (if 2≤b.length then ((gi b 0-192)*64+gi b 1%64,2) else (0,0))
 else (if 3≤b.length then ((gi b 0-224)*4096+gi b 1%64*64+gi b 2%64,3) else (0,0))
def Zcf (b:List Int):Int × Nat :=
 if 55296≤(rowZ b).1∧(rowZ b).1<56320 then (65536+((rowZ b).1-55296)*1024+((rowZ (b.drop (rowZ b).2)).1-56320),(rowZ b).2+(rowZ (b.drop (rowZ b).2)).2) else rowZ b
theorem Zee {b:List Int} (h:¬ (55296≤(rowZ b).1∧(rowZ b).1<56320)):Zcf b=rowZ b:=by unfold Zcf;exact if_neg h
theorem ZiW {b:List Int} (h:55296≤(rowZ b).1∧(rowZ b).1<56320):Zcf b=(65536+((rowZ b).1-55296)*1024+((rowZ (b.drop (rowZ b).2)).1-56320),(rowZ b).2+(rowZ (b.drop (rowZ b).2)).2):=by unfold Zcf;exact if_pos h
def ZeN (b:List Int):Int × Nat:=if Sc (Zcf b).1∧b.take (Zcf b).2=ch (Zcf b).1 then Zcf b else (0,0)
theorem ZjQ (c:Int) (h0:0≤c) (h1:c≤65535) (r:List Int):rowZ (th c++r)=(c,3):=by
 unfold rowZ th
 simp only [List.cons_append,List.nil_append,gi0,giS,List.length_cons]
 rw [if_neg (by simp),if_neg (by omega),if_neg (by omega),if_pos (by omega)]
 congr 1
 omega
theorem ZkY {c:Int} (h:Sc c) (r:List Int):Zcf (ch c++r)=(c,(ch c).length):=by
 unfold Sc at h
 by_cases h1:1≤c∧c≤127
 ·have e:rowZ (ch c++r)=(c,1):=by
   rw [ch1 h1]
   unfold rowZ
   simp only [List.cons_append,List.nil_append,gi0,giS,List.length_cons]
   rw [if_neg (by simp),if_pos (by omega)]
  rw [Zee (by rw [e];dsimp only;omega),e,ch1 h1]
  rfl
 ·by_cases h2:c≤2047
  ·have e:rowZ (ch c++r)=(c,2):=by
    rw [ch2 h1 h2]
    unfold rowZ
    simp only [List.cons_append,List.nil_append,gi0,giS,List.length_cons]
    rw [if_neg (by simp),if_neg (by omega),if_pos (by omega),if_pos (by omega)]
    congr 1
    omega
   rw [Zee (by rw [e];dsimp only;omega),e,ch2 h1 h2]
   rfl
  ·by_cases h3:c≤65535
   ·have e:rowZ (ch c++r)=(c,3):=by
     rw [ch3 (by omega) h3]
     exact ZjQ c (by omega) h3 r
    rw [Zee (by rw [e];dsimp only;omega),e,ch3 (by omega) h3]
    rfl
   ·have e:rowZ (ch c++r)=(55296+(c-65536)/1024,3):=by
     rw [ch6 (by omega),List.append_assoc]
     exact ZjQ _ (by omega) (by omega) _
    have e2:rowZ ((ch c++r).drop 3)=(56320+(c-65536)%1024,3):=by
     rw [ch6 (by omega),List.append_assoc,List.drop_left' (by rfl)]
     exact ZjQ _ (by omega) (by omega) _
    have e3:rowZ ((ch c++r).drop (rowZ (ch c++r)).2)=(56320+(c-65536)%1024,3):=by rw [e];exact e2
    rw [ZiW (by rw [e];dsimp only;omega),e3,e,ch6 (by omega)]
    refine Prod.ext ?_ rfl
    dsimp only
    omega
theorem Zpl {b:List Int} (hf:Fit .u8 b):ZeN b=ZaK b:=by
 by_cases h:Sc (Zcf b).1∧b.take (Zcf b).2=ch (Zcf b).1
 ·have hl:(Zcf b).2≤b.length∨b.length<(Zcf b).2:=by omega
  have hb:b=ch (Zcf b).1++b.drop (Zcf b).2:=by rw [← h.2,List.take_append_drop]
  have e:=ZkZ h.1 (b.drop (Zcf b).2)
  rw [← hb] at e
  have e2:=ZkY h.1 (b.drop (Zcf b).2)
  rw [← hb] at e2
  unfold ZeN
  rw [if_pos h,e,← e2]
 ·unfold ZeN
  rw [if_neg h]
  by_cases hn:(ZaK b).2=0
  ·exact(Zl0 hn).symm
  ·exfalso
   obtain⟨s1,s2,s3⟩:=ZcW hf hn
   have hb:b=ch (ZaK b).1++b.drop (ZaK b).2:=by rw [← s3,List.take_append_drop]
   have e:=ZkY s1 (b.drop (ZaK b).2)
   rw [← hb] at e
   apply h
   rw [e]
   exact⟨s1,by dsimp only;rw [← ZfL hf hn];exact s3⟩
theorem ZgW {b:List Int} (hf:Fit .u8 b):0≤(rowZ b).1∧(rowZ b).1≤131071∧(rowZ b).2≤3∧(rowZ b).2≤b.length:=by
 have g0:=hf.gi 0
 have g1:=hf.gi 1
 have g2:=hf.gi 2
 unfold rowZ
 by_cases h0:b=[]
 ·rw [if_pos h0];simp
 ·have hl:0<b.length:=List.length_pos_iff.2 h0
  rw [if_neg h0]
  split
  ·dsimp only;omega
  ·split
   ·split
    ·dsimp only;omega
    ·simp
   ·split
    ·dsimp only;omega
    ·simp
def Zdf:Nat→List Int→List Int
 | 0,_=>[]
 | n+1,b=>if b=[]∨(ZaK b).2=0 then [] else (ZaK b).1 :: Zdf n (b.drop (ZaK b).2)
def chs (b:List Int):List Int:=Zdf b.length b
theorem ZcM:∀ n,Zdf n []=[]
 | 0=>rfl
 | _+1=>by simp [Zdf]
theorem Zfd:∀ (n m:Nat) (b:List Int),b.length≤n→b.length≤m→Zdf n b=Zdf m b
 | 0,m,b,hn,_=>by
  have:b=[]:=List.eq_nil_of_length_eq_zero (by omega)
  subst this
  rw [ZcM,ZcM]
 | n+1,0,b,_,hm=>by
  have:b=[]:=List.eq_nil_of_length_eq_zero (by omega)
  subst this
  rw [ZcM,ZcM]
 | n+1,m+1,b,hn,hm=>by
  unfold Zdf
  by_cases hb:b=[]∨(ZaK b).2=0
  ·rw [if_pos hb,if_pos hb]
  ·have hl:0<b.length:=List.length_pos_iff.2 (fun e=>hb (.inl e))
   have h2:(ZaK b).2≠0:=fun e=>hb (.inr e)
   rw [if_neg hb,if_neg hb,Zfd n m (b.drop (ZaK b).2) (by rw [List.length_drop];omega) (by rw [List.length_drop];omega)]
theorem ZjR:chs []=[]:=rfl
theorem ZkK {b:List Int} (h:(ZaK b).2=0):chs b=[]:=by
 unfold chs
 cases b.length with
 | zero=>rfl
 | succ n=>simp [Zdf,h]
theorem Zh2 {b:List Int} (h:(ZaK b).2≠0):chs b=(ZaK b).1 :: chs (b.drop (ZaK b).2):=by
 have hb:b≠[]:=fun e=>by subst e;exact h (by decide)
 have hl:0<b.length:=List.length_pos_iff.2 hb
 obtain⟨n,hn⟩:∃ n,b.length=n+1:=⟨b.length-1,by omega⟩
 unfold chs
 rw [hn]
 show (if b=[]∨(ZaK b).2=0 then [] else _)=_
 rw [if_neg (by simp [hb,h]),Zfd n (b.drop (ZaK b).2).length _ (by rw [List.length_drop];omega) (Nat.le_refl _)]
def stop (b:List Int):Nat:=(mu (chs b)).length
theorem ZiQ {b:List Int} (hf:Fit .u8 b):(∀ c∈chs b,Sc c)∧b=mu (chs b)++b.drop (stop b)∧stop b≤b.length:=by
 obtain⟨n,hn⟩:∃ n,b.length≤n:=⟨_,Nat.le_refl _⟩
 induction n generalizing b with
 | zero =>
  have:b=[]:=List.eq_nil_of_length_eq_zero (by omega)
  subst this
  exact⟨fun c hc=>(by cases hc),rfl,Nat.le_refl _⟩
 | succ n ih =>
  by_cases h:(ZaK b).2=0
  ·unfold stop
   rw [ZkK h]
   exact⟨fun c hc=>(by cases hc),rfl,Nat.zero_le _⟩
  ·obtain⟨s1,s2,s3⟩:=ZcW hf h
   have s4:=ZfL hf h
   obtain⟨i1,i2,i3⟩:=ih (hf.drop (ZaK b).2) (by rw [List.length_drop];omega)
   unfold stop at i2 i3 ⊢
   rw [Zh2 h,Zd1,List.length_append,← s4]
   refine⟨fun c hc=>?_,?_,?_⟩
   ·rcases List.mem_cons.1 hc with rfl | hc
    ·exact s1
    ·exact i1 c hc
   ·rw [← s3,List.append_assoc,← List.drop_drop,← i2,List.take_append_drop]
   ·rw [List.length_drop] at i3
    omega
theorem ZsM {cs:List Int} (h:∀ c∈cs,Sc c) (r:List Int):chs (mu cs++r)=cs++chs r:=by
 induction cs with
 | nil=>rfl
 | cons c cs ih =>
  have e:=ZkZ (h c (by simp)) (mu cs++r)
  have hl:=(Zfe c).1
  rw [Zd1,List.append_assoc,Zh2 (by rw [e];dsimp only;omega),e]
  dsimp only
  rw [List.drop_left,ih (fun d hd=>h d (by simp [hd])),List.cons_append]
theorem Zsg {cs:List Int} (h:∀ c∈cs,Sc c):chs (mu cs)=cs∧stop (mu cs)=(mu cs).length:=by
 have e:=ZsM h []
 rw [List.append_nil,ZjR,List.append_nil] at e
 exact⟨e,by unfold stop;rw [e]⟩
theorem Znp {b:List Int} (hf:Fit .u8 b):mu (chs b)=b.take (stop b):=by
 obtain⟨h1,h2,h3⟩:=ZiQ hf
 have:=congrArg (List.take (stop b)) h2
 rw [this]
 unfold stop
 rw [List.take_left]
end Go.Proofs.YtclamhhgldkhnaaGreatDoor
namespace Go.Proofs.YtclamhhgldkhnaaGreatDoor
theorem Zce (n:Int) (h₀:0≤n) (h₁:n<2 ^ 63):IntKind.i64.wrap n=n:=by rw [IntKind.wrap_i64];omega
theorem Zoc (x:Int) (h0:0≤x) (h1:x<2147483648):bits .and .i32 x 63=x%64:=bits_mask .i32 31 (by decide) wraps_i32 6 (by decide) x h0 h1
theorem Zkf (x:Int) (h0:0≤x) (h1:x<2147483648):bits .and .i32 x 1023=x%1024:=bits_mask .i32 31 (by decide) wraps_i32 10 (by decide) x h0 h1
theorem ZpD (y:Int) (h0:0≤y) (h1:y<64):bits .or .u8 128 y=128+y:=bits_join .u8 8 (by decide) wraps_u8 6 128 y (by decide) (by decide) (by decide) h0 h1 (by omega)
theorem Zlp (y:Int) (h0:0≤y) (h1:y<64):bits .or .u8 192 y=192+y:=bits_join .u8 8 (by decide) wraps_u8 6 192 y (by decide) (by decide) (by decide) h0 h1 (by omega)
theorem Zkp (y:Int) (h0:0≤y) (h1:y<32):bits .or .u8 224 y=224+y:=bits_join .u8 8 (by decide) wraps_u8 5 224 y (by decide) (by decide) (by decide) h0 h1 (by omega)
theorem Zib (x:Int) (h0:0≤x) (h1:x<256):bits .and .u8 x 63=x%64:=bits_mask .u8 8 (by decide) wraps_u8 6 (by decide) x h0 h1
theorem Zki (x y:Int) (h0:0≤x) (h1:x<1000000) (hy0:0≤y) (hy1:y<64):bits .or .i32 (x*64) y=x*64+y:=bits_join .i32 31 (by decide) wraps_i32 6 (x*64) y (by omega) (by simp) (by omega) hy0 hy1 (by omega)
theorem Zei (x:Int) (h0:0≤x) (h1:x<9223372036854775808):bits .and .i64 x 63=x%64:=bits_mask .i64 63 (by decide) Zce 6 (by decide) x h0 h1
theorem Zj5 (x:Int) (h0:0≤x) (h1:x<9223372036854775808):bits .and .i64 x 1023=x%1024:=bits_mask .i64 63 (by decide) Zce 10 (by decide) x h0 h1
theorem Zeu (y:Int) (h0:0≤y) (h1:y<64):bits .or .i64 128 y=128+y:=bits_join .i64 63 (by decide) Zce 6 128 y (by decide) (by decide) (by decide) h0 h1 (by omega)
theorem Zi4 (y:Int) (h0:0≤y) (h1:y<64):bits .or .i64 192 y=192+y:=bits_join .i64 63 (by decide) Zce 6 192 y (by decide) (by decide) (by decide) h0 h1 (by omega)
theorem Zn3 (y:Int) (h0:0≤y) (h1:y<32):bits .or .i64 224 y=224+y:=bits_join .i64 63 (by decide) Zce 5 224 y (by decide) (by decide) (by decide) h0 h1 (by omega)
theorem Zkc (y:Int) (h0:0≤y) (h1:y<1024):bits .or .i64 55296 y=55296+y:=bits_join .i64 63 (by decide) Zce 10 55296 y (by decide) (by decide) (by decide) h0 h1 (by omega)
theorem ZjH (y:Int) (h0:0≤y) (h1:y<1024):bits .or .i64 56320 y=56320+y:=bits_join .i64 63 (by decide) Zce 10 56320 y (by decide) (by decide) (by decide) h0 h1 (by omega)
end Go.Proofs.YtclamhhgldkhnaaGreatDoor
namespace Go.Proofs.YtclamhhgldkhnaaGreatDoor
open Go.RowKit
set_option linter.unusedVariables false
theorem Own.built (w:World) (l:List Int) (hf:Fit .u8 l) (hl:l.length≤65536) :
 Own w.heap.size (w.alloc (.cells (l.map (Value.int .u8)).toArray 5)) 5 .u8 (.slice (some ⟨w.heap.size,0,none⟩) l.length l.length) l :=
 ⟨⟨
  by simp,.inr ⟨w.heap.size,l.length,(l.map (Value.int .u8)).toArray,rfl,Nat.le_refl _,heap_alloc_new w _,Nat.le_refl _,by simp only [maxLen];omega,by simp,by
  rw [Nat.mul_one]
  exact List.take_of_length_le (by simp)⟩⟩,hf⟩
theorem Zue {c:Int} (h0:0≤c) (h1:c≤65535):Fit .u8 (th c):=by
 intro x hx
 simp only [th,List.mem_cons,List.not_mem_nil,or_false] at hx
 exact Zbp (by omega) (by omega)
theorem ZfD (c:Int) (w:World) (h0:0≤c) (h1:c≤65535) :
 Calls Tryz.prog 193 #[.int .i64 c] w (Ret w (fun v' w'=>Own w.heap.size w' 5 .u8 v' (th c))):=by
 have b1:=Zn3 (c/4096) (by omega) (by omega)
 have b2:=Zei (c/64) (by omega) (by omega)
 have b3:=Zeu (c/64%64) (by omega) (by omega)
 have b4:=Zei c (by omega) (by omega)
 have b5:=Zeu (c%64) (by omega) (by omega)
 have b6:(224+c/4096)%256=224+c/4096:=by omega
 have b7:(128+c/64%64)%256=128+c/64%64:=by omega
 have b8:(128+c%64)%256=128+c%64:=by omega
 go_enter Tryz.func193,Tryz.ntmps193
 go_wp2
 go_ret
 exact Ret.mk (Own.built w (th c) (Zue h0 h1) (by simp [th])) ((Ext.refl _).alloc _)
theorem Zsx (c:Int) (w:World) (h0:1≤c) (h1:c≤127) :
 Calls Tryz.prog 161 #[.int .i64 c] w (Ret w (fun v' w'=>Own w.heap.size w' 5 .u8 v' [c])):=by
 have b6:c%256=c:=by omega
 go_enter Tryz.func161,Tryz.ntmps161
 go_wp2
 go_ret
 exact Ret.mk (Own.built w [c] (by intro x hx;simp only [List.mem_cons,List.not_mem_nil,or_false] at hx;exact Zbp (by omega) (by omega)) (by simp)) ((Ext.refl _).alloc _)
theorem ZsG (c:Int) (w:World) (h0:128≤c) (h1:c≤2047) :
 Calls Tryz.prog 161 #[.int .i64 c] w (Ret w (fun v' w'=>Own w.heap.size w' 5 .u8 v' [192+c/64,128+c%64])):=by
 have b1:=Zi4 (c/64) (by omega) (by omega)
 have b4:=Zei c (by omega) (by omega)
 have b5:=Zeu (c%64) (by omega) (by omega)
 have b6:(192+c/64)%256=192+c/64:=by omega
 have b8:(128+c%64)%256=128+c%64:=by omega
 go_enter Tryz.func161,Tryz.ntmps161
 go_wp2
 go_ret
 exact Ret.mk (Own.built w [192+c/64,128+c%64] (by intro x hx;simp only [List.mem_cons,List.not_mem_nil,or_false] at hx;exact Zbp (by omega) (by omega)) (by simp)) ((Ext.refl _).alloc _)
theorem ZsB (w:World) :
 Calls Tryz.prog 161 #[.int .i64 0] w (Ret w (fun v' w'=>Own w.heap.size w' 5 .u8 v' [192,128])):=by
 have b1:=Zi4 0 (by omega) (by omega)
 have b5:=Zeu 0 (by omega) (by omega)
 have b4:=Zei 0 (by omega) (by omega)
 go_enter Tryz.func161,Tryz.ntmps161
 go_wp2
 go_ret
 exact Ret.mk (Own.built w [192,128] (by intro x hx;simp only [List.mem_cons,List.not_mem_nil,or_false] at hx;exact Zbp (by omega) (by omega)) (by simp)) ((Ext.refl _).alloc _)
theorem ZsV (c:Int) (w:World) (h0:2048≤c) (h1:c≤65535) :
 Calls Tryz.prog 161 #[.int .i64 c] w (Ret w (fun v' w'=>Own w.heap.size w' 5 .u8 v' (th c))):=by
 go_enter Tryz.func161,Tryz.ntmps161
 go_wp2_with (go_at_call 193;refine(ZfD c _ (by omega) (by omega)).mono ?_;rintro e w1 ⟨v1,rfl,ho1,he1⟩)
 go_ret
 exact Ret.mk ho1 he1
theorem Zs0 (c:Int) (w:World) (h0:65536≤c) (h1:c≤1114111) :
 Calls Tryz.prog 161 #[.int .i64 c] w (Ret w (fun v' w'=>Own w.heap.size w' 5 .u8 v' (th (55296+(c-65536)/1024)++th (56320+(c-65536)%1024)))):=by
 have b1:=Zkc ((c-65536)/1024) (by omega) (by omega)
 have b2:=Zj5 (c-65536) (by omega) (by omega)
 have b3:=ZjH ((c-65536)%1024) (by omega) (by omega)
 go_enter Tryz.func161,Tryz.ntmps161
 go_wp2_with fail
 refine(ZfD (55296+(c-65536)/1024) _ (by omega) (by omega)).mono ?_
 rintro e w1 ⟨v1,rfl,ho1,he1⟩
 go_wp2_with fail
 refine(ZfD (56320+(c-65536)%1024) _ (by omega) (by omega)).mono ?_
 rintro e w2 ⟨v2,rfl,ho2,he2⟩
 go_wp2_with (at_builtin;go_loud (refine wpList_app _ rfl _ _ w.heap.size 29 5 _ 1 .u8 rfl Tryz.underlying29 Zaq rfl (by omega) v1 (th (55296+(c-65536)/1024)) rfl (ho1.ext he2) v2 (th (56320+(c-65536)%1024)) rfl ho2.row (by simp [th]) (by have:=he1.size;have:=he2.size;omega) ?_))
 intro v3 w3 ho3 hg3 _
 go_wp2
 go_ret
 exact Ret.mk ho3 ((he1.trans he2).grown hg3 ho1.low)
theorem ZkO (c:Int) (w:World) (h0:0≤c) (h1:c≤1114111) :
 Calls Tryz.prog 161 #[.int .i64 c] w (Ret w (fun v' w'=>Own w.heap.size w' 5 .u8 v' (ch c))):=by
 by_cases a1:1≤c∧c≤127
 ·rw [ch1 a1];exact Zsx c w a1.1 a1.2
 ·by_cases a2:c≤2047
  ·rw [ch2 a1 a2]
   by_cases a0:c=0
   ·subst a0;exact ZsB w
   ·exact ZsG c w (by omega) a2
  ·by_cases a3:c≤65535
   ·rw [ch3 (by omega) a3];exact ZsV c w (by omega) a3
   ·rw [ch6 (by omega)];exact Zs0 c w (by omega) h1
structure Cst where
 k:Int
 t:ByteArray
 n:Int
 a:Int
 b:Int
 c:Int
deriving DecidableEq
def I64 (x:Int):Prop:=-9223372036854775808≤x∧x≤9223372036854775807
def Cst.ok (x:Cst):Prop:=I64 x.k∧I64 x.n∧I64 x.a∧I64 x.b∧I64 x.c
def c0:Cst:=⟨0,.empty,0,0,0,0⟩
theorem ZaH:I64 0:=⟨by decide,by decide⟩
theorem Zsh:c0.ok:=⟨ZaH,ZaH,ZaH,ZaH,ZaH⟩
def gc (l:List Cst) (j:Nat):Cst:=l.getD j c0
def Cst.vals (x:Cst):Array Value:=#[.int .i64 x.k,.string x.t,.int .i64 x.n,.int .i64 x.a,.int .i64 x.b,.int .i64 x.c]
def At6 (w:World) (b o:Nat) (x:Cst):Prop :=
 w.cell? ⟨b,o,none⟩=some (.int .i64 x.k)∧w.cell? ⟨b,o+1,none⟩=some (.string x.t)∧w.cell? ⟨b,o+2,none⟩=some (.int .i64 x.n) ∧
 w.cell? ⟨b,o+3,none⟩=some (.int .i64 x.a)∧w.cell? ⟨b,o+4,none⟩=some (.int .i64 x.b)∧w.cell? ⟨b,o+5,none⟩=some (.int .i64 x.c)
def RowC (w:World) (v:Value) (l:List Cst):Prop :=
 ∃ (A:Option Addr) (c:Nat),v=.slice A l.length c∧l.length≤c∧c≤maxLen∧(A=none→c=0)∧(∀ x∈l,x.ok) ∧
  (0<l.length→∃ b o,A=some ⟨b,o,none⟩∧b<w.heap.size∧∀ j,j<l.length→At6 w b (o+j*6) (gc l j))
theorem At6.ext {w w':World} {b o:Nat} {x:Cst} (h:At6 w b o x) (he:Ext w w') (hb:b<w.heap.size):At6 w' b o x:=by
 obtain⟨h0,h1,h2,h3,h4,h5⟩:=h
 exact⟨(he.cell (p:=⟨b,o,none⟩) hb).trans h0,(he.cell (p:=⟨b,o+1,none⟩) hb).trans h1,(he.cell (p:=⟨b,o+2,none⟩) hb).trans h2,(he.cell (p:=⟨b,o+3,none⟩) hb).trans h3,(he.cell (p:=⟨b,o+4,none⟩) hb).trans h4,(he.cell (p:=⟨b,o+5,none⟩) hb).trans h5⟩
theorem RowC.ext {w w':World} {v:Value} {l:List Cst} (h:RowC w v l) (he:Ext w w'):RowC w' v l:=by
 obtain⟨A,c,h1,h2,h3,h4,h5,h6⟩:=h
 refine⟨A,c,h1,h2,h3,h4,h5,fun hl=>?_⟩
 obtain⟨b,o,ha,hb,hc⟩:=h6 hl
 exact⟨b,o,ha,Nat.lt_of_lt_of_le hb he.size,fun j hj=>(hc j hj).ext he hb⟩
theorem Zla {l:List Cst} {j:Nat} (h:j<l.length):gc l j∈l:=by
 unfold gc
 rw [List.getD_eq_getElem?_getD,List.getElem?_eq_getElem h]
 exact List.getElem_mem h
theorem Zmz {l:List Cst} {j:Nat} (h:l.length≤j):gc l j=c0:=by
 unfold gc
 rw [List.getD_eq_getElem?_getD,List.getElem?_eq_none h]
 rfl
theorem ZhQ {l:List Cst} (h:∀ x∈l,x.ok) (j:Nat):(gc l j).ok:=by
 by_cases hj:j<l.length
 ·exact h _ (Zla hj)
 ·rw [Zmz (by omega)]
  exact Zsh
theorem RowC.all {w:World} {v:Value} {l:List Cst} (h:RowC w v l):∀ x∈l,x.ok:=by
 obtain⟨A,c,h1,h2,h3,h4,h5,h6⟩:=h
 exact h5
theorem RowC.nil (w:World):RowC w (.slice none 0 0) []:=⟨none,0,rfl,Nat.le_refl _,by simp [maxLen],fun _=>rfl,(fun _ h=>by cases h),fun h=>by simp at h⟩
end Go.Proofs.YtclamhhgldkhnaaGreatDoor
