/- Several texts of this proof, one behind the other. -/
import Derived.Test.YtclamhhgldkhnaaGreatDoorZwA
import Derived.Test.YtclamhhgldkhnaaGreatDoorZwB
import Derived.Laws.StructEq
import Derived.Deep.QuietTactic
import Derived.RegionTactic
import Derived.Tactics
namespace Go.Proofs.YtclamhhgldkhnaaGreatDoor
set_option maxHeartbeats 16000000
def ab (wy d:Int):Int:=if wy=2 then -(d/64%2) else if wy=4 then -(d/128) else 0
def dg (wy:Int):Nat→Int→List Int
 | 0,_=>[]
 | f+1,n=>if n/128=ab wy (n%128) then [n%128] else (n%128+128) :: dg wy f (n/128)
def InB (wy:Int) (f:Nat) (n:Int):Prop:=-(128 ^ f:Int)≤n∧n<128 ^ f∧(wy=2∨wy=1∧0≤n)
theorem ZkV (d:Int):ab 1 d=0:=rfl
theorem ZqL (d:Int):ab 2 d=-(d/64%2):=rfl
theorem InB.next {wy:Int} {f:Nat} {n:Int} (h:InB wy (f+1) n):InB wy f (n/128):=by
 unfold InB at *
 rw [Int.pow_succ] at h
 omega
theorem InB.last {wy:Int} {n:Int} (h:InB wy 0 n):n/128=ab wy (n%128):=by
 unfold InB at h
 obtain⟨h1,h2,h3⟩:=h
 rw [Int.pow_zero] at h1 h2
 rcases h3 with rfl | ⟨rfl,h3⟩
 ·have:n=0∨n=-1:=by omega
  rcases this with rfl | rfl <;> rfl
 ·have:n=0:=by omega
  subst this
  rfl
theorem InB.start {wy:Int} {n:Int} (h1:-9223372036854775808≤n) (h2:n≤9223372036854775807) (h3:wy=2∨wy=1∧0≤n):InB wy 9 n:=by
 unfold InB
 refine⟨?_,?_,h3⟩
 ·show -(9223372036854775808:Int)≤n
  exact h1
 ·show n<(9223372036854775808:Int)
  omega
theorem InB.bound {wy:Int} {f:Nat} {m:Int} (h:InB wy f m) (hf:f≤9):-9223372036854775808≤m∧m≤9223372036854775807:=by
 have e:(128:Int) ^ f≤128 ^ 9:=by exact_mod_cast Nat.pow_le_pow_right (show 0<128 by omega) hf
 have e9:(128:Int) ^ 9=9223372036854775808:=rfl
 unfold InB at h
 omega
def magI (n:Int):Nat:=(if 0≤n then n else -n-1).toNat
def mag (v:Value):Nat:=magI (RowKit.intOf v)
theorem Znw {wy:Int} {f:Nat} {m:Int} (h:InB wy f m) (hc:¬ m/128=ab wy (m%128)):mag (.int .i64 (m/128))<mag (.int .i64 m):=by
 have h3:=h.2.2
 have n0:¬ m=0:=by
  rintro rfl
  apply hc
  rcases h3 with rfl | ⟨rfl,_⟩ <;> rfl
 have n1:¬ m=-1:=by
  rintro rfl
  apply hc
  rcases h3 with rfl | ⟨rfl,h⟩
  ·rfl
  ·omega
 show magI (m/128)<magI m
 unfold magI
 by_cases h0:0≤m
 ·rw [if_pos h0,if_pos (by omega)]
  omega
 ·rw [if_neg h0,if_neg (by omega)]
  omega
theorem ZqN (m:Int):bits .and .i64 m 127=m%128:=by
 show IntKind.i64.wrap ((BitVec.ofInt 64 m &&& BitVec.ofInt 64 127).toNat:Int)=_
 have h1:(BitVec.ofInt 64 m &&& BitVec.ofInt 64 127).toNat=(BitVec.ofInt 64 m).toNat%128:=by
  rw [BitVec.toNat_and]
  exact Nat.and_two_pow_sub_one_eq_mod _ 7
 rw [h1,BitVec.toNat_ofInt,IntKind.wrap_i64]
 omega
theorem ZtE (d:Int) (h0:0≤d) (h1:d<128):bits .or .u8 d 128=d+128:=by
 have h:∀ x:Fin 128,bits .or .u8 (x.val:Int) 128=(x.val:Int)+128:=by decide +kernel
 have:=h ⟨d.toNat,by omega⟩
 rwa [show ((d.toNat:Nat):Int)=d by omega] at this
theorem Zc1 {wy m:Int} (f:Nat) (h:m/128=ab wy (m%128)):dg wy (f+1) m=[m%128]:=by
 unfold dg
 rw [if_pos h]
theorem ZeP {wy m:Int} (f:Nat) (h:¬ m/128=ab wy (m%128)):dg wy (f+1) m=(m%128+128) :: dg wy f (m/128):=by
 rw [dg,if_neg h]
theorem Zk0 (wy:Int):∀ (f:Nat) (n:Int),(dg wy f n).length≤f:=by
 intro f
 induction f with
 | zero=>intro n;simp [dg]
 | succ f ih =>
  intro n
  unfold dg
  split
  ·simp
  ·have:=ih (n/128)
   simp
   omega
def fb:List Int→Nat
 | []=>0
 | x :: r=>if x<128 then 0 else fb r+1
theorem ZrO:∀ l:List Int,fb l≤l.length:=by
 intro l
 induction l with
 | nil=>simp [fb]
 | cons x r ih =>
  unfold fb
  split
  ·simp
  ·simp
   omega
theorem Ztf:∀ (l:List Int) (k:Nat),k≤l.length→(∀ j,j<k→128≤gi l j)→k≤fb l:=by
 intro l
 induction l with
 | nil=>intro k hk _;simp at hk;omega
 | cons x r ih =>
  intro k hk h
  match k with
  | 0=>omega
  | k+1 =>
   have h0:128≤x:=h 0 (by omega)
   unfold fb
   rw [if_neg (by omega)]
   have:=ih k (by simpa using hk) (fun j hj=>h (j+1) (by omega))
   omega
theorem ZtO:∀ (l:List Int) (k:Nat),k<l.length→(∀ j,j<k→128≤gi l j)→gi l k<128→fb l=k:=by
 intro l
 induction l with
 | nil=>intro k hk;simp at hk
 | cons x r ih =>
  intro k hk h hlt
  match k with
  | 0 =>
   have h0:x<128:=hlt
   unfold fb
   rw [if_pos h0]
  | k+1 =>
   have h0:128≤x:=h 0 (by omega)
   unfold fb
   rw [if_neg (by omega),ih k (by simpa using hk) (fun j hj=>h (j+1) (by omega)) hlt]
def spn (most:Nat) (l:List Int):Int × Int:=if most≤fb l then (0,4) else if fb l=l.length then (0,3) else ((fb l:Int)+1,0)
theorem ZpK {most:Nat} {l:List Int} (h:most≤l.length) (hg:∀ j,j<most→128≤gi l j):spn most l=(0,4):=by
 unfold spn
 rw [if_pos (Ztf l most h hg)]
theorem Zsm {most:Nat} {l:List Int} (h:l.length<most) (hg:∀ j,j<l.length→128≤gi l j):spn most l=(0,3):=by
 have h1:=Ztf l l.length (by omega) hg
 have h2:=ZrO l
 unfold spn
 rw [if_neg (by omega),if_pos (by omega)]
theorem Zto {most k:Nat} {l:List Int} (h:k<l.length) (hm:k<most) (hg:∀ j,j<k→128≤gi l j) (hk:gi l k<128):spn most l=((k:Int)+1,0):=by
 have e:=ZtO l k h hg hk
 unfold spn
 rw [e,if_neg (by omega),if_neg (by omega)]
def wof (acc:Int):List Int→Int
 | []=>acc
 | x :: r=>IntKind.i64.wrap (wof acc r*128+x%128)
def wo (wy:Int) (l:List Int):Int:=wof (ab wy (gi l (l.length-1))) l
theorem Zm4 (acc:Int) (h:-9223372036854775808≤acc∧acc≤9223372036854775807):∀ l,-9223372036854775808≤wof acc l∧wof acc l≤9223372036854775807:=by
 intro l
 cases l with
 | nil=>exact h
 | cons x r =>
  unfold wof
  rw [IntKind.wrap_i64]
  omega
theorem ZoW (wy d:Int) (h:0≤d∧d≤255):-1≤ab wy d∧ab wy d≤0:=by
 unfold ab
 split
 ·omega
 ·split <;> omega
theorem Zkn (wy:Int) (l:List Int) (hl:0<l.length) (hf:Fit .u8 l):-9223372036854775808≤wo wy l∧wo wy l≤9223372036854775807:=by
 have h:=hf.u8 (Zbb (l:=l) (j:=l.length-1) (by omega))
 have:=ZoW wy (gi l (l.length-1)) (by omega)
 exact Zm4 _ (by omega) l
theorem Znr {l:List Int} {k:Nat} (h:k<l.length):l.drop k=gi l k :: l.drop (k+1):=by
 rw [List.drop_eq_getElem_cons h]
 simp [gi,h]
theorem Zpp (acc:Int) {l:List Int} {k:Nat} (h:k<l.length):wof acc (l.drop k)=IntKind.i64.wrap (wof acc (l.drop (k+1))*128+gi l k%128):=by
 rw [Znr h,wof]
theorem Zo4 (n d:Int) (h0:0≤d) (h1:d<128):bits .or .i64 (RowKit.wrap64 (n*128)) d=IntKind.i64.wrap (n*128+d):=by
 rw [← IntWalk.i64_left]
 show IntKind.i64.wrap ((BitVec.ofInt 64 (IntKind.i64.wrap (n*128)) ||| BitVec.ofInt 64 d).toNat:Int)=_
 have e1:(BitVec.ofInt 64 (IntKind.i64.wrap (n*128))).toNat=2 ^ 7*(n%144115188075855872).toNat:=by
  rw [BitVec.toNat_ofInt,IntKind.wrap_i64]
  omega
 have e2:(BitVec.ofInt 64 d).toNat=d.toNat:=by
  rw [BitVec.toNat_ofInt]
  omega
 rw [BitVec.toNat_or,e1,e2,← Nat.two_pow_add_eq_or_of_lt (by omega),IntKind.wrap_i64,IntKind.wrap_i64]
 omega
theorem Zns (n d:Int) (h0:0≤d) (h1:d<256):bits .or .i64 (RowKit.wrap64 (n*256)) d=IntKind.i64.wrap (n*256+d):=by
 rw [← IntWalk.i64_left]
 show IntKind.i64.wrap ((BitVec.ofInt 64 (IntKind.i64.wrap (n*256)) ||| BitVec.ofInt 64 d).toNat:Int)=_
 have e1:(BitVec.ofInt 64 (IntKind.i64.wrap (n*256))).toNat=2 ^ 8*(n%72057594037927936).toNat:=by
  rw [BitVec.toNat_ofInt,IntKind.wrap_i64]
  omega
 have e2:(BitVec.ofInt 64 d).toNat=d.toNat:=by
  rw [BitVec.toNat_ofInt]
  omega
 rw [BitVec.toNat_or,e1,e2,← Nat.two_pow_add_eq_or_of_lt (by omega),IntKind.wrap_i64,IntKind.wrap_i64]
 omega
theorem Zqf (x:Int) (h0:0≤x) (h1:x<256):bits .and .u8 x 127=x%128:=by
 have h:∀ x:Fin 256,bits .and .u8 (x.val:Int) 127=(x.val:Int)%128:=by decide +kernel
 have:=h ⟨x.toNat,by omega⟩
 rwa [show ((x.toNat:Nat):Int)=x by omega] at this
def uS (n:Int):List Int × Int:=if n<0∨9007199254740991<n then ([],9) else (dg 1 10 n,0)
def tS (most:Nat) (wy:Int) (l:List Int):Int × List Int × Int :=
 if (spn most l).2=0 then
  (if l.take (fb l+1)=dg wy 10 (wo wy (l.take (fb l+1))) then (wo wy (l.take (fb l+1)),l.drop (fb l+1),0) else (0,[],4))
 else (0,[],(spn most l).2)
def tU (l:List Int):Int × List Int × Int:=if 9007199254740991<(tS 8 1 l).1 then (0,[],4) else tS 8 1 l
def bf (acc:Int) (l:List Int):Int:=l.foldl (fun n b=>IntKind.i64.wrap (n*256+b)) acc
def tB (most:Int) (wy:Int) (l:List Int) (size:Int):Int × List Int × Int :=
 if size<1∨most<size then (0,[],2) else if (l.length:Int)<size then (0,[],3) else (bf (ab wy (gi l 0)) (l.take size.toNat),l.drop size.toNat,0)
theorem Zr5 (most:Nat) (l:List Int):(spn most l).2=4∨(spn most l).2=3∨(spn most l).2=0:=by
 unfold spn
 split
 ·exact .inl rfl
 ·split
  ·exact .inr (.inl rfl)
  ·exact .inr (.inr rfl)
theorem ZfC {most:Nat} {l:List Int} (h:(spn most l).2=0):spn most l=((fb l:Int)+1,0)∧fb l<most∧fb l<l.length:=by
 have hl:=ZrO l
 unfold spn at *
 split at h
 ·simp at h
 ·rename_i h1
  split at h
  ·simp at h
  ·rename_i h2
   rw [if_neg h1,if_neg h2]
   exact⟨rfl,by omega,by omega⟩
theorem Ztn {most:Nat} {wy:Int} {l:List Int} (h:¬ (spn most l).2=0):tS most wy l=(0,[],(spn most l).2):=by
 unfold tS
 rw [if_neg h]
theorem Zn6:∀ (l:List Int),l.length≤8→0≤wof 0 l∧wof 0 l<128 ^ l.length:=by
 intro l
 induction l with
 | nil=>intro _;simp [wof]
 | cons x r ih =>
  intro h
  have h':r.length≤7:=by simpa using h
  obtain⟨i1,i2⟩:=ih (by omega)
  have e:(128:Int) ^ r.length≤128 ^ 7:=by exact_mod_cast Nat.pow_le_pow_right (show 0<128 by omega) h'
  have e7:(128:Int) ^ 7=562949953421312:=rfl
  unfold wof
  rw [List.length_cons,Int.pow_succ,IntKind.wrap_i64]
  omega
theorem ZqH (l:List Int) (h:l.length≤8):0≤wo 1 l∧wo 1 l<72057594037927936:=by
 obtain⟨h1,h2⟩:=Zn6 l h
 have e:(128:Int) ^ l.length≤128 ^ 8:=by exact_mod_cast Nat.pow_le_pow_right (show 0<128 by omega) h
 have e8:(128:Int) ^ 8=72057594037927936:=rfl
 unfold wo
 rw [ZkV]
 omega
def isK (l:List Cst) (i k:Int):Bool:=decide (1≤i)&&(decide (i<l.length)&&decide ((gc l i.toNat).k=k))
theorem Zjb {l:List Cst} {i k:Int} (h:isK l i k=true):∃ j:Nat,i=j∧1≤j∧j<l.length∧(gc l j).k=k:=by
 simp [isK] at h
 exact⟨i.toNat,by omega,by omega,by omega,h.2.2⟩
end Go.Proofs.YtclamhhgldkhnaaGreatDoor
namespace Go.Proofs.YtclamhhgldkhnaaGreatDoor
open Go.RowKit
set_option linter.unusedVariables false
noncomputable def eqC (x y:Cst):Bool:=@decide (x=y) (Classical.propDecidable _)
noncomputable def eqLP (l m:List Cst):Bool:=@decide (l=m) (Classical.propDecidable _)
theorem ZhM {x y:Cst} (h:x=y):eqC x y=true:=@decide_eq_true _ (Classical.propDecidable _) h
theorem Znu {x y:Cst} (h:¬ x=y):eqC x y=false:=@decide_eq_false _ (Classical.propDecidable _) h
theorem Zoa {l m:List Cst} (h:l=m):eqLP l m=true:=@decide_eq_true _ (Classical.propDecidable _) h
theorem ZmE {l m:List Cst} (h:¬ l=m):eqLP l m=false:=@decide_eq_false _ (Classical.propDecidable _) h
theorem Cst.ext_ {x y:Cst} (h0:x.k=y.k) (h1:x.t=y.t) (h2:x.n=y.n) (h3:x.a=y.a) (h4:x.b=y.b) (h5:x.c=y.c):x=y:=by
 cases x;cases y
 simp only at h0 h1 h2 h3 h4 h5
 subst h0 h1 h2 h3 h4 h5
 rfl
theorem toList_inj {a b:ByteArray} (h:a.toList=b.toList):a=b:=by
 rw [ByteArray.toList_eq,ByteArray.toList_eq] at h
 exact ByteArray.ext (Array.toList_inj.1 h)
theorem Zdg {b c:Bool} (h:b=c):Ending.returned (.bool b)=.returned (.bool c):=by rw [h]
theorem Zh5 (x y:Cst) (W:World):(binOp .neq 49 (.agg x.vals) (.agg y.vals)).run Tryz.prog W=.ok (.bool (!eqC x y)) W:=by
 unfold Cst.vals
 go_simp
 by_cases h:x=y
 ·rw [ZhM h,h]
  simp
 ·rw [Znu h]
  (repeat' split) <;> first | rfl | (exact(h (Cst.ext_ ‹x.k=y.k› (toList_inj ‹x.t.toList=y.t.toList›) ‹x.n=y.n› ‹x.a=y.a› ‹x.b=y.b› ‹x.c=y.c›)).elim)
theorem ZcF {l:List Cst} {k:Nat} (h:k<l.length):l.take (k+1)=l.take k++[gc l k]:=by
 rw [List.take_succ_eq_append_getElem h]
 simp [gc,h]
theorem ZtC {l m:List Cst} {k:Nat} (h:¬ gc l k=gc m k):¬ l=m:=fun e=>h (by rw [e])
theorem ZiC (v1 v2:Value) (l m:List Cst) (w:World) (h1:RowC w v1 l) (h2:RowC w v2 m) :
 Calls Tryz.prog 37 #[v1,v2] w (Ztp w (.bool (eqLP l m))):=by
 obtain⟨A1,c1,rfl,hc1,hm1,ha1,hf1,hg1⟩:=h1
 obtain⟨A2,c2,rfl,hc2,hm2,ha2,hf2,hg2⟩:=h2
 unfold maxLen at hm1 hm2
 by_cases hl:l.length=m.length
 ·obtain⟨n,hn⟩:∃ n,n=l.length:=⟨_,rfl⟩
  rw [← hn] at hc1 hg1
  rw [← hl,← hn] at hc2 hg2
  rw [← hn,← hl,← hn]
  have Hn:=Lh hn
  have Hl:=Lh hl
  clear hn hl ha1 ha2
  go_enter Tryz.func37,Tryz.ntmps37
  go_wp2
  go_loopw [5] (fun i wr=>∃ k q:Nat,k≤n∧i=.int .i64 k∧wr=w.drewN q∧l.take k=m.take k) (fun i _=>n-(intOf i).toNat)
  case atStart=>exact⟨0,0,by omega,rfl,rfl,rfl⟩
  case round =>
   obtain⟨k,q,hk,rfl,rfl,ht⟩:=hrel
   have Ht:=Lh ht
   clear ht
   by_cases hlt:k<n
   ·obtain⟨b1,o1,rfl,hb1,hx1⟩:=hg1 (by omega)
    obtain⟨b2,o2,rfl,hb2,hx2⟩:=hg2 (by omega)
    obtain⟨y0,y1,y2,y3,y4,y5⟩:=hx1 k hlt
    obtain⟨z0,z1,z2,z3,z4,z5⟩:=hx2 k hlt
    have hne:=fun W=>Zh5 (gc l k) (gc m k) W
    unfold Cst.vals at hne
    clear hx1 hx2
    by_cases he:gc l k=gc m k
    ·rw [ZhM he] at hne
     have HE:=Lh he
     clear he
     go_wp2
     go_quiet (fail)
     go_wp2
     refine⟨⟨k+1,q+nq,by omega,by go_num,rfl,?_⟩,by simp [intOf];omega⟩
     rw [ZcF (by have:=Hn.out;omega),ZcF (by have:=Hn.out;have:=Hl.out;omega),Ht.out,HE.out]
    ·rw [Znu he] at hne
     have HE:=Lh (ZmE (ZtC he))
     clear he
     go_wp2
     go_quiet (fail)
     go_wp2
     go_ret
     exact⟨Zdg HE.out.symm,q+nq,by rw [World.drewN_drewN]⟩
   ·go_wp2
    go_ret
    refine⟨Zdg ?_,_,rfl⟩
    have hk':k=n:=by omega
    have e:l=m:=by
     have:=Ht.out
     rw [hk',Hn.out] at this
     rwa [List.take_length,Hl.out,List.take_length] at this
    rw [Zoa e]
 ·have hb:((l.length:Int) != (m.length:Int))=true:=by simp;omega
  have Hne:=Lh (ZmE (show ¬ l=m from fun h=>hl (by rw [h])))
  clear hg1 hg2 ha1 ha2 hf1 hf2 hl
  go_enter Tryz.func37,Tryz.ntmps37
  go_wp2
  go_ret
  exact⟨Zdg Hne.out.symm,0,rfl⟩
theorem Zf3 (v:Value) (l:List Cst) (i k:Int) (w:World) (h:RowC w v l) (hi:I64 i) (hk:I64 k) :
 Calls Tryz.prog 134 #[v,.int .i64 i,.int .i64 k] w fun e w'=>e=.returned (.bool (isK l i k))∧w=w':=by
 obtain⟨hi0,hi1⟩:=hi
 obtain⟨A,c,rfl,h2,h3,h4,h5,h6⟩:=h
 unfold maxLen at h3
 by_cases h1:1≤i
 ·obtain⟨j,rfl⟩:∃ j:Nat,i=j:=⟨i.toNat,by omega⟩
  by_cases hlt:(j:Int)<l.length
  ·obtain⟨b,o,rfl,_,hc⟩:=h6 (by omega)
   obtain⟨a0,a1,a2,a3,a4,a5⟩:=hc j (by omega)
   have e:isK l j k=((gc l j).k==k):=by
    simp [isK,h1,hlt]
    rfl
   rw [e]
   clear hc h6 e
   go_enter Tryz.func134,Tryz.ntmps134
   go_wp2
   go_ret
   exact⟨rfl,rfl⟩
  ·have e:isK l j k=false:=by simp [isK];omega
   rw [e]
   clear h6 e
   go_enter Tryz.func134,Tryz.ntmps134
   go_wp2
   go_ret
   exact⟨rfl,rfl⟩
 ·have e:isK l i k=false:=by simp [isK];omega
  rw [e]
  clear h6 e
  go_enter Tryz.func134,Tryz.ntmps134
  go_wp2
  go_ret
  exact⟨rfl,rfl⟩
def RetB (w:World) (b:Bool) (e:Ending) (w':World):Prop:=e=.returned (.bool b)∧Ext w w'
theorem Zfr {w:World} {k:IntKind} {A:Option Addr} {c:Nat} (hA:A=none→c=0) (hc:c≤maxLen):Row w k (.slice A 0 c) [] :=
 ⟨A,c,rfl,Nat.zero_le _,hc,hA,Fit.nil _,fun h=>by simp at h⟩
theorem ZbC {w:World} {v:Value} {b:List Int} (h:Row w .u8 v b) (q:Nat) (hq:q≤b.length) :
 ∃ v2,(∀ W,(Instr.sliceAt 29 v none (some (.int .i64 q)) none).run Tryz.prog W=.ok v2 W)∧(∀ W,(Instr.slice 29 v none (some (.int .i64 q)) none).run Tryz.prog W=.ok v2 W)∧Row w .u8 v2 (b.take q):=by
 have hk:=h
 obtain⟨A,c,rfl,h2,h3,h4,h5,h6⟩:=h
 have k1:¬ c<q:=by omega
 have k3:q≤c:=by omega
 by_cases hb:b.length=0
 ·have hq0:q=0:=by omega
  subst hq0
  have e:b=[]:=List.eq_nil_of_length_eq_zero hb
  subst e
  by_cases hc:c=0
  ·subst hc
   exact⟨.slice A 0 0,fun W=>by go_simp,fun W=>by go_simp,Zfr (fun _=>rfl) h3⟩
  ·obtain⟨ad,rfl⟩:∃ ad,A=some ad:=by
    cases A with
    | none=>exact absurd (h4 rfl) hc
    | some ad=>exact⟨ad,rfl⟩
   exact⟨.slice (some (ad.add 0)) 0 c,fun W=>by go_simp,fun W=>by go_simp,Zfr (fun h=>by cases h) h3⟩
 ·obtain⟨bl,o,rfl,h7,h8⟩:=h6 (by omega)
  have k2:¬ c=0:=by omega
  clear h6 h8
  exact⟨_,fun W=>by go_simp,fun W=>by go_simp,Row.head hk q hq⟩
def ZrV (T:TypeId) (w:World) (v:Value) (l:List Int):Prop:=0<l.length→∃ b o n c cur,v=.slice (some ⟨b,o,none⟩) n c∧w.heap[b]?=some (.cells cur T (0,0))
theorem Zij (T:TypeId) (w:World) (v:Value):ZrV T w v []:=fun h=>by simp at h
theorem Zjz {w:World} {v:Value} {b:List Int} (h:Row w .u8 v b) (q:Nat) (hq:q≤b.length) :
 ∃ v2,(∀ W,(Instr.sliceAt 29 v (some (.int .i64 q)) none none).run Tryz.prog W=.ok v2 W)∧(∀ W,(Instr.slice 29 v (some (.int .i64 q)) none none).run Tryz.prog W=.ok v2 W)∧Row w .u8 v2 (b.drop q)∧∀ T,ZrV T w v b→Hid (ZrV T w v2 (b.drop q)):=by
 have hk:=h
 obtain⟨A,c,rfl,h2,h3,h4,h5,h6⟩:=h
 have k1:¬ b.length<q:=by omega
 have k3:q≤c:=by omega
 by_cases hc:c=q
 ·have e:b.drop q=[]:=List.drop_eq_nil_iff.2 (by omega)
  rw [e]
  have hlq:b.length=q:=by omega
  have HE:=Lh e
  clear e
  subst hc
  rw [hlq] at *
  exact⟨.slice A 0 0,fun W=>by go_simp,fun W=>by go_simp,Zfr (fun _=>rfl) (by simp [maxLen]),fun T _=>Zij _ _ _⟩
 ·have k4:¬ c=q:=hc
  by_cases hb:b.length=0
  ·have hq0:q=0:=by omega
   subst hq0
   have e:b=[]:=List.eq_nil_of_length_eq_zero hb
   subst e
   obtain⟨ad,rfl⟩:∃ ad,A=some ad:=by
    cases A with
    | none=>exact absurd (h4 rfl) hc
    | some ad=>exact⟨ad,rfl⟩
   exact⟨.slice (some (ad.add 0)) 0 c,fun W=>by go_simp,fun W=>by go_simp,Zfr (fun h=>by cases h) h3,fun T _=>Zij _ _ _⟩
  ·obtain⟨bl,o,rfl,h7,h8⟩:=h6 (by omega)
   clear h6 h8
   exact⟨_,fun W=>by go_simp,fun W=>by go_simp,Row.tail hk q hq,fun T ht=>fun _=>by
    obtain⟨b1,o1,n1,c1,cur,e1,e2⟩:=ht (by omega)
    injection e1 with e1
    injection e1 with e1
    injection e1 with e1 e3
    subst e1
    exact⟨_,_,_,_,cur,rfl,e2⟩⟩
theorem ZbT {w:World} {v:Value} {b:List Int} (h:Row w .u8 v b) (q:Nat) (hq:q≤b.length) :
 ∃ v2,(∀ W,(Instr.sliceAt 29 v (some (.int .i64 q)) none none).run Tryz.prog W=.ok v2 W)∧(∀ W,(Instr.slice 29 v (some (.int .i64 q)) none none).run Tryz.prog W=.ok v2 W)∧Row w .u8 v2 (b.drop q):=by
 obtain⟨v2,h1,h2,h3,_⟩:=Zjz h q hq
 exact⟨v2,h1,h2,h3⟩
end Go.Proofs.YtclamhhgldkhnaaGreatDoor
namespace Go.Proofs.YtclamhhgldkhnaaGreatDoor
open Go.RowKit
theorem ZcI (v:Value) (l:List Int) (w:World) (h:Row w .u8 v l) (hl:l.length≤140737488355328) :
 Calls Tryz.prog 144 #[v] w (Ret w (fun v' w'=>Own w.heap.size w' 5 .u8 v' l)):=by
 obtain⟨A,c,rfl,h2,h3,h4,h5,h6⟩:=h
 have hq:=fun(W:World) (A:Option Addr) (n c:Nat)=>Lib.run_eql_slice_nil (P:=Tryz.prog) W 29 5 A n c 0 0 Tryz.underlying29
 rcases A with _ | ad
 ·have hc:=h4 rfl
  have hl:l=[]:=List.eq_nil_of_length_eq_zero (by omega)
  subst hl
  subst hc
  clear h6 h5 h4
  go_enter Tryz.func144,Tryz.ntmps144
  go_wp2
  go_ret
  exact Ret.mk (Own.nil _ _ _ _) (Ext.refl _)
 ·have h:Row w .u8 (.slice (some ad) l.length c) l:=⟨_,_,rfl,h2,h3,h4,h5,h6⟩
  clear h6 h5 h4
  go_enter Tryz.func144,Tryz.ntmps144
  go_wp2_with (at_builtin;go_loud (refine wpList_app _ rfl _ _ w.heap.size 29 5 _ 1 .u8 rfl Tryz.underlying29 Zaq rfl (by omega) _ [] rfl (Own.made _ _ _ _ (Nat.le_refl _)) _ l rfl ?hh (by simp;omega) (by simp) ?_))
  case hh=>exact h.ext ((Ext.refl _).alloc _)
  intro v' w' ho hg _
  go_wp2
  go_ret
  exact Ret.mk (by simpa using ho) (((Ext.refl _).alloc _).grown hg (fun g hg=>by simp [Value.ownBlock] at hg;omega))
end Go.Proofs.YtclamhhgldkhnaaGreatDoor
namespace Go.Proofs.YtclamhhgldkhnaaGreatDoor
open Go.RowKit
set_option linter.unusedVariables false
theorem ZeS (d wy:Int) (w:World) (h0:0≤d) (h1:d≤255) (hw:wy=1∨wy=2∨wy=3∨wy=4) :
 Calls Tryz.prog 190 #[.int .u8 d,.int .i64 wy] w fun e w'=>e=.returned (.int .i64 (ab wy d))∧w=w':=by
 rcases hw with rfl | rfl | rfl | rfl
 all_goals
  go_enter Tryz.func190,Tryz.ntmps190
  go_wp2
  go_ret
  refine⟨congrArg (fun x:Int=>Ending.returned (.int .i64 x)) ?_,rfl⟩
  simp [ab]
  try omega
theorem ZcG (n wy:Int) (w:World) (h:InB wy 9 n) (hl:-9223372036854775808≤n) (hh:n≤9223372036854775807) :
 Calls Tryz.prog 158 #[.int .i64 n,.int .i64 wy] w (Ret w (fun v' w'=>Own w.heap.size w' 5 .u8 v' (dg wy 10 n))):=by
 go_enter Tryz.func158,Tryz.ntmps158
 go_wp2_with fail
 refine ZaO 0 (fun a' w'=>∃ (f:Nat) (m:Int) (pre:List Int) (v u6 u7 u8 u9 u10 u11 u12 u13 u14 u15 u16 u17 u18 u19 u20 u21 u22 u23 u24 u25:Value),a'={ tmps:=#[.int .i64 m,.int .i64 wy,undef,undef,.slice none 0 0,v,u6,u7,u8,u9,u10,u11,u12,u13,u14,u15,u16,u17,u18,u19,u20,u21,u22,u23,u24,u25],defers:=[] }∧Ext w w'∧Own w.heap.size w' 5 .u8 v pre∧f≤9∧pre.length+f=9∧InB wy f m∧Hid (dg wy 10 n=pre++dg wy (f+1) m)) (fun a' _=>mag (a'.tmps.getD 0 undef)) rfl ?_ ?_
 ·rintro a' w' ⟨f,m,pre,v,u6,u7,u8,u9,u10,u11,u12,u13,u14,u15,u16,u17,u18,u19,u20,u21,u22,u23,u24,u25,rfl,he,ho,hf,hpl,hb,HD⟩
  go_wp2_with fail
  have hd:0≤m%128∧m%128≤255:=by omega
  have hwy:wy=1∨wy=2∨wy=3∨wy=4:=by have:=hb.2.2;omega
  have hm:=hb.bound hf
  have ha:=ZqN
  have ho128:=ZtE (m%128) (by omega) (by omega)
  have h256:m%128%256=m%128:=by omega
  have Hpl:=Lh hpl
  have hpl2:pre.length≤9:=by omega
  clear hpl
  by_cases hc:m/128=ab wy (m%128)
  ·have hcb:(m/128==ab wy (m%128))=true:=by simpa using hc
   have Hc:=Lh hc
   clear hc ho128
   go_wp2_with (first
    | (go_at_call 190;refine(ZeS _ _ _ (by omega) (by omega) (by omega)).mono ?_;rintro e w1 ⟨rfl,rfl⟩)
    | (at_builtin;go_loud (refine wpList_app _ rfl _ _ w.heap.size 29 5 _ 1 .u8 rfl Tryz.underlying29 Zaq rfl (by omega) _ pre rfl (ho.ext ((Ext.refl _).alloc _)) _ [m%128] rfl (Row.built1 _ _ _ _ (Zbp (by omega) (by omega))) (by simp;omega) (by have:=he.size;simp;omega) ?_)))
   intro v' w2 ho2 hg2 _
   go_wp2
   simp only [Exit.jump]
   go_ret
   refine Ret.mk ?_ ((he.alloc _).grown hg2 ho.low)
   rw [HD.out,Zc1 f Hc.out]
   exact ho2
  ·have hcb:(m/128==ab wy (m%128))=false:=by simpa using hc
   have Hc:=Lh hc
   clear hc
   have hf1:¬ f=0:=by
    intro h0
    subst h0
    exact Hc.out hb.last
   go_wp2_with (first
    | (go_at_call 190;refine(ZeS _ _ _ (by omega) (by omega) (by omega)).mono ?_;rintro e w1 ⟨rfl,rfl⟩)
    | (at_builtin;go_loud (refine wpList_app _ rfl _ _ w.heap.size 29 5 _ 1 .u8 rfl Tryz.underlying29 Zaq rfl (by omega) _ pre rfl (ho.ext ((Ext.refl _).alloc _)) _ [m%128+128] rfl (Row.built1 _ _ _ _ (Zbp (by omega) (by omega))) (by simp;omega) (by have:=he.size;simp;omega) ?_)))
   intro v' w2 ho2 hg2 _
   go_wp2
   go_step3
   obtain⟨f',rfl⟩:∃ f',f=f'+1:=⟨f-1,by omega⟩
   refine⟨rfl,⟨f',m/128,pre++[m%128+128],_,_,_,_,_,_,_,_,_,_,_,_,_,_,_,_,_,_,_,_,_,rfl,(he.alloc _).grown hg2 ho.low,ho2,by omega,?_,hb.next,?_⟩,?_⟩
   ·have:=Hpl.out
    simp
    omega
   ·have e:=HD.out
    rw [ZeP _ Hc.out] at e
    rw [Hid,e]
    simp
   ·exact Znw hb Hc.out
 ·intro key
  go_wp2_with fail
  rename_i K hK
  go_step3
  refine hK _ _ (key _ _ ⟨9,n,[],_,_,_,_,_,_,_,_,_,_,_,_,_,_,_,_,_,_,_,_,_,rfl,Ext.refl _,Own.nil _ _ _ _,by omega,rfl,h,rfl⟩)
theorem Zts (n:Int) (w:World) (hl:-9223372036854775808≤n) (hh:n≤9223372036854775807) :
 Calls Tryz.prog 111 #[.int .i64 n] w (Ret w (fun v' w'=>Own w.heap.size w' 5 .u8 v' (dg 2 10 n))):=by
 go_enter Tryz.func111,Tryz.ntmps111
 go_wp2_with (go_at_call 158;refine(ZcG n 2 _ (InB.start hl hh (.inl rfl)) hl hh).mono ?_;rintro e w' ⟨v',rfl,ho,he⟩)
 go_ret
 exact Ret.mk ho he
def Znt (w:World) (l:List Int) (x:Int) (v:Value) (w':World):Prop:=∃ b,v=.tuple #[b,.int .i64 x]∧Own w.heap.size w' 5 .u8 b l
theorem ZsA (n:Int) (w:World) (hl:-9223372036854775808≤n) (hh:n≤9223372036854775807) :
 Calls Tryz.prog 109 #[.int .i64 n] w (Ret w (Znt w (uS n).1 (uS n).2)):=by
 by_cases h0:n<0
 ·have e:uS n=([],9):=by unfold uS;rw [if_pos (.inl h0)]
  rw [e]
  clear e
  go_enter Tryz.func109,Tryz.ntmps109
  go_wp2
  go_ret2
  exact Ret.mk ⟨_,rfl,Own.nil _ _ _ _⟩ (Ext.refl _)
 ·by_cases h1:9007199254740991<n
  ·have e:uS n=([],9):=by unfold uS;rw [if_pos (.inr h1)]
   rw [e]
   clear e
   go_enter Tryz.func109,Tryz.ntmps109
   go_wp2
   go_ret2
   exact Ret.mk ⟨_,rfl,Own.nil _ _ _ _⟩ (Ext.refl _)
  ·have e:uS n=(dg 1 10 n,0):=by unfold uS;rw [if_neg (by omega)]
   rw [e]
   clear e
   go_enter Tryz.func109,Tryz.ntmps109
   go_wp2_with (go_at_call 158;refine(ZcG n 1 _ (InB.start hl hh (.inr ⟨rfl,by omega⟩)) hl hh).mono ?_;rintro e w' ⟨v',rfl,ho,he⟩)
   go_ret2
   exact Ret.mk ⟨_,rfl,ho⟩ he
theorem Zfq (v:Value) (l:List Int) (most:Nat) (w:World) (h:Row w .u8 v l) (hm:most≤10) :
 Calls Tryz.prog 243 #[v,.int .i64 most] w fun e w'=>e=.returned (.tuple #[.int .i64 (spn most l).1,.int .i64 (spn most l).2])∧w=w':=by
 obtain⟨A,c,rfl,h2,h3,h4,h5,h6⟩:=h
 unfold maxLen at h3
 go_enter Tryz.func243,Tryz.ntmps243
 go_wp2_with fail
 refine ZaO 0 (fun a' w'=>∃ (k:Nat) (u7 u8 u9 u10 u11 u12 u13 u14 u15 u16 u17 u18 u19 u20 u21 u22:Value),a'={ tmps:=#[.slice A l.length c,.int .i64 most,undef,undef,.int .i64 0,.int .i64 0,.int .i64 k,u7,u8,u9,u10,u11,u12,u13,u14,u15,u16,u17,u18,u19,u20,u21,u22],defers:=[] }∧w=w'∧k≤most∧k≤l.length∧Hid (∀ j,j<k→128≤gi l j)) (fun a' _=>10-(intOf (a'.tmps.getD 6 undef)).toNat) rfl ?_ ?_
 ·rintro a' w' ⟨k,u7,u8,u9,u10,u11,u12,u13,u14,u15,u16,u17,u18,u19,u20,u21,u22,rfl,rfl,hk,hkl,HG⟩
  by_cases hkm:k=most
  ·subst hkm
   go_wp2
   simp only [Exit.jump]
   go_ret2
   rw [ZpK hkl HG.out]
   exact⟨rfl,rfl⟩
  ·have hb1:((k:Int)==(most:Int))=false:=by simp;omega
   by_cases hkn:k=l.length
   ·have hb2:((k:Int)==(l.length:Int))=true:=by simp;omega
    have Hkn:=Lh hkn
    clear hkn
    go_wp2
    simp only [Exit.jump]
    go_ret2
    rw [Zsm (l:=l) (most:=most) (by have:=Hkn.out;omega) (by rw [← Hkn.out];exact HG.out)]
    exact⟨rfl,rfl⟩
   ·have hb2:((k:Int)==(l.length:Int))=false:=by simp;omega
    obtain⟨b,o,rfl,hb,hx⟩:=h6 (by omega)
    have hy:=hx k (by omega)
    have hfit:=h5.u8 (Zbb (l:=l) (j:=k) (by omega))
    have hkm':k<most:=by omega
    have hkn':k<l.length:=by omega
    clear hx h6 h4 hkm hkn
    by_cases hc:gi l k<128
    ·go_wp2
     simp only [Exit.jump]
     go_ret2
     rw [Zto hkn' hkm' HG.out hc]
     exact⟨rfl,rfl⟩
    ·go_wp2
     go_step3
     refine⟨rfl,⟨k+1,_,_,_,_,_,_,_,_,_,_,_,_,_,_,_,_,by go_num,rfl,by omega,by omega,?_⟩,?_⟩
     ·intro j hj
      by_cases hjk:j=k
      ·subst hjk
       omega
      ·exact HG.out j (by omega)
     ·simp [intOf]
      omega
 ·intro key
  go_wp2_with fail
  rename_i K hK
  go_step3
  exact hK _ _ (key _ _ ⟨0,_,_,_,_,_,_,_,_,_,_,_,_,_,_,_,_,rfl,rfl,by omega,by omega,fun j hj=>by omega⟩)
theorem Zf5 (v:Value) (l:List Int) (wy:Int) (w:World) (h:Row w .u8 v l) (hl:0<l.length) (hw:wy=1∨wy=2∨wy=3∨wy=4) :
 Calls Tryz.prog 244 #[v,.int .i64 wy] w fun e w'=>e=.returned (.int .i64 (wo wy l))∧w=w':=by
 obtain⟨A,c,rfl,h2,h3,h4,h5,h6⟩:=h
 unfold maxLen at h3
 obtain⟨b,o,rfl,hb,hx⟩:=h6 hl
 have hlast:=hx (l.length-1) (by omega)
 have hfl:=h5.u8 (Zbb (l:=l) (j:=l.length-1) (by omega))
 have HX:=Lh hx
 clear h6 h4 hx
 have hle:1≤l.length:=hl
 have eix:((l.length:Int)-1).toNat=l.length-1:=by omega
 go_enter Tryz.func244,Tryz.ntmps244
 go_wp2_with fail
 refine ZaO 0 (fun a' w'=>∃ (k:Nat) (x:Int) (u7 u8 u9 u10 u11 u12 u13 u14 u15 u16 u17 u18 u19 u20 u21 u22 u23 u24 u25 u26 u27 u28 u29:Value),a'={ tmps:=#[.slice (some ⟨b,o,none⟩) l.length c,.int .i64 wy,undef,undef,.int .i64 0,.int .i64 k,.int .i64 x,u7,u8,u9,u10,u11,u12,u13,u14,u15,u16,u17,u18,u19,u20,u21,u22,u23,u24,u25,u26,u27,u28,u29],defers:=[] }∧w=w'∧0<k∧k≤l.length∧Hid (x=wof (ab wy (gi l (l.length-1))) (l.drop k))) (fun a' _=>(intOf (a'.tmps.getD 5 undef)).toNat) rfl ?_ ?_
 ·rintro a' w' ⟨k,x,u7,u8,u9,u10,u11,u12,u13,u14,u15,u16,u17,u18,u19,u20,u21,u22,u23,u24,u25,u26,u27,u28,u29,rfl,rfl,hk,hkl,HO⟩
  obtain⟨j,rfl⟩:∃ j,k=j+1:=⟨k-1,by omega⟩
  have hy:=HX.out j (by omega)
  have hf:=h5.u8 (Zbb (l:=l) (j:=j) (by omega))
  have hsh:=Zo4 x (gi l j%128) (by omega) (by omega)
  have HN:Hid (wrap64 (x*128+gi l j%128)=wof (ab wy (gi l (l.length-1))) (l.drop j)):=by
   rw [Hid,Zpp (l:=l) (k:=j) _ (by omega),← HO.out,IntWalk.i64_left]
  rw [IntWalk.i64_left] at hsh
  have hand:=Zqf (gi l j) (by omega) (by omega)
  clear hlast eix
  by_cases hj0:0<j
  ·go_wp2
   go_step3
   refine⟨rfl,⟨j,_,_,_,_,_,_,_,_,_,_,_,_,_,_,_,_,_,_,_,_,_,_,_,_,rfl,rfl,by omega,by omega,HN⟩,by simp [intOf]⟩
  ·have hj1:j=0:=by omega
   have hj2:(0<(j:Int))=False:=by simp;omega
   have Hj:=Lh hj1
   clear hj1
   go_wp2
   simp only [Exit.jump]
   go_ret
   have e:=Hj.out
   subst e
   exact⟨congrArg (fun z:Int=>Ending.returned (.int .i64 z)) HN.out,rfl⟩
 ·intro key
  go_wp2_with (go_at_call 190;refine(ZeS _ _ _ (by omega) (by omega) (by omega)).mono ?_;rintro e w1 ⟨rfl,rfl⟩)
  rename_i K hK
  go_step3
  refine hK _ _ (key _ _ ⟨l.length,_,_,_,_,_,_,_,_,_,_,_,_,_,_,_,_,_,_,_,_,_,_,_,_,rfl,rfl,by omega,by omega,?_⟩)
  rw [Hid,List.drop_length]
  rfl
def Zft (w:World) (r:Int × List Int × Int) (v:Value) (w':World):Prop:=∃ b,v=.tuple #[.int .i64 r.1,b,.int .i64 r.2.2]∧Own w.heap.size w' 5 .u8 b r.2.1
theorem ZhK (v:Value) (l:List Int) (most:Nat) (wy:Int) (w:World) (h:Row w .u8 v l) (hw:wy=1∧most=8∨wy=2∧most=10) (hr:l.length≤140737488355328) :
 Calls Tryz.prog 218 #[v,.int .i64 most,.int .i64 wy] w (Ret w (Zft w (tS most wy l))):=by
 by_cases hs:(spn most l).2=0
 ·obtain⟨hsp,hk1,hk2⟩:=ZfC hs
  have hrow:=h
  obtain⟨A,c,rfl,h2,h3,h4,h5,h6⟩:=h
  unfold maxLen at h3
  obtain⟨b,o,rfl,hb,hx⟩:=h6 (by omega)
  have HS:=Lh hsp
  obtain⟨k,hk⟩:∃ k,k=fb l:=⟨_,rfl⟩
  rw [← hk] at hk1 hk2 HS
  have Hk:=Lh hk
  have hhead:=hrow.head (k+1) (by omega)
  have HT:=Lh hs
  have hle:k+1≤l.length:=by omega
  clear hs hsp hx h6 h4 hk
  have hn0:(k:Int)+1≤(l.length:Int):=by omega
  have htl:(l.take (k+1)).length=k+1:=by simp;omega
  have hwb:=Zkn wy (l.take (k+1)) (by omega) (h5.take _)
  have hin:InB wy 9 (wo wy (l.take (k+1))):=by
   refine InB.start hwb.1 hwb.2 ?_
   rcases hw with⟨rfl,hm⟩ | ⟨rfl,hm⟩
   ·exact .inr ⟨rfl,(ZqH _ (by omega)).1⟩
   ·exact .inl rfl
  have hwy:wy=1∨wy=2∨wy=3∨wy=4:=by omega
  have htS:tS most wy l=if l.take (k+1)=dg wy 10 (wo wy (l.take (k+1))) then (wo wy (l.take (k+1)),l.drop (k+1),0) else (0,[],4):=by
   rw [Hk.out]
   unfold tS
   rw [if_pos HT.out]
  by_cases hd:l.take (k+1)=dg wy 10 (wo wy (l.take (k+1)))
  ·rw [if_pos hd] at htS
   rw [htS]
   have HD:=Lh hd
   have HL:=Lh htl
   clear hd htS htl HT Hk
   have htail:=hrow.tail (k+1) hle
   by_cases hcc:c=k+1
   ·have hll:l.drop (k+1)=[]:=List.drop_eq_nil_iff.2 (by omega)
    have HLL:=Lh hll
    clear hll htail
    have Hcc:=Lh hcc
    have hcl:l.length≤k+1:=by omega
    clear hcc
    go_enter Tryz.func218,Tryz.ntmps218
    go_wp2_with (first
     | (go_at_call 243;refine(Zfq _ l most _ hrow (by omega)).mono ?_;rintro e w1 ⟨rfl,rfl⟩;rw [HS.out])
     | (go_at_call 244;refine(Zf5 _ _ wy _ hhead (by have:=HL.out;omega) hwy).mono ?_;rintro e w1 ⟨rfl,rfl⟩)
     | (go_at_call 158;refine(ZcG _ wy _ hin hwb.1 hwb.2).mono ?_;rintro e w1 ⟨v1,rfl,ho1,he1⟩)
     | (go_at_call 82;refine(Zb0 _ _ _ _ _ (by exact hhead.ext he1) (by exact ho1.row)).mono ?_;rintro e w2 ⟨rfl,rfl⟩;rw [decide_eq_true HD.out])
     | (go_at_call 144;refine(ZcI _ [] _ (by exact Row.none_ _ _ _) (by simp)).mono ?_;rintro e w2 ⟨v2,rfl,ho2,he2⟩))
    go_ret3
    refine Ret.mk ⟨_,rfl,?_⟩ (he1.trans he2)
    rw [HLL.out]
    exact ho2.base he1.size
   ·have hcc':¬ c=k+1:=hcc
    go_enter Tryz.func218,Tryz.ntmps218
    go_wp2_with (first
     | (go_at_call 243;refine(Zfq _ l most _ hrow (by omega)).mono ?_;rintro e w1 ⟨rfl,rfl⟩;rw [HS.out])
     | (go_at_call 244;refine(Zf5 _ _ wy _ hhead (by have:=HL.out;omega) hwy).mono ?_;rintro e w1 ⟨rfl,rfl⟩)
     | (go_at_call 158;refine(ZcG _ wy _ hin hwb.1 hwb.2).mono ?_;rintro e w1 ⟨v1,rfl,ho1,he1⟩)
     | (go_at_call 82;refine(Zb0 _ _ _ _ _ (by exact hhead.ext he1) (by exact ho1.row)).mono ?_;rintro e w2 ⟨rfl,rfl⟩;rw [decide_eq_true HD.out])
     | (go_at_call 144;go_loud (refine(ZcI _ (l.drop (k+1)) _ (by exact htail.ext he1) (by simp;omega)).mono ?_);rintro e w2 ⟨v2,rfl,ho2,he2⟩))
    go_ret3
    exact Ret.mk ⟨_,rfl,ho2.base he1.size⟩ (he1.trans he2)
  ·rw [if_neg hd] at htS
   rw [htS]
   have HD:=Lh hd
   have HL:=Lh htl
   clear hd htS htl HT Hk
   go_enter Tryz.func218,Tryz.ntmps218
   go_wp2_with (first
    | (go_at_call 243;refine(Zfq _ l most _ hrow (by omega)).mono ?_;rintro e w1 ⟨rfl,rfl⟩;rw [HS.out])
    | (go_at_call 244;refine(Zf5 _ _ wy _ hhead (by have:=HL.out;omega) hwy).mono ?_;rintro e w1 ⟨rfl,rfl⟩)
    | (go_at_call 158;refine(ZcG _ wy _ hin hwb.1 hwb.2).mono ?_;rintro e w1 ⟨v1,rfl,ho1,he1⟩)
    | (go_at_call 82;refine(Zb0 _ _ _ _ _ (by exact hhead.ext he1) (by exact ho1.row)).mono ?_;rintro e w2 ⟨rfl,rfl⟩;rw [decide_eq_false HD.out]))
   go_ret3
   exact Ret.mk ⟨_,rfl,Own.nil _ _ _ _⟩ he1
 ·rw [Ztn hs]
  obtain⟨x,hx⟩:∃ x,x=(spn most l).2:=⟨_,rfl⟩
  have h1:(spn most l).1=0:=by
   unfold spn at *
   split
   ·rfl
   ·split
    ·rfl
    ·rename_i h1 h2
     rw [if_neg h1,if_neg h2] at hs
     exact absurd rfl hs
  rw [← hx] at hs ⊢
  have H1:Hid (spn most l=(0,x)):=by rw [Hid,hx,← h1]
  have hb:(x != 0)=true:=by simp [hs]
  clear hx h1 hs
  go_enter Tryz.func218,Tryz.ntmps218
  go_wp2_with (first
   | (go_at_call 243;refine(Zfq _ l most _ h (by omega)).mono ?_;rintro e w1 ⟨rfl,rfl⟩;rw [H1.out]))
  go_ret3
  exact Ret.mk ⟨_,rfl,Own.nil _ _ _ _⟩ (Ext.refl _)
theorem Zds (v:Value) (l:List Int) (m:Int) (most:Nat) (wy:Int) (w:World) (h:Row w .u8 v l) (he:m=(most:Int)) (hw:wy=1∧most=8∨wy=2∧most=10) (hr:l.length≤140737488355328) :
 Calls Tryz.prog 218 #[v,.int .i64 m,.int .i64 wy] w (Ret w (Zft w (tS most wy l))):=by
 subst he
 exact ZhK v l most wy w h hw hr
theorem ZmQ (v:Value) (l:List Int) (w:World) (h:Row w .u8 v l) (hr:l.length≤140737488355328) :
 Calls Tryz.prog 240 #[v] w (Ret w (Zft w (tS 10 2 l))):=by
 go_enter Tryz.func240,Tryz.ntmps240
 go_wp2_with (first
  | (go_at_call 218;refine(Zds _ l 10 10 2 _ h rfl (by omega) hr).mono ?_;rintro e w1 ⟨v1,rfl,⟨b1,rfl,ho1⟩,he1⟩))
 go_ret3
 exact Ret.mk ⟨_,rfl,ho1⟩ he1
theorem ZiB (v:Value) (l:List Int) (w:World) (h:Row w .u8 v l) (hr:l.length≤140737488355328) :
 Calls Tryz.prog 178 #[v] w (Ret w (Zft w (tU l))):=by
 by_cases hb:9007199254740991<(tS 8 1 l).1
 ·have e:tU l=(0,[],4):=by unfold tU;rw [if_pos hb]
  rw [e]
  clear e
  go_enter Tryz.func178,Tryz.ntmps178
  go_wp2_with (first
   | (go_at_call 218;refine(Zds _ l 8 8 1 _ h rfl (by omega) hr).mono ?_;rintro e w1 ⟨v1,rfl,⟨b1,rfl,ho1⟩,he1⟩))
  go_ret3
  exact Ret.mk ⟨_,rfl,Own.nil _ _ _ _⟩ he1
 ·have e:tU l=tS 8 1 l:=by unfold tU;rw [if_neg hb]
  rw [e]
  clear e
  go_enter Tryz.func178,Tryz.ntmps178
  go_wp2_with (first
   | (go_at_call 218;refine(Zds _ l 8 8 1 _ h rfl (by omega) hr).mono ?_;rintro e w1 ⟨v1,rfl,⟨b1,rfl,ho1⟩,he1⟩))
  go_ret3
  exact Ret.mk ⟨_,rfl,ho1⟩ he1
end Go.Proofs.YtclamhhgldkhnaaGreatDoor
namespace Go.Proofs.YtclamhhgldkhnaaGreatDoor
def lst (l:List Int):Int:=gi l (l.length-1)
theorem ZnN (x:Int):lst [x]=x:=rfl
theorem Zp4 (x:Int) {l:List Int} (h:0<l.length):lst (x :: l)=lst l:=by
 unfold lst
 obtain⟨n,hn⟩:∃ n,l.length=n+1:=⟨l.length-1,by omega⟩
 rw [List.length_cons,hn]
 rfl
theorem ZsP (wy:Int) (f:Nat) (n:Int):0<(dg wy (f+1) n).length:=by
 unfold dg
 split <;> simp
theorem Zc0 (x:Int) (l:List Int):gi (x :: l) 0=x:=rfl
theorem Zr1 (wy:Int):∀ (f:Nat) (n:Int),InB wy f n→fb (dg wy (f+1) n)+1=(dg wy (f+1) n).length:=by
 intro f
 induction f with
 | zero =>
  intro n h
  rw [Zc1 0 h.last]
  have:n%128<128:=by omega
  simp [fb,this]
 | succ f ih =>
  intro n h
  by_cases hc:n/128=ab wy (n%128)
  ·rw [Zc1 _ hc]
   have:n%128<128:=by omega
   simp [fb,this]
  ·rw [ZeP _ hc]
   have:=ih (n/128) h.next
   have h1:¬ n%128+128<128:=by omega
   simp only [fb,if_neg h1,List.length_cons]
   omega
theorem ZoA {l:List Int} (r:List Int):fb l+1≤l.length→fb (l++r)=fb l:=by
 induction l with
 | nil=>intro h;simp at h
 | cons x l ih =>
  intro h
  unfold fb at h ⊢
  rw [List.cons_append]
  by_cases hx:x<128
  ·simp [hx]
  ·simp only [hx,if_false,List.length_cons] at h ⊢
   rw [ih (by omega)]
theorem Ztg (wy:Int):∀ (f:Nat) (n:Int),f≤9→InB wy f n→wof (ab wy (lst (dg wy (f+1) n))) (dg wy (f+1) n)=n:=by
 intro f
 induction f with
 | zero =>
  intro n _ h
  have hb:=h.bound (by omega)
  rw [Zc1 0 h.last,ZnN,← h.last]
  simp only [wof]
  rw [IntKind.wrap_i64]
  omega
 | succ f ih =>
  intro n hf h
  have hb:=h.bound hf
  by_cases hc:n/128=ab wy (n%128)
  ·rw [Zc1 _ hc,ZnN,← hc]
   simp only [wof]
   rw [IntKind.wrap_i64]
   omega
  ·rw [ZeP _ hc,Zp4 _ (ZsP wy f _)]
   have:=ih (n/128) (by omega) h.next
   simp only [wof]
   rw [this,IntKind.wrap_i64]
   omega
theorem ZtH {wy n:Int} (h:InB wy 9 n):wo wy (dg wy 10 n)=n:=Ztg wy 9 n (by omega) h
theorem ZsN {most:Nat} {wy n:Int} (h:InB wy 9 n) (hm:(dg wy 10 n).length≤most) (r:List Int):tS most wy (dg wy 10 n++r)=(n,r,0):=by
 have h1:fb (dg wy 10 n)+1=(dg wy 10 n).length:=Zr1 wy 9 n h
 have h2:fb (dg wy 10 n++r)=fb (dg wy 10 n):=ZoA r (by omega)
 have h3:fb (dg wy 10 n)+1=(dg wy 10 n).length:=h1
 have hs:spn most (dg wy 10 n++r)=((fb (dg wy 10 n):Int)+1,0):=by
  unfold spn
  rw [h2,if_neg (by omega),if_neg (by simp;omega)]
 have ht:(dg wy 10 n++r).take (fb (dg wy 10 n)+1)=dg wy 10 n:=by rw [h3,List.take_left]
 have hd:(dg wy 10 n++r).drop (fb (dg wy 10 n)+1)=r:=by rw [h3,List.drop_left]
 unfold tS
 rw [hs,h2,ht,hd,ZtH h,if_pos rfl,if_pos rfl]
theorem Zl5:∀ (f:Nat) (g:Nat) (n:Int),0≤n→n<128 ^ (g+1)→(dg 1 f n).length≤g+1:=by
 intro f
 induction f with
 | zero=>intro g n _ _;simp [dg]
 | succ f ih =>
  intro g n h0 h1
  by_cases hc:n/128=ab 1 (n%128)
  ·rw [Zc1 _ hc]
   simp
  ·rw [ZeP _ hc]
   rw [ZkV] at hc
   match g with
   | 0=>simp at h1;omega
   | g+1 =>
    rw [Int.pow_succ] at h1
    have:=ih g (n/128) (by omega) (by omega)
    simp
    omega
theorem Ze7 {n:Int} (h0:0≤n) (h1:n≤9007199254740991):(dg 1 10 n).length≤8:=by
 refine Zl5 10 7 n h0 ?_
 show n<(72057594037927936:Int)
 omega
theorem ZrE {most:Nat} {wy:Int} {l:List Int} (h:(tS most wy l).2.2=0):dg wy 10 (tS most wy l).1++(tS most wy l).2.1=l:=by
 unfold tS at *
 split at h
 ·rename_i hs
  rw [if_pos hs]
  split at h
  ·rename_i hd
   rw [if_pos hd]
   simp only
   rw [← hd,List.take_append_drop]
  ·simp at h
 ·rename_i hs
  simp at h
  exact absurd h hs
theorem Zk7 {most:Nat} {wy:Int} {l:List Int} (h:¬ (tS most wy l).2.2=0):(tS most wy l).1=0∧(tS most wy l).2.1=[]∧((tS most wy l).2.2=3∨(tS most wy l).2.2=4):=by
 have h2:=Zr5 most l
 unfold tS at *
 split
 ·rename_i hs
  rw [if_pos hs] at h
  split
  ·rename_i hd
   rw [if_pos hd] at h
   simp at h
  ·simp
 ·simp only
  refine⟨trivial,trivial,?_⟩
  rename_i hs
  omega
theorem Zp6 {wy:Int} {most:Nat} {l:List Int} (hf:Fit .u8 l):-9223372036854775808≤(tS most wy l).1∧(tS most wy l).1≤9223372036854775807:=by
 unfold tS
 split
 ·rename_i hs
  have:=ZfC hs
  split
  ·exact Zkn wy _ (by simp;omega) (hf.take _)
  ·simp
 ·simp
theorem ZmL {l:List Int} (h:(tU l).2.2=0):uS (tU l).1=(dg 1 10 (tU l).1,0)∧dg 1 10 (tU l).1++(tU l).2.1=l:=by
 unfold tU at *
 split at h
 ·simp at h
 ·rename_i hb
  rw [if_neg hb]
  refine⟨?_,ZrE h⟩
  have h0:0≤(tS 8 1 l).1:=by
   unfold tS
   split
   ·rename_i hs
    have:=ZfC hs
    split
    ·exact(ZqH _ (by simp;omega)).1
    ·simp
   ·simp
  unfold uS
  rw [if_neg (by omega)]
theorem ZiN {l:List Int} (h:¬ (tU l).2.2=0):(tU l).1=0∧(tU l).2.1=[]:=by
 unfold tU at *
 split
 ·exact⟨rfl,rfl⟩
 ·rename_i hb
  rw [if_neg hb] at h
  have:=Zk7 h
  exact⟨this.1,this.2.1⟩
theorem Zrz {n:Int} (h0:0≤n) (h1:n≤9007199254740991) (r:List Int):tU (dg 1 10 n++r)=(n,r,0):=by
 have hin:InB 1 9 n:=InB.start (by omega) (by omega) (.inr ⟨rfl,h0⟩)
 unfold tU
 rw [ZsN hin (Ze7 h0 h1),if_neg (by simp;omega)]
theorem ZlH {n:Int} (h0:0≤n) (h1:n≤9007199254740991):uS n=(dg 1 10 n,0):=by
 unfold uS
 rw [if_neg (by omega)]
end Go.Proofs.YtclamhhgldkhnaaGreatDoor
