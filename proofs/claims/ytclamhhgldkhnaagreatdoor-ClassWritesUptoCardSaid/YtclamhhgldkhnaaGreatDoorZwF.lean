/- Several texts of this proof, one behind the other. -/
import Derived.Test.YtclamhhgldkhnaaGreatDoorZwE
import Derived.Test.YtclamhhgldkhnaaGreatDoorZwB
import Derived.Laws.Concat
import Derived.Laws.StructEq
namespace Go.Proofs.YtclamhhgldkhnaaGreatDoor
open Go.RowKit
set_option linter.unusedVariables false
set_option maxHeartbeats 16000000
def flat {α:Type} (T:TypeId) (n:Nat) (vals:α→Array Value) (zero:α) (pos:0<n) (size:∀ x,(vals x).size=n) (one:∀ x,∀ u∈(vals x).toList,u.oneCell'=true):Shp α where
 T:=T
 n:=n
 vals:=vals
 zero:=zero
 nest:=fun _ _=>True
 nestO:=fun _ _ _=>True
 pos:=pos
 size:=size
 one:=fun {w x} _ u hu=>one x u hu
 ext:=fun _ _=>trivial
 extO:=fun _ _=>trivial
 low:=fun _=>trivial
 kept:=fun _ _ _=>trivial
structure Hd where
 f:Int
 t:Int
 a:Int
 c:Int
deriving DecidableEq
structure Ty where
 k:Int
 s:ByteArray
deriving DecidableEq
def h0:Hd:=⟨0,0,0,0⟩
def t0:Ty:=⟨0,⟨#[]⟩⟩
def Hd.vals (x:Hd):Array Value:=#[.int .i64 x.f,.int .i64 x.t,.int .i64 x.a,.int .i64 x.c]
def Ty.vals (x:Ty):Array Value:=#[.int .i64 x.k,.string x.s]
def ShC:Shp Cst:=flat 49 6 Cst.vals c0 (by decide) (fun _=>rfl) (fun x u hu=>by
 have h:u=.int .i64 x.k∨u=.string x.t∨u=.int .i64 x.n∨u=.int .i64 x.a∨u=.int .i64 x.b∨u=.int .i64 x.c:=by simpa [Cst.vals] using hu
 rcases h with rfl | rfl | rfl | rfl | rfl | rfl <;> rfl)
def ShH:Shp Hd:=flat 53 4 Hd.vals h0 (by decide) (fun _=>rfl) (fun x u hu=>by
 have h:u=.int .i64 x.f∨u=.int .i64 x.t∨u=.int .i64 x.a∨u=.int .i64 x.c:=by simpa [Hd.vals] using hu
 rcases h with rfl | rfl | rfl | rfl <;> rfl)
def ShT:Shp Ty:=flat 41 2 Ty.vals t0 (by decide) (fun _=>rfl) (fun x u hu=>by
 have h:u=.int .i64 x.k∨u=.string x.s:=by simpa [Ty.vals] using hu
 rcases h with rfl | rfl <;> rfl)
def gh (l:List Hd) (j:Nat):Hd:=l.getD j h0
def gt (l:List Ty) (j:Nat):Ty:=l.getD j t0
def AtC (w:World) (b o:Nat) (x:Cst):Prop :=
 w.cell? ⟨b,o,none⟩=some (.int .i64 x.k)∧w.cell? ⟨b,o+1,none⟩=some (.string x.t)∧w.cell? ⟨b,o+2,none⟩=some (.int .i64 x.n) ∧
 w.cell? ⟨b,o+3,none⟩=some (.int .i64 x.a)∧w.cell? ⟨b,o+4,none⟩=some (.int .i64 x.b)∧w.cell? ⟨b,o+5,none⟩=some (.int .i64 x.c)
def AtH (w:World) (b o:Nat) (x:Hd):Prop :=
 w.cell? ⟨b,o,none⟩=some (.int .i64 x.f)∧w.cell? ⟨b,o+1,none⟩=some (.int .i64 x.t)∧w.cell? ⟨b,o+2,none⟩=some (.int .i64 x.a)∧w.cell? ⟨b,o+3,none⟩=some (.int .i64 x.c)
theorem AtC.of {w:World} {b o:Nat} {x:Cst} (h:ShC.At w b o x):AtC w b o x :=
 ⟨h 0 (by decide),h 1 (by decide),h 2 (by decide),h 3 (by decide),h 4 (by decide),h 5 (by decide)⟩
theorem AtH.of {w:World} {b o:Nat} {x:Hd} (h:ShH.At w b o x):AtH w b o x:=⟨h 0 (by decide),h 1 (by decide),h 2 (by decide),h 3 (by decide)⟩
section
variable {w : World} {A : Option Addr} {n c : Nat}
theorem Zh4 {l:List Cst} (h:ShC.Row w (.slice A n c) l) (hl:0<l.length):∃ b o,A=some ⟨b,o,none⟩∧∀ W,Ext w W→∀ j,j<l.length→AtC W b (o+j*6) (gc l j):=by
 obtain⟨b,o,ha,h⟩:=h.at hl
 exact⟨b,o,ha,fun W e j hj=>AtC.of (h W e j hj).1⟩
theorem Zde {l:List Hd} (h:ShH.Row w (.slice A n c) l) (hl:0<l.length):∃ b o,A=some ⟨b,o,none⟩∧∀ W,Ext w W→∀ j,j<l.length→AtH W b (o+j*4) (gh l j):=by
 obtain⟨b,o,ha,h⟩:=h.at hl
 exact⟨b,o,ha,fun W e j hj=>AtH.of (h W e j hj).1⟩
end
structure Me where
 st:Bool
 ab:Bool
 nm:ByteArray
 ret:Ty
 args:List Ty
 sk:Int
 lo:Int
 code:List Int
 hs:List Hd
deriving DecidableEq
def Me.vals (m:Me) (va vc vh:Value):Array Value:=#[.bool m.st,.bool m.ab,.string m.nm,.int .i64 m.ret.k,.string m.ret.s,va,.int .i64 m.sk,.int .i64 m.lo,vc,vh]
def MeAt (w:World) (m:Me) (va vc vh:Value):Prop:=ShT.Row w va m.args∧Row w .u8 vc m.code∧ShH.Row w vh m.hs
theorem MeAt.ext {w w':World} {m:Me} {va vc vh:Value} (h:MeAt w m va vc vh) (e:Ext w w'):MeAt w' m va vc vh:=⟨h.1.ext e,h.2.1.ext e,h.2.2.ext e⟩
def MeB (w:World) (g:Nat) (m:Me) (va vc vh:Value):Prop:=w.heap[g]?=some (.cells (m.vals va vc vh) 47 (0,0))
theorem MeB.ext {w w':World} {g:Nat} {m:Me} {va vc vh:Value} (h:MeB w g m va vc vh) (e:Ext w w'):MeB w' g m va vc vh:=(e.block g (Zab h)).trans h
theorem MeB.cells {w:World} {g:Nat} {m:Me} {va vc vh:Value} (h:MeB w g m va vc vh) :
 w.cell? ⟨g,0,none⟩=some (.bool m.st)∧w.cell? ⟨g,1,none⟩=some (.bool m.ab)∧w.cell? ⟨g,2,none⟩=some (.string m.nm)∧w.cell? ⟨g,3,none⟩=some (.int .i64 m.ret.k)∧w.cell? ⟨g,4,none⟩=some (.string m.ret.s) ∧
 w.cell? ⟨g,5,none⟩=some va∧w.cell? ⟨g,6,none⟩=some (.int .i64 m.sk)∧w.cell? ⟨g,7,none⟩=some (.int .i64 m.lo)∧w.cell? ⟨g,8,none⟩=some vc∧w.cell? ⟨g,9,none⟩=some vh:=by
 have e:∀ i,w.cell? ⟨g,i,none⟩=(m.vals va vc vh)[i]?:=fun i=>by rw [cell_of_row w g i _ _ (0,0) h]
 exact⟨e 0,e 1,e 2,e 3,e 4,e 5,e 6,e 7,e 8,e 9⟩
theorem MeB.lt {w:World} {g:Nat} {m:Me} {va vc vh:Value} (h:MeB w g m va vc vh):g<w.heap.size:=Zab h
theorem MeB.new (w:World) (m:Me) (va vc vh:Value):MeB (w.alloc (.cells (m.vals va vc vh) 47)) w.heap.size m va vc vh:=heap_alloc_new w _
end Go.Proofs.YtclamhhgldkhnaaGreatDoor
namespace Go.Proofs.YtclamhhgldkhnaaGreatDoor
set_option linter.unusedVariables false
def isKZ (pool:List Cst) (n a b:Int):Bool:=decide (0<n)&&(decide (n<pool.length)&&(decide ((gc pool n.toNat).k=a) || decide ((gc pool n.toNat).k=b)))
def fitZ (lo:Int) (pool:List Cst) (x:In):Bool :=
 if x.o=6∨x.o=9 then decide (x.n+1<lo) else if 5≤x.o∧x.o≤11 then decide (x.n<lo) else if x.o=3 then isKZ pool x.n 2 3
 else if 61≤x.o∧x.o≤64 then isKZ pool x.n 5 5 else if x.o=65∨x.o=68∨x.o=76∨x.o=77 then isKZ pool x.n 4 4
 else if 79≤x.o∧x.o≤82 then isKZ pool x.n 6 6 else true
def ZdN (l:List In) (len:Int) (pool:List Cst) (h:Hd):Bool:=ZaQ l h.f&&(ZaQ l h.a&&(decide (h.f<h.t)&&((ZaQ l h.t || decide (h.t=len))&&(decide (h.c=0) || isKZ pool h.c 4 4))))
def Zcv (l:List In) (m:Me) (pool:List Cst):Bool:=m.hs.all (ZdN l m.code.length pool)&&decide (m.hs.length≤256)
def ZiF (m:Me):Bool:=decide (0≤m.sk∧m.sk≤255∧0≤m.lo∧m.lo≤255)
def chkL (m:Me) (pool:List Cst) (R:List In × Int × Int):List In × Int × Int :=
 if R.2.2=0 then
  if (Zaj (fitZ m.lo pool) R.1).2=true then ([],(Zaj (fitZ m.lo pool) R.1).1,70)
  else if ZiF m=true∧Zcv R.1 m pool=true then (R.1,0,0) else ([],0,70)
 else ([],R.2.1,R.2.2)
def Zcc (m:Me) (pool:List Cst):List In × Int × Int:=chkL m pool (cutZ m.code)
theorem Zlb {l:List Hd} {k:Nat} (h:k<l.length):gh l k=l[k]:=by simp [gh,h]
theorem ZjV {l:List Hd} {k:Nat} (h:k<l.length):l[k]?=some (gh l k):=by rw [Zlb h];simp [h]
theorem Zli {l:List Hd} {k:Nat} (h:k<l.length):gh l k∈l:=by rw [Zlb h];exact List.getElem_mem h
end Go.Proofs.YtclamhhgldkhnaaGreatDoor
namespace Go.Proofs.YtclamhhgldkhnaaGreatDoor
open Go.RowKit
set_option linter.unusedVariables false
theorem ZlA (k:Int):k=1∨k=2∨k=3∨k=4∨k=5∨k=6∨((k==1)=false∧(k==2)=false∧(k==3)=false∧(k==4)=false∧(k==5)=false∧(k==6)=false∧(k<3∨6<k)):=by
 simp
 omega
theorem Zdd (l:List UInt8):(bs l).toList=l:=ByteArray.toList_mk l
theorem ZmZ {k:Int} {s:List UInt8} (h1:(k==1)=false) (h2:(k==2)=false) (h3:(k==3)=false) (h4:(k==4)=false) (h5:(k==5)=false) (h6:(k==6)=false):okT ⟨k,s⟩=false:=by
 simp only [beq_eq_false_iff_ne,ne_eq] at h1 h2 h3 h4 h5 h6
 unfold okT
 rw [if_neg (by simp only;omega),if_neg (by simp only;omega)]
theorem Zaw {t:TyD} (h:okT t=false):Zdp t=2:=by rw [Zdp,h];rfl
theorem Zat {t:TyD} (h:okT t=true):Zdp t=0:=by rw [Zdp,h];rfl
theorem ZaW (t:TyD) (w:World) (hl:t.s.length≤140737488351232) :
 Calls Tryz.prog 30 #[.agg t.vals] w fun e w'=>e=.returned (.int .i64 (Zdp t))∧Ext w w':=by
 obtain⟨k,s⟩:=t
 have hbs:=Zdd s
 have hsz:(bs s).size=s.length:=rfl
 rcases ZlA k with rfl | rfl | rfl | rfl | rfl | rfl | ⟨n1,n2,n3,n4,n5,n6,-⟩
 ·by_cases hn:s=[]
  ·subst hn
   rw [Zat (t:=⟨1,[]⟩) rfl]
   unfold TyD.vals
   go_enter Tryz.func30,Tryz.ntmps30
   go_wp2
   go_ret
   exact⟨rfl,(Ext.refl w).alloc _⟩
  ·rw [Zaw (t:=⟨1,s⟩) (by unfold okT;simpa using hn)]
   have he:(s==[])=false:=by simpa using hn
   clear hn
   unfold TyD.vals
   go_enter Tryz.func30,Tryz.ntmps30
   go_wp2
   go_ret
   exact⟨rfl,(Ext.refl w).alloc _⟩
 ·by_cases hn:s=[]
  ·subst hn
   rw [Zat (t:=⟨2,[]⟩) rfl]
   unfold TyD.vals
   go_enter Tryz.func30,Tryz.ntmps30
   go_wp2
   go_ret
   exact⟨rfl,(Ext.refl w).alloc _⟩
  ·rw [Zaw (t:=⟨2,s⟩) (by unfold okT;simpa using hn)]
   have he:(s==[])=false:=by simpa using hn
   clear hn
   unfold TyD.vals
   go_enter Tryz.func30,Tryz.ntmps30
   go_wp2
   go_ret
   exact⟨rfl,(Ext.refl w).alloc _⟩
 ·cases hn:ZbL s
  ·rw [Zaw (t:=⟨3,s⟩) hn]
   have HN:=Lh hn
   clear hn
   unfold TyD.vals
   go_enter Tryz.func30,Tryz.ntmps30
   go_wp2_with fail
   refine(Zbr s _ hl).mono ?_
   rw [HN.out]
   rintro e w1 ⟨rfl,m,rfl⟩
   go_wp2
   go_ret
   exact⟨rfl,((Ext.refl w).alloc _).drewN m⟩
  ·rw [Zat (t:=⟨3,s⟩) hn]
   have HN:=Lh hn
   clear hn
   unfold TyD.vals
   go_enter Tryz.func30,Tryz.ntmps30
   go_wp2_with fail
   refine(Zbr s _ hl).mono ?_
   rw [HN.out]
   rintro e w1 ⟨rfl,m,rfl⟩
   go_wp2
   go_ret
   exact⟨rfl,((Ext.refl w).alloc _).drewN m⟩
 ·by_cases hn:s=[]
  ·subst hn
   rw [Zat (t:=⟨4,[]⟩) rfl]
   unfold TyD.vals
   go_enter Tryz.func30,Tryz.ntmps30
   go_wp2
   go_ret
   exact⟨rfl,(Ext.refl w).alloc _⟩
  ·rw [Zaw (t:=⟨4,s⟩) (by unfold okT;simpa using hn)]
   have he:(s==[])=false:=by simpa using hn
   clear hn
   unfold TyD.vals
   go_enter Tryz.func30,Tryz.ntmps30
   go_wp2
   go_ret
   exact⟨rfl,(Ext.refl w).alloc _⟩
 ·by_cases hn:s=[]
  ·subst hn
   rw [Zat (t:=⟨5,[]⟩) rfl]
   unfold TyD.vals
   go_enter Tryz.func30,Tryz.ntmps30
   go_wp2
   go_ret
   exact⟨rfl,(Ext.refl w).alloc _⟩
  ·rw [Zaw (t:=⟨5,s⟩) (by unfold okT;simpa using hn)]
   have he:(s==[])=false:=by simpa using hn
   clear hn
   unfold TyD.vals
   go_enter Tryz.func30,Tryz.ntmps30
   go_wp2
   go_ret
   exact⟨rfl,(Ext.refl w).alloc _⟩
 ·cases hn:ZbL s
  ·rw [Zaw (t:=⟨6,s⟩) hn]
   have HN:=Lh hn
   clear hn
   unfold TyD.vals
   go_enter Tryz.func30,Tryz.ntmps30
   go_wp2_with fail
   refine(Zbr s _ hl).mono ?_
   rw [HN.out]
   rintro e w1 ⟨rfl,m,rfl⟩
   go_wp2
   go_ret
   exact⟨rfl,((Ext.refl w).alloc _).drewN m⟩
  ·rw [Zat (t:=⟨6,s⟩) hn]
   have HN:=Lh hn
   clear hn
   unfold TyD.vals
   go_enter Tryz.func30,Tryz.ntmps30
   go_wp2_with fail
   refine(Zbr s _ hl).mono ?_
   rw [HN.out]
   rintro e w1 ⟨rfl,m,rfl⟩
   go_wp2
   go_ret
   exact⟨rfl,((Ext.refl w).alloc _).drewN m⟩
 ·rw [Zaw (ZmZ n1 n2 n3 n4 n5 n6)]
  unfold TyD.vals
  go_enter Tryz.func30,Tryz.ntmps30
  go_wp2
  go_ret
  exact⟨rfl,(Ext.refl w).alloc _⟩
def ZgJ (t:TyD):TyD × Bool:=if t.k=4∨t.k=5∨t.k=6 then (⟨t.k-3,t.s⟩,true) else (t0D,false)
def Zc9 (t:TyD):TyD × Bool:=if t.k=1∨t.k=2∨t.k=3 then (⟨t.k+3,t.s⟩,true) else (t0D,false)
theorem ZmS (s:List UInt8):ZgJ ⟨1,s⟩=(t0D,false):=rfl
theorem ZoD (s:List UInt8):ZgJ ⟨2,s⟩=(t0D,false):=rfl
theorem ZnY (s:List UInt8):ZgJ ⟨3,s⟩=(t0D,false):=rfl
theorem ZnC (s:List UInt8):ZgJ ⟨4,s⟩=(⟨1,s⟩,true):=rfl
theorem Zoe (s:List UInt8):ZgJ ⟨5,s⟩=(⟨2,s⟩,true):=rfl
theorem Znv (s:List UInt8):ZgJ ⟨6,s⟩=(⟨3,s⟩,true):=rfl
theorem Zm5 {k:Int} {s:List UInt8} (h1:(k==1)=false) (h2:(k==2)=false) (h3:(k==3)=false) (h4:(k==4)=false) (h5:(k==5)=false) (h6:(k==6)=false):ZgJ ⟨k,s⟩=(t0D,false):=by
 simp only [beq_eq_false_iff_ne,ne_eq] at h1 h2 h3 h4 h5 h6
 unfold ZgJ
 rw [if_neg (by simp only;omega)]
theorem ZrM (s:List UInt8):Zc9 ⟨1,s⟩=(⟨4,s⟩,true):=rfl
theorem Zrm (s:List UInt8):Zc9 ⟨2,s⟩=(⟨5,s⟩,true):=rfl
theorem ZrF (s:List UInt8):Zc9 ⟨3,s⟩=(⟨6,s⟩,true):=rfl
theorem ZrU (s:List UInt8):Zc9 ⟨4,s⟩=(t0D,false):=rfl
theorem ZrL (s:List UInt8):Zc9 ⟨5,s⟩=(t0D,false):=rfl
theorem Zr4 (s:List UInt8):Zc9 ⟨6,s⟩=(t0D,false):=rfl
theorem ZrC {k:Int} {s:List UInt8} (h1:(k==1)=false) (h2:(k==2)=false) (h3:(k==3)=false) (h4:(k==4)=false) (h5:(k==5)=false) (h6:(k==6)=false):Zc9 ⟨k,s⟩=(t0D,false):=by
 simp only [beq_eq_false_iff_ne,ne_eq] at h1 h2 h3 h4 h5 h6
 unfold Zc9
 rw [if_neg (by simp only;omega)]
theorem Ztj (l m:List UInt8):bs l++bs m=bs (l++m):=by
 apply ByteArray.ext
 simp [bs]
theorem Zc5 (a b:ByteArray) (l m:List UInt8) (ha:a=bs l) (hb:b=bs m) (h:l.length+m.length≤9223372036854775807) (W:World) :
 (Op.stringOp .add a b).run Tryz.prog W=.ok (.string (bs (l++m))) W:=by
 subst ha hb
 rw [run_string_add_sum _ _ _ (by exact h),Ztj]
def AtTD (w:World) (g:Nat) (t:TyD):Prop:=w.cell? ⟨g,0,none⟩=some (.int .i64 t.k)∧w.cell? ⟨g,1,none⟩=some (.string (bs t.s))
theorem AtTD.of {w:World} {g:Nat} {t:TyD} {T:TypeId} (h:w.heap[g]?=some (.cells t.vals T (0,0))):AtTD w g t:=by
 refine⟨?_,?_⟩
 all_goals
  rw [cell_of_row w g _ _ T (0,0) h]
  rfl
theorem AtTD.ext {w w':World} {g:Nat} {t:TyD} (h:AtTD w g t) (he:Ext w w') (hg:g<w.heap.size):AtTD w' g t:=by
 obtain⟨h0,h1⟩:=h
 exact⟨(he.cell (p:=⟨g,0,none⟩) hg).trans h0,(he.cell (p:=⟨g,1,none⟩) hg).trans h1⟩
theorem ZjS (s:List UInt8):Zal ⟨1,s⟩=[73]:=rfl
theorem ZjE (s:List UInt8):Zal ⟨2,s⟩=[74]:=rfl
theorem ZmO (s:List UInt8):Zal ⟨4,s⟩=[91,73]:=rfl
theorem ZnD (s:List UInt8):Zal ⟨5,s⟩=[91,74]:=rfl
theorem Zjw (s:List UInt8):Zal ⟨3,s⟩=76 :: (s++[59]):=rfl
theorem ZnZ (s:List UInt8):Zal ⟨6,s⟩=91 :: 76 :: (s++[59]):=rfl
theorem ZoC {k:Int} {s:List UInt8} (h1:(k==1)=false) (h2:(k==2)=false) (h3:(k==3)=false) (h4:(k==4)=false) (h5:(k==5)=false) (h6:(k==6)=false):Zal ⟨k,s⟩=[86]:=by
 simp only [beq_eq_false_iff_ne,ne_eq] at h1 h2 h3 h4 h5 h6
 unfold Zal
 simp only
 rw [if_neg h1,if_neg h2,if_neg h3,if_neg h4,if_neg h5,if_neg h6]
theorem Zd6 (t:TyD) (w:World) (hl:t.s.length≤140737488351232) :
 Calls Tryz.prog 121 #[.agg t.vals] w fun e w'=>e=.returned (.string (bs (Zal t)))∧Ext w w':=by
 obtain⟨k,s⟩:=t
 have hl:s.length≤140737488351232:=hl
 have hsz:(bs s).size=s.length:=rfl
 rcases ZlA k with rfl | rfl | rfl | rfl | rfl | rfl | ⟨n1,n2,n3,n4,n5,n6,-⟩
 ·rw [ZjS]
  unfold TyD.vals
  go_enter Tryz.func121,Tryz.ntmps121
  go_wp2
  go_ret
  refine⟨?_,(Ext.refl w).alloc _⟩
  rfl
 ·rw [ZjE]
  unfold TyD.vals
  go_enter Tryz.func121,Tryz.ntmps121
  go_wp2
  go_ret
  refine⟨?_,(Ext.refl w).alloc _⟩
  rfl
 ·rw [Zjw]
  have a1:∀ W,(Op.stringOp .add ⟨#[76]⟩ (bs s)).run Tryz.prog W=.ok (.string (bs (76 :: s))) W:=fun W=>Zc5 ⟨#[76]⟩ (bs s) [76] s rfl rfl (by simp only [List.length_cons,List.length_nil];omega) W
  have a2:∀ W,(Op.stringOp .add (bs (76 :: s)) ⟨#[59]⟩).run Tryz.prog W=.ok (.string (bs (76 :: (s++[59])))) W:=fun W=>Zc5 (bs (76 :: s)) ⟨#[59]⟩ (76 :: s) [59] rfl rfl (by simp;omega) W
  unfold TyD.vals
  go_enter Tryz.func121,Tryz.ntmps121
  go_wp2
  go_ret
  refine⟨?_,(Ext.refl w).alloc _⟩
  rfl
 ·rw [ZmO]
  unfold TyD.vals
  go_enter Tryz.func121,Tryz.ntmps121
  go_wp2
  go_ret
  refine⟨?_,(Ext.refl w).alloc _⟩
  rfl
 ·rw [ZnD]
  unfold TyD.vals
  go_enter Tryz.func121,Tryz.ntmps121
  go_wp2
  go_ret
  refine⟨?_,(Ext.refl w).alloc _⟩
  rfl
 ·rw [ZnZ]
  have a1:∀ W,(Op.stringOp .add ⟨#[91,76]⟩ (bs s)).run Tryz.prog W=.ok (.string (bs (91 :: 76 :: s))) W:=fun W=>Zc5 ⟨#[91,76]⟩ (bs s) [91,76] s rfl rfl (by simp only [List.length_cons,List.length_nil];omega) W
  have a2:∀ W,(Op.stringOp .add (bs (91 :: 76 :: s)) ⟨#[59]⟩).run Tryz.prog W=.ok (.string (bs (91 :: 76 :: (s++[59])))) W:=fun W=>Zc5 (bs (91 :: 76 :: s)) ⟨#[59]⟩ (91 :: 76 :: s) [59] rfl rfl (by simp;omega) W
  unfold TyD.vals
  go_enter Tryz.func121,Tryz.ntmps121
  go_wp2
  go_ret
  refine⟨?_,(Ext.refl w).alloc _⟩
  rfl
 ·rw [ZoC n1 n2 n3 n4 n5 n6]
  unfold TyD.vals
  go_enter Tryz.func121,Tryz.ntmps121
  go_wp2
  go_ret
  refine⟨?_,(Ext.refl w).alloc _⟩
  rfl
theorem Zfm (t:TyD) (w:World) (hl:t.s.length≤140737488351232) :
 Calls Tryz.prog 69 #[.agg t.vals] w fun e w'=>e=.returned (.tuple #[.string (bs (Zbx t).1),.int .i64 (Zbx t).2])∧Ext w w':=by
 have hc:=fun W=>ZaW t W hl
 have ht:=fun W=>Zd6 t W hl
 unfold TyD.vals at hc ht ⊢
 have HC:=Lh hc
 have HT:=Lh ht
 clear hc ht
 cases ho:okT t
 ·rw [show Zbx t=([],2) by rw [Zbx,ho];rfl]
  have h2:=Lh (Zaw ho)
  clear ho
  go_enter Tryz.func69,Tryz.ntmps69
  go_wp2_with fail
  refine(HC.out _).mono ?_
  rw [h2.out]
  rintro e w1 ⟨rfl,x1⟩
  go_wp2
  go_ret2
  exact⟨rfl,Ext.trans (by first | exact Ext.refl w | exact(Ext.refl w).alloc _) x1⟩
 ·rw [show Zbx t=(Zal t,0) by rw [Zbx,ho];rfl]
  have h2:=Lh (Zat ho)
  clear ho
  go_enter Tryz.func69,Tryz.ntmps69
  go_wp2_with fail
  refine(HC.out _).mono ?_
  rw [h2.out]
  rintro e w1 ⟨rfl,x1⟩
  have g1:w.heap.size<w1.heap.size:=by have:=x1.size;simp at this;omega
  have at1:=AtTD.ext (AtTD.of (t:=t) (heap_alloc_new _ _)) x1 (by simp)
  obtain⟨z0,z1⟩:=id at1
  go_wp2_with fail
  refine(HT.out _).mono ?_
  rintro e w2 ⟨rfl,x2⟩
  go_wp2
  go_ret2
  exact⟨rfl,Ext.trans (by first | exact Ext.refl w | exact(Ext.refl w).alloc _) (x1.trans x2)⟩
def I64D (x:Int):Prop:=-9223372036854775808≤x∧x≤9223372036854775807
def TyD.ok (t:TyD):Prop:=I64D t.k∧t.s.length≤140737488351232
def gtD (l:List TyD) (j:Nat):TyD:=l.getD j t0D
def At2 (w:World) (b o:Nat) (x:TyD):Prop:=w.cell? ⟨b,o,none⟩=some (.int .i64 x.k)∧w.cell? ⟨b,o+1,none⟩=some (.string (bs x.s))
def RowT (w:World) (v:Value) (l:List TyD):Prop :=
 ∃ (A:Option Addr) (c:Nat),v=.slice A l.length c∧l.length≤c∧c≤maxLen∧(A=none→c=0)∧(∀ x∈l,x.ok) ∧
  (0<l.length→∃ b o,A=some ⟨b,o,none⟩∧b<w.heap.size∧∀ j,j<l.length→At2 w b (o+j*2) (gtD l j))
theorem At2.ext {w w':World} {b o:Nat} {x:TyD} (h:At2 w b o x) (he:Ext w w') (hb:b<w.heap.size):At2 w' b o x:=by
 obtain⟨h0,h1⟩:=h
 exact⟨(he.cell (p:=⟨b,o,none⟩) hb).trans h0,(he.cell (p:=⟨b,o+1,none⟩) hb).trans h1⟩
theorem RowT.ext {w w':World} {v:Value} {l:List TyD} (h:RowT w v l) (he:Ext w w'):RowT w' v l:=by
 obtain⟨A,c,h1,h2,h3,h4,h5,h6⟩:=h
 refine⟨A,c,h1,h2,h3,h4,h5,fun hl=>?_⟩
 obtain⟨b,o,ha,hb,hc⟩:=h6 hl
 exact⟨b,o,ha,Nat.lt_of_lt_of_le hb he.size,fun j hj=>(hc j hj).ext he hb⟩
theorem ZfE {l:List TyD} {j:Nat} (h:j<l.length):gtD l j∈l:=by
 unfold gtD
 rw [List.getD_eq_getElem?_getD,List.getElem?_eq_getElem h]
 exact List.getElem_mem h
def OwnT (B:Nat) (w:World) (T:TypeId) (v:Value) (l:List TyD):Prop:=w.ownsRow B T 2 v l.length (l.flatMap fun x=>x.vals.toList)∧∀ x∈l,x.ok
theorem Zep (x:TyD):x.vals.toList.length=2:=rfl
theorem Zhf (l:List TyD):(l.flatMap fun x=>x.vals.toList).length=l.length*2:=by
 induction l with
 | nil=>rfl
 | cons x l ih=>rw [List.flatMap_cons,List.length_append,ih,Zep,List.length_cons];omega
theorem ZiP:∀ (l:List TyD) (j i:Nat),j<l.length→i<2→(l.flatMap fun x=>x.vals.toList)[j*2+i]?=(gtD l j).vals[i]?:=by
 intro l
 induction l with
 | nil=>intro j i h;simp at h
 | cons x l ih =>
  intro j i hj hi
  rw [List.flatMap_cons]
  match j with
  | 0 =>
   rw [List.getElem?_append_left (by rw [Zep];omega)]
   simp [gtD]
  | j+1 =>
   rw [List.getElem?_append_right (by rw [Zep];omega),Zep,show (j+1)*2+i-2=j*2+i by omega,ih j i (by simpa using hj) hi]
   simp [gtD]
theorem OwnT.row {B:Nat} {w:World} {T:TypeId} {v:Value} {l:List TyD} (h:OwnT B w T v l):RowT w v l:=by
 obtain⟨⟨h1,h2⟩,hf⟩:=h
 rcases h2 with⟨rfl,h0⟩ | ⟨g,cap,cur,rfl,hb,hg,hn,hm,hs,ht⟩
 ·exact⟨none,0,by rw [h0],by omega,by simp [maxLen],fun _=>rfl,hf,fun hp=>by omega⟩
 ·refine⟨_,_,rfl,hn,hm,(fun h=>by cases h),hf,fun _=>⟨g,0,rfl,Zab hg,fun j hj=>?_⟩⟩
  have hx:∀ i,i<2→w.cell? ⟨g,j*2+i,none⟩=(gtD l j).vals[i]?:=fun i hi=>by
   have e1:=ZiP l j i hj hi
   rw [← ht,List.getElem?_take_of_lt (by omega)] at e1
   rw [cell_of_row w g _ cur T (0,0) hg,← e1]
   simp
  rw [Nat.zero_add]
  exact⟨hx 0 (by omega),hx 1 (by omega)⟩
theorem OwnT.nil (B:Nat) (w:World) (T:TypeId):OwnT B w T (.slice none 0 0) []:=⟨World.ownsRow_nil w B T 2,fun _ h=>by cases h⟩
theorem OwnT.ext {B:Nat} {w w':World} {T:TypeId} {v:Value} {l:List TyD} (h:OwnT B w T v l) (he:Ext w w'):OwnT B w' T v l:=by
 obtain⟨⟨h1,h2⟩,hf⟩:=h
 refine⟨⟨h1,?_⟩,hf⟩
 rcases h2 with h2 | ⟨g,cap,cur,hv,hb,hg,hr⟩
 ·exact .inl h2
 ·exact .inr ⟨g,cap,cur,hv,hb,(he.block g (Zab hg)).trans hg,hr⟩
theorem OwnT.low {B:Nat} {w:World} {T:TypeId} {v:Value} {l:List TyD} (h:OwnT B w T v l):∀ g,v.ownBlock=some g→B≤g:=fun g hg=>(World.ownsRow.lt h.1 g hg).1
theorem OwnT.kept {B:Nat} {w w':World} {T:TypeId} {v:Value} {l:List TyD} (h:OwnT B w T v l) {row:Option Nat} (hg:w.grownBy w' row) (hne:∀ g,v.ownBlock=some g→row≠some g):OwnT B w' T v l:=by
 obtain⟨⟨h1,h2⟩,hf⟩:=h
 refine⟨⟨h1,?_⟩,hf⟩
 rcases h2 with h2 | ⟨g,cap,cur,hv,hb,hg',hr⟩
 ·exact .inl h2
 ·refine .inr ⟨g,cap,cur,hv,hb,(hg.block g (Zab hg') ?_).trans hg',hr⟩
  exact fun e=>hne g (by rw [hv];rfl) e.symm
theorem ZnU (x:TyD):∀ u∈x.vals.toList,u.oneCell'=true:=by
 intro u hu
 have h6:u=.int .i64 x.k∨u=.string (bs x.s):=by simpa [TyD.vals] using hu
 rcases h6 with rfl | rfl <;> rfl
theorem ZlT (l:List TyD):∀ u∈(l.flatMap fun x=>x.vals.toList),u.oneCell'=true:=by
 intro u hu
 obtain⟨x,_,hx⟩:=List.mem_flatMap.1 hu
 exact ZnU x u hx
theorem RowT.one {w:World} {g:Nat} {T:TypeId} {x:TyD} (h:w.heap[g]?=some (.cells x.vals T (0,0))) (hx:x.ok):RowT w (.slice (some ⟨g,0,none⟩) 1 1) [x]:=by
 refine⟨_,_,rfl,Nat.le_refl _,by simp [maxLen],(fun h=>by cases h),fun y hy=>by rw [List.mem_singleton.1 hy];exact hx,fun _=>⟨g,0,rfl,Zab h,fun j hj=>?_⟩⟩
 have:j=0:=by simp at hj;omega
 subst this
 have e:∀ i,w.cell? ⟨g,i,none⟩=x.vals[i]?:=fun i=>by rw [cell_of_row w g i _ T (0,0) h]
 exact⟨e 0,e 1⟩
theorem Zpu {P:Program} (w:World) (B:Nat) (t ty e:TypeId) (z:Value) (bytes:Nat) (ht:P.underlying t=some (.slice e))
 (hi:(P.info? e).map (fun i=>(i.zero,i.size,i.bytes))=some (some z,2,bytes)) (hz:z.cells.size=2)
 (v:Value) (l:List TyD) (ho:OwnT B w e v l) (x:Value) (m:List TyD) (hr:RowT w x m)
 (hb:(l.length+m.length)*bytes≤140737488355328) (hb1:1≤bytes) (hB:B≤w.heap.size) :
 ∃ v' w',(Builtin.append_ #[t,t] ty #[v,x]).run P w=.ok v' w'∧OwnT B w' e v' (l++m)∧w.grownBy w' v.ownBlock∧(v'.ownBlock=v.ownBlock∨v'.ownBlock=some w.heap.size):=by
 obtain⟨i,hi1,hi2,hi3,hi4⟩:=info_parts hi
 obtain⟨A,c,rfl,h2,h3,h4,h5,h6⟩:=hr
 have hfit:∀ y∈l++m,y.ok:=fun y hy=>(List.mem_append.1 hy).elim (ho.2 y) (h5 y)
 have hlen:l.length+m.length≤140737488355328:=Nat.le_trans (Nat.le_mul_of_pos_right _ (by omega)) hb
 rcases A with _ | ad
 ·have hc:=h4 rfl
  have hm:m=[]:=List.eq_nil_of_length_eq_zero (by omega)
  subst hm
  refine⟨v,w,?_,by simpa using ho,World.grownBy.refl w _,.inl rfl⟩
  rcases ho.1.2 with⟨rfl,_⟩ | ⟨g,cap,cur,rfl,_,_,hnc,_⟩
  ·simp [Builtin.append_,run_underlying ht,sizeOf,typeInfo,hi1,Builtin.lenOf,Builtin.firstCells]
  ·simp [Builtin.append_,run_underlying ht,sizeOf,typeInfo,hi1,Builtin.lenOf,Builtin.firstCells,hnc,storeCells]
 ·have hcells:∀ j u,(m.flatMap fun x=>x.vals.toList)[j]?=some u→w.cell? (ad.add j)=some u:=by
   intro j u hu
   have hj:j<m.length*2:=by
    have:=(List.getElem?_eq_some_iff.1 hu).1
    rwa [Zhf] at this
   obtain⟨b,o,hA,_,hc⟩:=h6 (by omega)
   injection hA with hA
   subst hA
   obtain⟨q,r,hqr,hr2⟩:∃ q r,j=q*2+r∧r<2:=⟨j/2,j%2,by omega,by omega⟩
   subst hqr
   rw [ZiP m q r (by omega) hr2] at hu
   obtain⟨a0,a1⟩:=hc q (by omega)
   rw [Addr.add_lit,← hu,← Nat.add_assoc]
   match r,hr2 with
   | 0,_=>exact a0
   | 1,_=>exact a1
  obtain⟨v',w',hrun,k2,k3,_,k5⟩:=run_append_own_at (P:=P) w B t ty e i z 2 bytes ht hi1 hi2 hi3 hi4 hz (by omega) v l.length (l.flatMap fun x=>x.vals.toList) ho.1 ad m.length c (m.flatMap fun x=>x.vals.toList) (Zhf m) hcells (ZlT m) (by simp only [maxLen];omega) hb hB
  refine⟨v',w',hrun,⟨?_,hfit⟩,k3,k5⟩
  rw [List.flatMap_append,List.length_append]
  exact k2
theorem ZfM {P:Program} (w:World) {ops:Array Oper} {rest:List Oper} {o:Oper} {a:Act} {Q:Exit→Act→World→Prop} (hgd:Region.wanted o (yielded ops a.tmps)=true) (s y:Operand) (B:Nat) (t e:TypeId) (z:Value) (bytes:Nat)
 (hop:o.op=.call { callee:=.builtin .append,args:=#[s,y],argTypes:=#[t,t] }) (ht:P.underlying t=some (.slice e))
 (hi:(P.info? e).map (fun i=>(i.zero,i.size,i.bytes))=some (some z,2,bytes)) (hz:z.cells.size=2) (hb1:1≤bytes)
 (v:Value) (l:List TyD) (hs:a.eval s=v) (ho:OwnT B w e v l) (x:Value) (m:List TyD) (hx:a.eval y=x) (hr:RowT w x m)
 (hb:(l.length+m.length)*bytes≤140737488355328) (hB:B≤w.heap.size)
 (h:∀ v' w',OwnT B w' e v' (l++m)→w.grownBy w' v.ownBlock→(v'.ownBlock=v.ownBlock∨v'.ownBlock=some w.heap.size)→wpList P ops Q rest (a.put o.dst v') w') :
 wpList P ops Q (o :: rest) a w:=by
 refine wpList_step fun K hK=>?_
 rw [if_pos hgd]
 obtain⟨v',w',hrun,h2,h3,h4⟩:=Zpu (P:=P) w B t o.type e z bytes ht hi hz v l ho x m hr hb hb1 hB
 unfold Oper.wp execOp
 simp only [hop,resolve,invoke,builtin,Sem.run_bind,Sem.run_pure,Result.andThen_ok,List.map_toArray,List.map_cons,List.map_nil,hs,hx,hrun]
 exact hK _ _ (h v' w' h2 h3 h4)
def eqT (x y:TyD):Bool:=decide (x=y)
theorem TyD.ext_ {x y:TyD} (h0:x.k=y.k) (h1:x.s=y.s):x=y:=by
 cases x;cases y
 simp only at h0 h1
 subst h0 h1
 rfl
theorem ZnS (x y:TyD) (W:World):(binOp .eql 41 (.agg x.vals) (.agg y.vals)).run Tryz.prog W=.ok (.bool (eqT x y)) W:=by
 unfold TyD.vals
 go_simp
 simp only [Zdd]
 by_cases h:x=y
 ·subst h
  simp [eqT]
 ·rw [show eqT x y=false by simp [eqT,h]]
  (repeat' split) <;> first | rfl | (exact(h (TyD.ext_ ‹x.k=y.k› ‹x.s=y.s›)).elim)
theorem Zfw (x y:TyD) (W:World):(binOp .neq 41 (.agg x.vals) (.agg y.vals)).run Tryz.prog W=.ok (.bool (!eqT x y)) W:=by
 unfold TyD.vals
 go_simp
 simp only [Zdd]
 by_cases h:x=y
 ·subst h
  simp [eqT]
 ·rw [show eqT x y=false by simp [eqT,h]]
  (repeat' split) <;> first | rfl | (exact(h (TyD.ext_ ‹x.k=y.k› ‹x.s=y.s›)).elim)
def Pr.vals (p:Pr) (v:Value):Array Value:=#[.int .i64 p.ret.k,.string (bs p.ret.s),v]
def eqP (p q:Pr):Bool:=decide (p=q)
theorem Zcw {l:List TyD} {k:Nat} (h:k<l.length):l.take (k+1)=l.take k++[gtD l k]:=by
 rw [List.take_succ_eq_append_getElem h]
 simp [gtD,h]
theorem Zh8 {p q:Pr} (h:¬ p.args=q.args):eqP p q=false:=by
 simp only [eqP,decide_eq_false_iff_not]
 exact fun e=>h (by rw [e])
theorem ZoB {p q:Pr} (h:¬ p.ret=q.ret):eqP p q=false:=by
 simp only [eqP,decide_eq_false_iff_not]
 exact fun e=>h (by rw [e])
theorem ZmH {p q:Pr} (h:p.ret=q.ret) (h2:p.args=q.args):eqP p q=true:=by
 cases p;cases q
 simp only at h h2
 subst h h2
 simp [eqP]
theorem ZgQ {b c:Bool} (h:b=c):Ending.returned (.bool b)=.returned (.bool c):=by rw [h]
theorem Zbi (w:World) (o p:Obj):Ext w ((w.alloc o).alloc p):=((Ext.refl w).alloc o).alloc p
theorem Zfg (v1 v2:Value) (p q:Pr) (w:World) (h1:RowT w v1 p.args) (h2:RowT w v2 q.args) :
 Calls Tryz.prog 84 #[.agg (p.vals v1),.agg (q.vals v2)] w fun e w'=>e=.returned (.bool (eqP p q))∧Ext w w':=by
 have hne:=fun W=>Zfw p.ret q.ret W
 unfold Pr.vals
 unfold TyD.vals at hne
 obtain⟨A1,c1,rfl,hc1,hm1,ha1,hf1,hg1⟩:=h1
 obtain⟨A2,c2,rfl,hc2,hm2,ha2,hf2,hg2⟩:=h2
 unfold maxLen at hm1 hm2
 by_cases hr:p.ret=q.ret
 ·rw [show eqT p.ret q.ret=true by simp [eqT,hr]] at hne
  by_cases hl:p.args.length=q.args.length
  ·obtain⟨n,hn⟩:∃ n,n=p.args.length:=⟨_,rfl⟩
   rw [← hn] at hc1 hg1 ⊢
   rw [← hl,← hn] at hc2 hg2 ⊢
   have Hn:=Lh hn
   have Hl:=Lh hl
   have Hr:=Lh hr
   clear hn hl ha1 ha2 hr
   go_enter Tryz.func84,Tryz.ntmps84
   go_wp2
   obtain⟨w2,hw2⟩:∃ w2,w2=(w.alloc (.cells #[.int .i64 p.ret.k,.string (bs p.ret.s),.slice A1 n c1] 44)).alloc (.cells #[.int .i64 q.ret.k,.string (bs q.ret.s),.slice A2 n c2] 44):=⟨_,rfl⟩
   have z1:w2.heap[w.heap.size]?=some (.cells #[.int .i64 p.ret.k,.string (bs p.ret.s),.slice A1 n c1] 44 (0,0)):=by
    rw [hw2,heap_alloc_old _ _ (by simp),heap_alloc_new]
   have z2:w2.heap[w.heap.size+1]?=some (.cells #[.int .i64 q.ret.k,.string (bs q.ret.s),.slice A2 n c2] 44 (0,0)):=by
    have:=heap_alloc_new (w.alloc (.cells #[.int .i64 p.ret.k,.string (bs p.ret.s),.slice A1 n c1] 44)) (.cells #[.int .i64 q.ret.k,.string (bs q.ret.s),.slice A2 n c2] 44)
    rw [hw2]
    simpa using this
   have z3:w2.cell? ⟨w.heap.size,2,none⟩=some (.slice A1 n c1):=by rw [cell_of_row w2 _ _ _ _ _ z1];rfl
   have z4:w2.cell? ⟨w.heap.size+1,2,none⟩=some (.slice A2 n c2):=by rw [cell_of_row w2 _ _ _ _ _ z2];rfl
   rw [← hw2]
   have X2:Ext w w2:=by rw [hw2];exact Zbi _ _ _
   have X2:=Lh X2
   clear z1 z2 hne hw2
   go_loopw [5] (fun i wr=>∃ k m:Nat,k≤n∧i=.int .i64 k∧wr=w2.drewN m∧p.args.take k=q.args.take k) (fun i _=>n-(intOf i).toNat)
   case atStart=>exact⟨0,0,by omega,rfl,rfl,rfl⟩
   case round =>
    obtain⟨k,m,hk,rfl,rfl,ht⟩:=hrel
    have Ht:=Lh ht
    clear ht
    by_cases hlt:k<n
    ·obtain⟨b1,o1,rfl,hb1,hx1⟩:=hg1 (by omega)
     obtain⟨b2,o2,rfl,hb2,hx2⟩:=hg2 (by omega)
     obtain⟨y0,y1⟩:=(hx1 k hlt).ext X2.out hb1
     obtain⟨u0,u1⟩:=(hx2 k hlt).ext X2.out hb2
     have hne:=fun W=>Zfw (gtD p.args k) (gtD q.args k) W
     unfold TyD.vals at hne
     clear hx1 hx2
     by_cases he:gtD p.args k=gtD q.args k
     ·rw [show eqT (gtD p.args k) (gtD q.args k)=true by simp [eqT,he]] at hne
      have HE:=Lh he
      clear he
      go_wp2
      go_quiet (fail)
      go_wp2
      refine⟨⟨k+1,m+nq,by omega,by go_num,rfl,?_⟩,by simp [intOf];omega⟩
      rw [Zcw (by have:=Hn.out;omega),Zcw (by have:=Hn.out;have:=Hl.out;omega),Ht.out,HE.out]
     ·rw [show eqT (gtD p.args k) (gtD q.args k)=false by simp [eqT,he]] at hne
      have HE:=Lh (Zh8 (p:=p) (q:=q) (fun e=>he (by rw [e])))
      clear he
      go_wp2
      go_quiet (fail)
      go_wp2
      go_ret
      exact⟨ZgQ HE.out.symm,by rw [World.drewN_drewN];exact X2.out.drewN _⟩
    ·obtain rfl:k=n:=by omega
     go_wp2
     go_ret
     refine⟨ZgQ ?_,X2.out.drewN _⟩
     have e:p.args=q.args:=by
      have:=Ht.out
      rw [Hn.out] at this
      rwa [List.take_length,Hl.out,List.take_length] at this
     rw [ZmH Hr.out e]
  ·have hb:((p.args.length:Int) != (q.args.length:Int))=true:=by simp;omega
   have HE:=Lh (Zh8 (p:=p) (q:=q) (fun e=>hl (by rw [e])))
   clear hg1 hg2 hl
   go_enter Tryz.func84,Tryz.ntmps84
   go_wp2
   go_ret
   exact⟨ZgQ HE.out.symm,by first | exact Zbi _ _ _ | exact(Zbi _ _ _).drewN _⟩
 ·rw [show eqT p.ret q.ret=false by simp [eqT,hr]] at hne
  have HE:=Lh (ZoB (p:=p) (q:=q) hr)
  clear hg1 hg2 hr
  go_enter Tryz.func84,Tryz.ntmps84
  go_wp2
  go_ret
  exact⟨ZgQ HE.out.symm,by first | exact Zbi _ _ _ | exact(Zbi _ _ _).drewN _⟩
theorem ZcY {p:Pr} (h:16<p.args.length):Zap p=5:=by rw [Zap,if_pos h]
theorem ZgY {p:Pr} (h:¬ 16<p.args.length) (h1:¬ p.ret=t0D) (h2:okT p.ret=false):Zap p=2:=by
 rw [Zap,if_neg h,if_neg]
 simp [okP,h1,h2]
theorem ZeJ {p:Pr} (h:¬ 16<p.args.length) {k:Nat} (hk:k<p.args.length) (h2:okT (gtD p.args k)=false):Zap p=2:=by
 rw [Zap,if_neg h,if_neg]
 intro ho
 unfold okP at ho
 simp only [Bool.and_eq_true,List.all_eq_true] at ho
 have:=ho.2 _ (ZfE hk)
 rw [h2] at this
 cases this
theorem ZdD {p:Pr} (h:¬ 16<p.args.length) (h1:p.ret=t0D∨okT p.ret=true) (h2:∀ j,j<p.args.length→okT (gtD p.args j)=true):Zap p=0:=by
 rw [Zap,if_neg h,if_pos]
 unfold okP
 simp only [Bool.and_eq_true,List.all_eq_true,Bool.or_eq_true,decide_eq_true_eq]
 refine⟨h1,fun t ht=>?_⟩
 obtain⟨j,hj,rfl⟩:=List.getElem_of_mem ht
 have:=h2 j hj
 simpa [gtD,hj] using this
theorem Zcp (v:Value) (p:Pr) (w:World) (h:RowT w v p.args) (hret:p.ret.s.length≤140737488351232) :
 Calls Tryz.prog 79 #[.agg (p.vals v)] w fun e w'=>e=.returned (.int .i64 (Zap p))∧Ext w w':=by
 unfold Pr.vals
 obtain⟨A,c,rfl,hc,hm,ha,hf,hg⟩:=h
 unfold maxLen at hm
 by_cases h16:16<p.args.length
 ·rw [ZcY h16]
  clear hg hf ha
  go_enter Tryz.func79,Tryz.ntmps79
  go_wp2
  go_ret
  exact⟨rfl,(Ext.refl w).alloc _⟩
 ·have hne:∀ W,(binOp .neq 41 (.agg #[.int .i64 p.ret.k,.string (bs p.ret.s)]) (.agg #[.int .i64 0,.string ⟨#[]⟩])).run Tryz.prog W=.ok (.bool (!eqT p.ret t0D)) W:=fun W=>Zfw p.ret t0D W
  have HC:=fun W=>ZaW p.ret W hret
  unfold TyD.vals at HC
  have HC:=Lh HC
  obtain⟨n,hn⟩:∃ n,n=p.args.length:=⟨_,rfl⟩
  rw [← hn] at hc hg h16 ⊢
  have Hn:=Lh hn
  clear hn ha
  have hf:=Lh hf
  -- what holds once the answered type is seen
  have rest:(p.ret=t0D∨okT p.ret=true)→Hid (p.ret=t0D∨okT p.ret=true):=Lh
  by_cases h0:p.ret=t0D
  ·rw [show eqT p.ret t0D=true by simp [eqT,h0]] at hne
   have Rest:=rest (.inl h0)
   clear rest h0
   go_enter Tryz.func79,Tryz.ntmps79
   go_wp2
   obtain⟨w2,hw2⟩:∃ w2,w2=w.alloc (.cells #[.int .i64 p.ret.k,.string (bs p.ret.s),.slice A n c] 44):=⟨_,rfl⟩
   have z3:w2.cell? ⟨w.heap.size,2,none⟩=some (.slice A n c):=by rw [hw2,cell_of_row _ _ _ _ _ _ (heap_alloc_new _ _)];rfl
   have hlt2:w.heap.size<w2.heap.size:=by rw [hw2];simp
   have X2:Ext w w2:=by rw [hw2];exact(Ext.refl w).alloc _
   rw [← hw2]
   clear hw2 hne
   have X2:=Lh X2
   go_loopw [3] (fun i wr=>∃ k:Nat,k≤n∧i=.int .i64 k∧(∀ j,j<k→okT (gtD p.args j)=true)∧Ext w2 wr) (fun i _=>n-(intOf i).toNat)
   case atStart=>exact⟨0,by omega,rfl,(fun j h=>absurd h (Nat.not_lt_zero _)),Ext.refl _⟩
   case round =>
    obtain⟨k,hk,rfl,ht,hx⟩:=hrel
    have Ht:=Lh ht
    clear ht
    have z4:=(hx.cell (p:=⟨w.heap.size,2,none⟩) hlt2).trans z3
    by_cases hlt:k<n
    ·obtain⟨b1,o1,rfl,hb1,hx1⟩:=hg (by omega)
     obtain⟨y0,y1⟩:=(hx1 k hlt).ext (X2.out.trans hx) hb1
     clear hx1
     have HC:=fun W=>ZaW (gtD p.args k) W (hf.out _ (ZfE (by have:=Hn.out;omega))).2
     unfold TyD.vals at HC
     have HC:=Lh HC
     cases ho:okT (gtD p.args k)
     ·have H2:=Lh (Zaw ho)
      have HE:=Lh (ZeJ (p:=p) (by have:=Hn.out;omega) (by have:=Hn.out;omega) ho)
      clear ho
      go_wp2_with fail
      refine(HC.out _).mono ?_
      rw [H2.out]
      rintro e w3 ⟨rfl,x3⟩
      go_wp2
      go_ret
      rw [HE.out]
      exact⟨rfl,X2.out.trans (hx.trans x3)⟩
     ·have H2:=Lh (Zat ho)
      have HO:=Lh ho
      clear ho
      go_wp2_with fail
      refine(HC.out _).mono ?_
      rw [H2.out]
      rintro e w3 ⟨rfl,x3⟩
      go_wp2
      refine⟨⟨k+1,by omega,by go_num,(fun j hj=>?_),hx.trans x3⟩,by simp [intOf];omega⟩
      by_cases hjk:j<k
      ·exact Ht.out j hjk
      ·obtain rfl:j=k:=by omega
       exact HO.out
    ·obtain rfl:k=n:=by omega
     go_wp2
     go_ret
     refine⟨?_,X2.out.trans hx⟩
     rw [ZdD (by have:=Hn.out;omega) Rest.out (fun j hj=>Ht.out j (by have:=Hn.out;omega))]
     rfl
  ·rw [show eqT p.ret t0D=false by simp [eqT,h0]] at hne
   cases ho:okT p.ret
   ·have H2:=Lh (Zaw ho)
    have HE:=Lh (ZgY (by have:=Hn.out;omega) h0 ho)
    clear rest h0 ho
    go_enter Tryz.func79,Tryz.ntmps79
    go_wp2_with fail
    refine(HC.out _).mono ?_
    rw [H2.out]
    rintro e w1 ⟨rfl,x1⟩
    go_wp2
    go_ret
    rw [HE.out]
    exact⟨rfl,((Ext.refl w).alloc _).trans x1⟩
   ·have H2:=Lh (Zat ho)
    have Rest:=rest (.inr ho)
    clear rest h0 ho
    go_enter Tryz.func79,Tryz.ntmps79
    go_wp2_with fail
    refine(HC.out _).mono ?_
    rw [H2.out]
    rintro e w2 ⟨rfl,x1⟩
    have z3:w2.cell? ⟨w.heap.size,2,none⟩=some (.slice A n c):=by
     rw [x1.cell (p:=⟨w.heap.size,2,none⟩) (by simp),cell_of_row _ _ _ _ _ _ (heap_alloc_new _ _)]
     rfl
    have hlt2:w.heap.size<w2.heap.size:=by have:=x1.size;simp at this;omega
    have X2:Ext w w2:=((Ext.refl w).alloc _).trans x1
    go_wp2
    clear hne x1
    have X2:=Lh X2
    go_loopw [3] (fun i wr=>∃ k:Nat,k≤n∧i=.int .i64 k∧(∀ j,j<k→okT (gtD p.args j)=true)∧Ext w2 wr) (fun i _=>n-(intOf i).toNat)
    case atStart=>exact⟨0,by omega,rfl,(fun j h=>absurd h (Nat.not_lt_zero _)),Ext.refl _⟩
    case round =>
     obtain⟨k,hk,rfl,ht,hx⟩:=hrel
     have Ht:=Lh ht
     clear ht
     have z4:=(hx.cell (p:=⟨w.heap.size,2,none⟩) hlt2).trans z3
     by_cases hlt:k<n
     ·obtain⟨b1,o1,rfl,hb1,hx1⟩:=hg (by omega)
      obtain⟨y0,y1⟩:=(hx1 k hlt).ext (X2.out.trans hx) hb1
      clear hx1
      have HC:=fun W=>ZaW (gtD p.args k) W (hf.out _ (ZfE (by have:=Hn.out;omega))).2
      unfold TyD.vals at HC
      have HC:=Lh HC
      cases ho:okT (gtD p.args k)
      ·have H2:=Lh (Zaw ho)
       have HE:=Lh (ZeJ (p:=p) (by have:=Hn.out;omega) (by have:=Hn.out;omega) ho)
       clear ho
       go_wp2_with fail
       refine(HC.out _).mono ?_
       rw [H2.out]
       rintro e w3 ⟨rfl,x3⟩
       go_wp2
       go_ret
       rw [HE.out]
       exact⟨rfl,X2.out.trans (hx.trans x3)⟩
      ·have H2:=Lh (Zat ho)
       have HO:=Lh ho
       clear ho
       go_wp2_with fail
       refine(HC.out _).mono ?_
       rw [H2.out]
       rintro e w3 ⟨rfl,x3⟩
       go_wp2
       refine⟨⟨k+1,by omega,by go_num,(fun j hj=>?_),hx.trans x3⟩,by simp [intOf];omega⟩
       by_cases hjk:j<k
       ·exact Ht.out j hjk
       ·obtain rfl:j=k:=by omega
        exact HO.out
     ·obtain rfl:k=n:=by omega
      go_wp2
      go_ret
      refine⟨?_,X2.out.trans hx⟩
      rw [ZdD (by have:=Hn.out;omega) Rest.out (fun j hj=>Ht.out j (by have:=Hn.out;omega))]
      rfl
end Go.Proofs.YtclamhhgldkhnaaGreatDoor
