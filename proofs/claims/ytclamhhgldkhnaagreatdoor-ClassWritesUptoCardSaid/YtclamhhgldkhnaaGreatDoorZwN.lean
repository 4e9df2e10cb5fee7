/- Several texts of this proof, one behind the other. -/
import Derived.Test.YtclamhhgldkhnaaGreatDoorRows
import Derived.Test.YtclamhhgldkhnaaGreatDoorZwJ
import Derived.Test.YtclamhhgldkhnaaGreatDoorZwF
import Derived.ProofKit
import Derived.OpenShut
import Derived.ShutString
import Derived.ChangeOld
import Derived.SizedLaws
import Derived.Lib.ValidLaws
import Derived.Deep.Slices
import Derived.Deep.Fields
import Derived.ChangeSame
namespace Go.Proofs.YtclamhhgldkhnaaGreatDoor
open Go.RowKit Go.ChangeShapes Go.WideShapes Go.Deep
set_option linter.unusedVariables false
set_option maxHeartbeats 16000000
theorem own:ownKnob Tryz.prog.godebug=none:=by kernel_rfl
theorem Zog:laidOutB Tryz.prog=true:=by kernel_rfl
theorem ZdB {x:Int} (h:(Lit.int .i64 x).wf=true):-9223372036854775808≤x∧x≤9223372036854775807:=by
 simp [Lit.wf,IntKind.min,IntKind.max,IntKind.signed,IntKind.bits] at h
 omega
def B64 (x:Int):Prop:=-9223372036854775808≤x∧x≤9223372036854775807
theorem Zo2 {α:Type} (S:Shp α) {Q:Nat→α→Prop}:∀ (n:Nat),(∀ i,i<n→∃ y,Q i y)→∃ l:List α,l.length=n∧∀ i,i<n→Q i (S.el l i):=by
 intro n
 induction n with
 | zero=>exact fun _=>⟨[],rfl,fun i h=>absurd h (Nat.not_lt_zero i)⟩
 | succ n ih =>
  intro h
  obtain⟨l,hl,hq⟩:=ih (fun i hi=>h i (by omega))
  obtain⟨y,hy⟩:=h n (by omega)
  refine⟨l++[y],by simp [hl],fun i hi=>?_⟩
  by_cases hin:i<n
  ·have e:S.el (l++[y]) i=S.el l i:=by simp [Shp.el,List.getElem?_append_left (show i<l.length by omega)]
   rw [e]
   exact hq i hin
  ·have e:S.el (l++[y]) i=y:=by
    have:i=l.length:=by omega
    subst this
    simp [Shp.el]
   rw [e,show i=n by omega]
   exact hy
section
variable {H : Type} {enc : TypeId × Value → H} {w : World}
def Zch (t:TypeId) (d:DataW H):Prop:=∀ x∈d.weights Tryz.prog t,x≤reachBytes
theorem ZmN {t:TypeId}:∀ {ds:List (DataW H)},(∀ x∈DataW.weightsAll Tryz.prog t ds,x≤reachBytes)→∀ {d:DataW H},d∈ds→Zch t d:=by
 intro ds
 induction ds with
 | nil=>intro _ d h;cases h
 | cons a ds ih =>
  intro hw d h
  rw [DataW.weightsAll] at hw
  rcases List.mem_cons.1 h with rfl | h
  ·exact fun x hx=>hw x (List.mem_append_left _ hx)
  ·exact ih (fun x hx=>hw x (List.mem_append_right _ hx)) h
theorem ZdX {t e:TypeId} {ds sp:List (DataW H)} (ht:Tryz.prog.underlying t=some (.slice e)) (h:Zch t (.slice ds sp:DataW H)):(ds.length+sp.length)*Tryz.prog.bytesOf e≤reachBytes∧∀ d∈ds,Zch e d:=by
 have hu:(DataW.slice ds sp:DataW H).weights Tryz.prog t=(ds.length+sp.length)*Tryz.prog.bytesOf e :: (DataW.weightsAll Tryz.prog e ds++DataW.weightsAll Tryz.prog e sp):=by
  rw [DataW.weights,ht]
 unfold Zch at h
 rw [hu] at h
 exact⟨h _ (List.mem_cons_self ..),fun d hd=>ZmN (fun x hx=>h x (List.mem_cons_of_mem _ (List.mem_append_left _ hx))) hd⟩
theorem Zhc:∀ {ts:List TypeId} {ds:List (DataW H)},(∀ x∈DataW.weightsEach Tryz.prog ts ds,x≤reachBytes)→∀ {j:Nat} {t:TypeId} {d:DataW H},ts[j]?=some t→ds[j]?=some d→Zch t d:=by
 intro ts
 induction ts with
 | nil=>intro ds _ j t d ht;simp at ht
 | cons a ts ih =>
  intro ds h j t d ht hd
  match ds,hd with
  | [],hd=>simp at hd
  | b :: ds,hd =>
   rw [DataW.weightsEach] at h
   match j,ht,hd with
   | 0,ht,hd =>
    simp at ht hd
    subst ht hd
    exact fun x hx=>h x (List.mem_append_left _ hx)
   | j+1,ht,hd=>exact ih (fun x hx=>h x (List.mem_append_right _ hx)) (by simpa using ht) (by simpa using hd)
theorem Zar {t:TypeId} {fs:Array Field} {ds:List (DataW H)} (ht:Tryz.prog.underlying t=some (.struct fs)) (h:Zch t (.agg ds:DataW H)) {j:Nat} {f:Field} {d:DataW H} (hf:fs[j]?=some f) (hd:ds[j]?=some d):Zch f.type d:=by
 have hu:(DataW.agg ds:DataW H).weights Tryz.prog t=DataW.weightsEach Tryz.prog (fs.toList.map (·.type)) ds:=by
  rw [DataW.weights,ht]
 unfold Zch at h
 rw [hu] at h
 exact Zhc h (j:=j) (by simp [hf]) hd
theorem ZkJ {ts:List TypeId} {ds:List (DataW H)} (h:(DataW.weightsEach Tryz.prog ts ds).all (·≤reachBytes)=true) {j:Nat} {t:TypeId} {d:DataW H} (ht:ts[j]?=some t) (hd:ds[j]?=some d):Zch t d :=
 Zhc (fun x hx=>of_decide_eq_true (List.all_eq_true.1 h x hx)) ht hd
theorem Zcq {α:Type} (S:Shp α) {t:TypeId} {bytes:Nat} {Q:α→Prop} (ht:Tryz.prog.underlying t=some (.slice S.T)) (hk:Tryz.prog.cellsOf S.T=S.n) (hb:Tryz.prog.bytesOf S.T=bytes)
 (hel:∀ (fuel:Nat) (cs:List Value) (x:DataW H × List MemPlace),DataW.trod enc Tryz.prog w 0 (fun _=>true) true fuel S.T cs=some x→Zch S.T x.1→∃ y:α,cs=(S.vals y).toList∧S.nest w y∧Q y)
 {fuel:Nat} {cs:List Value} {x:DataW H × List MemPlace} (h:DataW.trod enc Tryz.prog w 0 (fun _=>true) true fuel t cs=some x) (hl:Zch t x.1) :
 ∃ (A:Option Addr) (n c:Nat) (l:List α),cs=[.slice A n c]∧l.length=n∧S.Row w (.slice A n c) l∧l.length*bytes≤reachBytes∧∀ y∈l,Q y:=by
 rcases open_slice ht h with⟨rfl,rfl⟩ | ⟨a,len,cap,m,n,D,Pl,rfl,hbs,hlc,hm,hmm,rfl,hi⟩
 ·exact⟨none,0,0,[],rfl,rfl,Shp.Row.nil S w,by simp,(fun _ h=>by cases h)⟩
 ·have hlm:len≤m:=by rw [hmm];split <;> omega
  obtain⟨hw1,hw2⟩:=ZdX ht hl
  obtain⟨l,hll,hq⟩:=Zo2 S (Q:=fun i y=>S.nest w y∧Q y∧∀ j,j<S.n→w.cell? (a.add (i*S.n+j))=(S.vals y)[j]?) len (fun i hil=>by
   obtain⟨cs',hc,ht'⟩:=hi i (by omega)
   rw [hk] at hc
   obtain⟨y,hv,hn,hqy⟩:=hel _ _ _ ht' (hw2 _ (List.mem_map.2 ⟨i,by simp [hil],rfl⟩))
   obtain⟨_,hcl,hat⟩:=World.cells?_some hc
   refine⟨y,hn,hqy,fun j hj=>?_⟩
   have:=hat j hj
   rw [← Go.Deep.add_add,this,hv]
   simp)
  refine⟨some a,len,cap,l,rfl,hll,⟨some a,cap,by rw [hll],by omega,hm,(fun h=>by cases h),fun hp=>?_,fun y hy=>?_⟩,?_,fun y hy=>?_⟩
  ·have hp0:=S.pos
   have h0:=(hq 0 (by omega)).2.2 0 hp0
   obtain⟨b,o,spot⟩:=a
   have hsz:=S.size (S.el l 0)
   have hg:(S.vals (S.el l 0))[0]?=some ((S.vals (S.el l 0))[0]'(by omega)):=Array.getElem?_eq_getElem _
   rw [hg] at h0
   have hs:spot=none:=by simpa [Addr.add] using World.cell?_spot h0
   subst hs
   refine⟨b,o,rfl,by have:=World.block_lt_of_cell? w _ h0;rwa [Addr.add_lit] at this,fun j hj i hi=>?_⟩
   have hc:=(hq j (by omega)).2.2 i hi
   rw [Addr.add_lit] at hc
   rw [Nat.add_assoc]
   exact hc
  ·obtain⟨i,hi',rfl⟩:=S.el_of_mem hy
   exact(hq i (by omega)).1
  ·rw [hb] at hw1
   simp only [List.length_map,List.length_range] at hw1
   rw [hll]
   exact Nat.le_trans (Nat.mul_le_mul_right _ (Nat.le_add_right _ _)) hw1
  ·obtain⟨i,hi',rfl⟩:=S.el_of_mem hy
   exact(hq i (by omega)).2.1
theorem Zmf {k:IntKind} {t e:TypeId} {bytes:Nat} (ht:Tryz.prog.underlying t=some (.slice e)) (he:Tryz.prog.underlying e=some (.int k)) (hk:Tryz.prog.cellsOf e=1) (hb:Tryz.prog.bytesOf e=bytes)
 {fuel:Nat} {cs:List Value} {x:DataW H × List MemPlace} (h:DataW.trod enc Tryz.prog w 0 (fun _=>true) true fuel t cs=some x) (hl:Zch t x.1) :
 ∃ (A:Option Addr) (n c:Nat) (l:List Int),cs=[.slice A n c]∧l.length=n∧Row w k (.slice A n c) l∧l.length*bytes≤reachBytes:=by
 rcases open_ints ht he hk h with⟨rfl,rfl⟩ | ⟨a,n,c,zs,rfl,_,hlc,hm,hz,rfl,hcell,hwz⟩
 ·exact⟨none,0,0,[],rfl,rfl,(Own.nil 0 _ 0 _).row,by simp⟩
 ·simp only [if_true] at hz
  obtain⟨hw1,-⟩:=ZdX ht hl
  rw [hb] at hw1
  simp only [lits,List.length_map,List.length_take,List.length_drop] at hw1
  have hln:(zs.take n).length=n:=by simp;omega
  refine⟨some a,n,c,zs.take n,rfl,hln,Zjn hlc hm hz hcell hwz,?_⟩
  rw [hln]
  refine Nat.le_trans (Nat.mul_le_mul_right _ ?_) hw1
  omega
set_option maxRecDepth 100000 in
theorem Zls (fuel:Nat) (cs:List Value) (x:DataW H × List MemPlace) (h:DataW.trod enc Tryz.prog w 0 (fun _=>true) true fuel 53 cs=some x) (hl:Zch 53 x.1) :
 ∃ y:Hd,cs=y.vals.toList∧True∧True:=by
 obtain⟨ys,n',hn',hy,hlen,hyl,hf⟩:=DataW.trod_struct Tryz.underlying53 h
 have hc:cs.length=4:=hlen.trans (by kernel_rfl)
 have k3:Tryz.prog.cellsOf 3=1:=by kernel_rfl
 match cs,hc with
 | [c0,c1,c2,c3],_ =>
  have hyl':ys.length=4:=hyl
  clear hyl
  match ys,hyl' with
  | [y0,y1,y2,y3],_ =>
   have h0:DataW.trod enc Tryz.prog w 0 (fun _=>true) true n' 3 [c0]=some y0:=by simpa [k3] using hf 0 _ rfl
   have h1:DataW.trod enc Tryz.prog w 0 (fun _=>true) true n' 3 [c1]=some y1:=by simpa [k3] using hf 1 _ rfl
   have h2:DataW.trod enc Tryz.prog w 0 (fun _=>true) true n' 3 [c2]=some y2:=by simpa [k3] using hf 2 _ rfl
   have h3:DataW.trod enc Tryz.prog w 0 (fun _=>true) true n' 3 [c3]=some y3:=by simpa [k3] using hf 3 _ rfl
   obtain⟨x0,e0,r0,w0⟩:=DataW.trod_int Tryz.underlying3 h0
   obtain⟨x1,e1,r1,w1⟩:=DataW.trod_int Tryz.underlying3 h1
   obtain⟨x2,e2,r2,w2⟩:=DataW.trod_int Tryz.underlying3 h2
   obtain⟨x3,e3,r3,w3⟩:=DataW.trod_int Tryz.underlying3 h3
   injection e0 with e0
   injection e1 with e1
   injection e2 with e2
   injection e3 with e3
   subst e0 e1 e2 e3
   exact⟨⟨x0,x1,x2,x3⟩,rfl,trivial,trivial⟩
def MeOk (m:Me):Prop:=m.code.length≤reachBytes∧m.hs.length*32≤reachBytes∧m.args.length*24≤reachBytes∧B64 m.sk∧B64 m.lo
end
end Go.Proofs.YtclamhhgldkhnaaGreatDoor
