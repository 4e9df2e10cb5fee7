/- Several texts of this proof, one behind the other. -/
import Derived.Test.YtclamhhgldkhnaaGreatDoorZwU
import Derived.Test.YtclamhhgldkhnaaGreatDoorZwQ
import Derived.Test.YtclamhhgldkhnaaGreatDoorZwP
import Derived.Test.YtclamhhgldkhnaaGreatDoorZwK
import Derived.Laws.EntriesVeiled
import Derived.Test.YtclamhhgldkhnaaGreatDoorZwD
import Derived.LoopN
import Derived.Laws.MakeOwn
namespace Go.Proofs.YtclamhhgldkhnaaGreatDoor
open Go.RowKit
set_option linter.unusedVariables false
set_option maxHeartbeats 16000000
theorem ZeQ {n:Int} (h0:0≤n) (h1:n≤9007199254740991):uBs [n]=dg 1 10 n:=by
 simp [uBs,ZlH h0 h1]
theorem Zet {a b c:Int} (a0:0≤a) (a1:a≤4096) (b0:0≤b) (b1:b≤4096) (c0:0≤c) (c1:c≤4096):uBs [a,b,c]=dg 1 10 a++dg 1 10 b++dg 1 10 c:=by
 have e1:=ZlH (n:=a) (by omega) (by omega)
 have e2:=ZlH (n:=b) (by omega) (by omega)
 have e3:=ZlH (n:=c) (by omega) (by omega)
 simp [uBs,e1,e2,e3]
theorem ZhV {x:Int} (h0:0≤x) (h1:x≤9223372036854775807):(Lit.int .i64 x).wf=true:=by
 simp [Lit.wf,IntKind.min,IntKind.max,IntKind.signed,IntKind.bits]
 omega
theorem Row.oneI (w:World) (T:TypeId) (g:Nat) (x:Int) (h0:0≤x) (h1:x≤9007199254740991) (hg:g=w.heap.size):Row (w.alloc (.cells #[.int .i64 x] T)) .i64 (.slice (some ⟨g,0,none⟩) 1 1) [x]:=by
 subst hg
 exact Row.built1 w .i64 T x (ZhV h0 (by omega))
theorem Row.threeI (w:World) (T:TypeId) (g:Nat) (a b c:Int) (a0:0≤a) (a1:a≤4096) (b0:0≤b) (b1:b≤4096) (c0:0≤c) (c1:c≤4096) (hg:g=w.heap.size):Row (w.alloc (.cells #[.int .i64 a,.int .i64 b,.int .i64 c] T)) .i64 (.slice (some ⟨g,0,none⟩) 3 3) [a,b,c]:=by
 subst hg
 exact Row.built w .i64 T [a,b,c] (fun y hy=>by
  have:y=a∨y=b∨y=c:=by simpa using hy
  rcases this with rfl | rfl | rfl
  ·exact ZhV a0 (by omega)
  ·exact ZhV b0 (by omega)
  ·exact ZhV c0 (by omega)) (by simp)
theorem Zdv {B:Nat} {w w':World} {e:TypeId} {k:IntKind} {v:Value} {l:List Int} (h:Own B w e k v l) (hs:w.heap.size≤w'.heap.size):∀ g,g=w'.heap.size→v.ownBlock≠some g:=fun g hg e2=>by
 have:=h.high g e2
 omega
set_option maxRecDepth 100000 in
theorem Ztc (w0 w:World) (v:Value) (p:List Int) (t:ByteArray) (hx:Ext w0 w) (ho:Own w0.heap.size w 5 .u8 v p) (hT:Tabs w0) (hv:Lib.validD t.data.toList=true) (hs:t.size≤140737488351232) (hz:(encZ t.data.toList).length≤9007199254740991) (hb:p.length+(encC ⟨1,t,0,0,0,0⟩).length≤140737488355328) :
 Calls Tryz.prog 56 #[v,.agg (Cst.vals ⟨1,t,0,0,0,0⟩)] w fun e w'=>∃ v',e=.returned v'∧Own w0.heap.size w' 5 .u8 v' (p++encC ⟨1,t,0,0,0,0⟩)∧Ext w0 w':=by
 have HO:=Lh ho
 clear ho
 rw [ZqP] at hb ⊢
 simp only [List.length_cons,List.length_append] at hb
 unfold Cst.vals
 go_enter Tryz.func56,Tryz.ntmps56
 go_wp2_with (at_builtin;go_loud (refine wpList_app _ rfl _ _ w0.heap.size 29 5 _ 1 .u8 rfl Tryz.underlying29 Zaq rfl (by omega) _ p rfl (HO.out.ext (((Ext.refl _).alloc _).alloc _)) _ [1] rfl (Row.one _ _ _ 1 (Zbp (by omega) (by omega)) (by simp)) (by simp only [List.length_singleton];omega) (by have:=hx.size;simp;omega) ?_);intro v3 w3 ho3 hg3 _;obtain⟨at0,hg0,x3⟩:=ZaY (y:=⟨1,t,0,0,0,0⟩) HO.out hx (Nat.le_refl _) hg3;obtain⟨z0,z1,z2,z3,z4,z5⟩:=at0;simp only at z0 z1 z2 z3 z4 z5;have HO3:=Lh ho3;clear hg3 ho3)
 go_wp2_with fail
 refine(Zjy t _ (hT.ext x3) (by omega) (by omega)).mono ?_
 rintro e w4 ⟨v4,rfl,ha,x4⟩
 rcases ha with⟨-,v5,rfl,ho5⟩ | ⟨hv2,_⟩
 rotate_left
 ·rw [hv] at hv2;cases hv2
 obtain⟨q,hq⟩:∃ q,(encZ t.data.toList).length=q:=⟨_,rfl⟩
 have HQ:=Lh hq
 obtain⟨A5,c5,hv5,_⟩:=ho5.row
 rw [hq] at hv5 hb hz
 subst hv5
 have HO5:=Lh ho5
 clear ho5 hq
 go_wp2_with fail
 refine(Zez w0.heap.size v3 _ _ [(q:Int)] _ (by exact HO3.out.ext (x4.alloc _)) (by exact Row.oneI _ _ _ _ (by omega) (by omega) (by simp)) (fun g hg=>Zdv HO3.out x4.size g (by injection hg with hg;exact hg.symm)) (by rw [ZeQ (by omega) (by omega)];simp only [List.length_append,List.length_singleton];omega) (by have:=(x3.trans x4).size;simp;omega)).mono ?_
 rintro e w7 ⟨v7,rfl,ho7,hg7,ht7⟩
 rw [ZeQ (by omega) (by omega)] at ho7
 have hs7:=hg7.size
 simp at hs7
 have x7:Ext w0 w7:=((x3.trans x4).alloc _).grown hg7 HO3.out.low
 have hr5:Row w7 .u8 (.slice A5 q c5) (encZ t.data.toList):=(HO5.out.row.ext ((Ext.refl _).alloc _)).kept hg7 (fun g hgb=>fun e=>by have:=HO5.out.low _ hgb;have:=HO3.out.high _ e;omega)
 have HR5:=Lh hr5
 have HO7:=Lh ho7
 have hsz:=x7.size
 clear ho7 hg7 hr5
 go_wp2_with (at_builtin;go_loud (refine wpList_app _ rfl _ _ w0.heap.size 29 5 _ 1 .u8 rfl Tryz.underlying29 Zaq rfl (by omega) v7 _ rfl HO7.out (.slice A5 q c5) (encZ t.data.toList) rfl HR5.out (by simp only [List.length_append,List.length_singleton];rw [HQ.out];omega) (by omega) ?_);intro v8 w8 ho8 hg8 _;have HO8:=Lh ho8;have x8:=x7.grown hg8 HO7.out.low;clear ho8 hg8)
 go_ret
 refine⟨_,rfl,?_,x8⟩
 have h8:=HO8.out
 rw [← HQ.out] at h8
 simpa using h8
set_option maxRecDepth 100000 in
theorem Zs1 (w0 w:World) (v:Value) (p:List Int) (n:Int) (hx:Ext w0 w) (ho:Own w0.heap.size w 5 .u8 v p) (hT:Tabs w0) (hn0:-9223372036854775808≤n) (hn1:n≤9223372036854775807) (hb:p.length+(encC ⟨2,.empty,n,0,0,0⟩).length≤140737488355328) :
 Calls Tryz.prog 56 #[v,.agg (Cst.vals ⟨2,.empty,n,0,0,0⟩)] w fun e w'=>∃ v',e=.returned v'∧Own w0.heap.size w' 5 .u8 v' (p++encC ⟨2,.empty,n,0,0,0⟩)∧Ext w0 w':=by
 have HO:=Lh ho
 clear ho
 rw [Zm1 (by simp)] at hb ⊢
 simp only [List.length_cons] at hb
 unfold Cst.vals
 go_enter Tryz.func56,Tryz.ntmps56
 go_wp2_with (at_builtin;go_loud (refine wpList_app _ rfl _ _ w0.heap.size 29 5 _ 1 .u8 rfl Tryz.underlying29 Zaq rfl (by omega) _ p rfl (HO.out.ext (((Ext.refl _).alloc _).alloc _)) _ [2] rfl (Row.one _ _ _ 2 (Zbp (by omega) (by omega)) (by simp)) (by simp only [List.length_singleton];omega) (by have:=hx.size;simp;omega) ?_);intro v3 w3 ho3 hg3 _;obtain⟨at0,hg0,x3⟩:=ZaY (y:=⟨2,.empty,n,0,0,0⟩) HO.out hx (Nat.le_refl _) hg3;obtain⟨z0,z1,z2,z3,z4,z5⟩:=at0;simp only at z0 z1 z2 z3 z4 z5;have HO3:=Lh ho3;clear hg3 ho3)
 go_wp2_with fail
 refine(Zts n _ hn0 hn1).mono ?_
 rintro e w4 ⟨v4,rfl,ho4,x4⟩
 have HO4:=Lh ho4
 have hsz:=(x3.trans x4).size
 clear ho4
 go_wp2_with (at_builtin;go_loud (refine wpList_app _ rfl _ _ w0.heap.size 29 5 _ 1 .u8 rfl Tryz.underlying29 Zaq rfl (by omega) v3 _ rfl (HO3.out.ext x4) v4 (dg 2 10 n) rfl HO4.out.row (by simp only [List.length_append,List.length_singleton];omega) (by omega) ?_);intro v8 w8 ho8 hg8 _;have HO8:=Lh ho8;have x8:=(x3.trans x4).grown hg8 HO3.out.low;clear ho8 hg8)
 go_ret
 refine⟨_,rfl,?_,x8⟩
 simpa using HO8.out
set_option maxRecDepth 100000 in
theorem Ztm (w0 w:World) (v:Value) (p:List Int) (n:Int) (hx:Ext w0 w) (ho:Own w0.heap.size w 5 .u8 v p) (hT:Tabs w0) (hn0:-9223372036854775808≤n) (hn1:n≤9223372036854775807) (hb:p.length+(encC ⟨3,.empty,n,0,0,0⟩).length≤140737488355328) :
 Calls Tryz.prog 56 #[v,.agg (Cst.vals ⟨3,.empty,n,0,0,0⟩)] w fun e w'=>∃ v',e=.returned v'∧Own w0.heap.size w' 5 .u8 v' (p++encC ⟨3,.empty,n,0,0,0⟩)∧Ext w0 w':=by
 have HO:=Lh ho
 clear ho
 rw [Zm1 (by simp)] at hb ⊢
 simp only [List.length_cons] at hb
 unfold Cst.vals
 go_enter Tryz.func56,Tryz.ntmps56
 go_wp2_with (at_builtin;go_loud (refine wpList_app _ rfl _ _ w0.heap.size 29 5 _ 1 .u8 rfl Tryz.underlying29 Zaq rfl (by omega) _ p rfl (HO.out.ext (((Ext.refl _).alloc _).alloc _)) _ [3] rfl (Row.one _ _ _ 3 (Zbp (by omega) (by omega)) (by simp)) (by simp only [List.length_singleton];omega) (by have:=hx.size;simp;omega) ?_);intro v3 w3 ho3 hg3 _;obtain⟨at0,hg0,x3⟩:=ZaY (y:=⟨3,.empty,n,0,0,0⟩) HO.out hx (Nat.le_refl _) hg3;obtain⟨z0,z1,z2,z3,z4,z5⟩:=at0;simp only at z0 z1 z2 z3 z4 z5;have HO3:=Lh ho3;clear hg3 ho3)
 go_wp2_with fail
 refine(Zts n _ hn0 hn1).mono ?_
 rintro e w4 ⟨v4,rfl,ho4,x4⟩
 have HO4:=Lh ho4
 have hsz:=(x3.trans x4).size
 clear ho4
 go_wp2_with (at_builtin;go_loud (refine wpList_app _ rfl _ _ w0.heap.size 29 5 _ 1 .u8 rfl Tryz.underlying29 Zaq rfl (by omega) v3 _ rfl (HO3.out.ext x4) v4 (dg 2 10 n) rfl HO4.out.row (by simp only [List.length_append,List.length_singleton];omega) (by omega) ?_);intro v8 w8 ho8 hg8 _;have HO8:=Lh ho8;have x8:=(x3.trans x4).grown hg8 HO3.out.low;clear ho8 hg8)
 go_ret
 refine⟨_,rfl,?_,x8⟩
 simpa using HO8.out
set_option maxRecDepth 100000 in
theorem ZsX (w0 w:World) (v:Value) (p:List Int) (a:Int) (hx:Ext w0 w) (ho:Own w0.heap.size w 5 .u8 v p) (hT:Tabs w0) (a0:0≤a) (a1:a≤4096) (hb:p.length+(encC ⟨4,.empty,0,a,0,0⟩).length≤140737488355328) :
 Calls Tryz.prog 56 #[v,.agg (Cst.vals ⟨4,.empty,0,a,0,0⟩)] w fun e w'=>∃ v',e=.returned v'∧Own w0.heap.size w' 5 .u8 v' (p++encC ⟨4,.empty,0,a,0,0⟩)∧Ext w0 w':=by
 have HO:=Lh ho
 clear ho
 rw [ZqD] at hb ⊢
 simp only [List.length_cons] at hb
 unfold Cst.vals
 go_enter Tryz.func56,Tryz.ntmps56
 go_wp2_with (at_builtin;go_loud (refine wpList_app _ rfl _ _ w0.heap.size 29 5 _ 1 .u8 rfl Tryz.underlying29 Zaq rfl (by omega) _ p rfl (HO.out.ext (((Ext.refl _).alloc _).alloc _)) _ [4] rfl (Row.one _ _ _ 4 (Zbp (by omega) (by omega)) (by simp)) (by simp only [List.length_singleton];omega) (by have:=hx.size;simp;omega) ?_);intro v3 w3 ho3 hg3 _;obtain⟨at0,hg0,x3⟩:=ZaY (y:=⟨4,.empty,0,a,0,0⟩) HO.out hx (Nat.le_refl _) hg3;obtain⟨z0,z1,z2,z3,z4,z5⟩:=at0;simp only at z0 z1 z2 z3 z4 z5;have HO3:=Lh ho3;clear hg3 ho3)
 go_wp2_with fail
 refine(Zez w0.heap.size v3 _ _ [a] _ (by exact HO3.out.ext ((Ext.refl _).alloc _)) (by exact Row.oneI _ _ _ _ (by omega) (by omega) (by simp)) (fun g hg=>Zdv HO3.out (Nat.le_refl _) g (by injection hg with hg;exact hg.symm)) (by rw [ZeQ (by omega) (by omega)];simp only [List.length_append,List.length_singleton];omega) (by have:=x3.size;simp;omega)).mono ?_
 rintro e w7 ⟨v7,rfl,ho7,hg7,ht7⟩
 rw [ZeQ (by omega) (by omega)] at ho7
 have x7:Ext w0 w7:=(x3.alloc _).grown hg7 HO3.out.low
 have HO7:=Lh ho7
 clear ho7 hg7
 go_wp2
 go_ret
 refine⟨_,rfl,?_,x7⟩
 simpa using HO7.out
set_option maxRecDepth 100000 in
theorem Zs6 (w0 w:World) (v:Value) (p:List Int) (a b c:Int) (hx:Ext w0 w) (ho:Own w0.heap.size w 5 .u8 v p) (hT:Tabs w0) (a0:0≤a) (a1:a≤4096) (b0:0≤b) (b1:b≤4096) (c0:0≤c) (c1:c≤4096) (hb:p.length+(encC ⟨5,.empty,0,a,b,c⟩).length≤140737488355328) :
 Calls Tryz.prog 56 #[v,.agg (Cst.vals ⟨5,.empty,0,a,b,c⟩)] w fun e w'=>∃ v',e=.returned v'∧Own w0.heap.size w' 5 .u8 v' (p++encC ⟨5,.empty,0,a,b,c⟩)∧Ext w0 w':=by
 have HO:=Lh ho
 clear ho
 rw [Zow (by simp)] at hb ⊢
 simp only [List.length_cons,List.length_append] at hb
 unfold Cst.vals
 go_enter Tryz.func56,Tryz.ntmps56
 go_wp2_with (at_builtin;go_loud (refine wpList_app _ rfl _ _ w0.heap.size 29 5 _ 1 .u8 rfl Tryz.underlying29 Zaq rfl (by omega) _ p rfl (HO.out.ext (((Ext.refl _).alloc _).alloc _)) _ [5] rfl (Row.one _ _ _ 5 (Zbp (by omega) (by omega)) (by simp)) (by simp only [List.length_singleton];omega) (by have:=hx.size;simp;omega) ?_);intro v3 w3 ho3 hg3 _;obtain⟨at0,hg0,x3⟩:=ZaY (y:=⟨5,.empty,0,a,b,c⟩) HO.out hx (Nat.le_refl _) hg3;obtain⟨z0,z1,z2,z3,z4,z5⟩:=at0;simp only at z0 z1 z2 z3 z4 z5;have HO3:=Lh ho3;clear hg3 ho3)
 go_wp2_with fail
 refine(Zez w0.heap.size v3 _ _ [a,b,c] _ (by exact HO3.out.ext ((Ext.refl _).alloc _)) (by exact Row.threeI _ _ _ a b c a0 a1 b0 b1 c0 c1 (by simp)) (fun g hg=>Zdv HO3.out (Nat.le_refl _) g (by injection hg with hg;exact hg.symm)) (by rw [Zet a0 a1 b0 b1 c0 c1];simp only [List.length_append,List.length_singleton];omega) (by have:=x3.size;simp;omega)).mono ?_
 rintro e w7 ⟨v7,rfl,ho7,hg7,ht7⟩
 rw [Zet a0 a1 b0 b1 c0 c1] at ho7
 have x7:Ext w0 w7:=(x3.alloc _).grown hg7 HO3.out.low
 have HO7:=Lh ho7
 clear ho7 hg7
 go_wp2
 go_ret
 refine⟨_,rfl,?_,x7⟩
 simpa using HO7.out
set_option maxRecDepth 100000 in
theorem ZsK (w0 w:World) (v:Value) (p:List Int) (a b c:Int) (hx:Ext w0 w) (ho:Own w0.heap.size w 5 .u8 v p) (hT:Tabs w0) (a0:0≤a) (a1:a≤4096) (b0:0≤b) (b1:b≤4096) (c0:0≤c) (c1:c≤4096) (hb:p.length+(encC ⟨6,.empty,0,a,b,c⟩).length≤140737488355328) :
 Calls Tryz.prog 56 #[v,.agg (Cst.vals ⟨6,.empty,0,a,b,c⟩)] w fun e w'=>∃ v',e=.returned v'∧Own w0.heap.size w' 5 .u8 v' (p++encC ⟨6,.empty,0,a,b,c⟩)∧Ext w0 w':=by
 have HO:=Lh ho
 clear ho
 rw [Zow (by simp)] at hb ⊢
 simp only [List.length_cons,List.length_append] at hb
 unfold Cst.vals
 go_enter Tryz.func56,Tryz.ntmps56
 go_wp2_with (at_builtin;go_loud (refine wpList_app _ rfl _ _ w0.heap.size 29 5 _ 1 .u8 rfl Tryz.underlying29 Zaq rfl (by omega) _ p rfl (HO.out.ext (((Ext.refl _).alloc _).alloc _)) _ [6] rfl (Row.one _ _ _ 6 (Zbp (by omega) (by omega)) (by simp)) (by simp only [List.length_singleton];omega) (by have:=hx.size;simp;omega) ?_);intro v3 w3 ho3 hg3 _;obtain⟨at0,hg0,x3⟩:=ZaY (y:=⟨6,.empty,0,a,b,c⟩) HO.out hx (Nat.le_refl _) hg3;obtain⟨z0,z1,z2,z3,z4,z5⟩:=at0;simp only at z0 z1 z2 z3 z4 z5;have HO3:=Lh ho3;clear hg3 ho3)
 go_wp2_with fail
 refine(Zez w0.heap.size v3 _ _ [a,b,c] _ (by exact HO3.out.ext ((Ext.refl _).alloc _)) (by exact Row.threeI _ _ _ a b c a0 a1 b0 b1 c0 c1 (by simp)) (fun g hg=>Zdv HO3.out (Nat.le_refl _) g (by injection hg with hg;exact hg.symm)) (by rw [Zet a0 a1 b0 b1 c0 c1];simp only [List.length_append,List.length_singleton];omega) (by have:=x3.size;simp;omega)).mono ?_
 rintro e w7 ⟨v7,rfl,ho7,hg7,ht7⟩
 rw [Zet a0 a1 b0 b1 c0 c1] at ho7
 have x7:Ext w0 w7:=(x3.alloc _).grown hg7 HO3.out.low
 have HO7:=Lh ho7
 clear ho7 hg7
 go_wp2
 go_ret
 refine⟨_,rfl,?_,x7⟩
 simpa using HO7.out
theorem Zsq (w0 w:World) (v:Value) (p:List Int) (l:List Cst) (x:Cst) (hx:Ext w0 w) (ho:Own w0.heap.size w 5 .u8 v p) (hT:Tabs w0) (hm:mayC l x=true) (hl:l.length≤4096) (hok:x.ok) (hs:x.t.size≤140737488351232) (hb:p.length+(encC x).length≤140737488355328) :
 Calls Tryz.prog 56 #[v,.agg x.vals] w fun e w'=>∃ v',e=.returned v'∧Own w0.heap.size w' 5 .u8 v' (p++encC x)∧Ext w0 w':=by
 rcases Ziv hm hl with⟨t,rfl,hv⟩ | ⟨k,n,rfl,rfl | rfl⟩ | ⟨a,rfl,ha⟩ | ⟨k,a,b,c,rfl,rfl | rfl,ha,hb',hc⟩
 ·exact Ztc w0 w v p t hx ho hT hv hs (by have h1:=ZfH t.data.toList;have h2:t.data.toList.length=t.size:=(Lib.size_eq _).symm;have:t.size≤140737488351232:=hs;omega) hb
 ·exact Zs1 w0 w v p n hx ho hT hok.2.1.1 hok.2.1.2 hb
 ·exact Ztm w0 w v p n hx ho hT hok.2.1.1 hok.2.1.2 hb
 ·exact ZsX w0 w v p a hx ho hT ha.1 ha.2 hb
 ·exact Zs6 w0 w v p a b c hx ho hT ha.1 ha.2 hb'.1 hb'.2 hc.1 hc.2 hb
 ·exact ZsK w0 w v p a b c hx ho hT ha.1 ha.2 hb'.1 hb'.2 hc.1 hc.2 hb
set_option maxRecDepth 100000 in
theorem Zot (v:Value) (l:List Cst) (w:World) (h:RowC w v l) (hT:Tabs w) (hR:Texts l) (hZ:ZaD l=0→(Zbd l).length≤140737488355328) :
 Calls Tryz.prog 23 #[v] w (Ret w (ZkC w l)):=by
 have hrow:=h
 obtain⟨A,cp,rfl,h2,h3,h4,h5,h6⟩:=id h
 unfold maxLen at h3
 by_cases hC:ZaD l=0
 ·obtain⟨hl,hl0,hall⟩:=Zb8 hC
  have hz:=hZ hC
  have HC:=Lh hC
  obtain⟨A2,c2,t4,t4',t5,t6,ht⟩:=ZsZ h hl0
  unfold maxLen at t6
  obtain⟨n,hn⟩:∃ n,n=l.length:=⟨_,rfl⟩
  have HN:=Lh hn
  rw [← hn] at hrow h hl hl0 t4 t4' t5 ht
  rw [← hn]
  obtain⟨m,hm⟩:∃ m,n-1=m:=⟨_,rfl⟩
  rw [hm] at t4 t4' t5
  clear hn h2 h4 h6 hC
  go_enter Tryz.func23,Tryz.ntmps23
  go_wp2_with fail
  refine(ZdA _ l _ (by exact hrow) hT hR).mono ?_
  rw [HC.out]
  rintro e w1 ⟨rfl,x1⟩
  go_wp2_with fail
  refine(Zez w.heap.size (.slice none 0 0) [] _ [(n:Int)] _ (by exact Own.nil _ _ _ _) (by exact Row.oneI _ _ _ _ (by omega) (by omega) (by simp)) (fun g hg=>by simp [Value.ownBlock]) (by rw [ZeQ (by omega) (by omega),List.length_nil];have h1:=Zhv (l:=l) (k:=1) (m:=l.length) (Nat.le_refl _) (by rw [← HN.out];omega);rw [ZfK,← HN.out] at h1;have h2:(Za1 l l.length).length≤140737488355328:=hz;rw [← HN.out] at h2;omega) (by have:=x1.size;simp;omega)).mono ?_
  rintro e w2 ⟨v2,rfl,ho2,hg2,-⟩
  have ho:Own w.heap.size w2 5 .u8 v2 (Za1 l 1):=by
   rw [ZfK,← HN.out]
   rw [ZeQ (by omega) (by omega)] at ho2
   simpa using ho2
  have x:Ext w w2:=(x1.alloc _).grown hg2 (fun g hg=>by simp [Value.ownBlock] at hg)
  clear ho2 x1 hg2
  go_wp2
  go_loopw [5,20] (fun v i wr=>∃ k:Nat,i=.int .i64 k∧k≤m∧Own w.heap.size wr 5 .u8 v (Za1 l (k+1))∧Ext w wr) (fun _ i _=>m-(intOf i).toNat)
  case atStart=>exact⟨0,rfl,by omega,ho,x⟩
  case round =>
   clear ho x t4 t4'
   obtain⟨k,rfl,hkm,ho,hx⟩:=hrel
   have HO:=Lh ho
   clear ho
   by_cases hlt:k<m
   ·obtain⟨b2,o2,rfl,hb2,hat⟩:=ht k (by omega)
    obtain⟨a0,a1,a2,a3,a4,a5⟩:=hat.ext hx hb2
    have hkl:k+1<l.length:=by rw [← HN.out];omega
    have hmay:=hall.2 (k+1) (by omega) hkl
    have hok:=ZhQ h5 (k+1)
    have hsz:=hR.at_ (k+1)
    have hE:=ZeV (l:=l) (k:=k+1) (by omega) hkl
    have hL:=Zhv (l:=l) (k:=k+1+1) (m:=l.length) (by omega) (by omega)
    have hz2:(Za1 l l.length).length≤140737488355328:=hz
    rw [hE,List.length_append] at hL
    have hc1:=fun W v hW hoW=>Zsq w W v (Za1 l (k+1)) l (gc l (k+1)) hW hoW hT hmay (by rw [← HN.out];exact hl) hok hsz (by omega)
    rw [← hE] at hc1
    obtain⟨y,hy⟩:∃ y,gc l (k+1)=y:=⟨_,rfl⟩
    rw [hy] at a0 a1 a2 a3 a4 a5 hc1
    obtain⟨kk,t,nn,a,b,c⟩:=y
    simp only at a0 a1 a2 a3 a4 a5
    have C1:=Lh hc1
    clear hc1 hE hL hy hmay hok hsz hat
    go_wp2_with fail
    refine(C1.out _ _ (by exact hx.alloc _) (by exact HO.out.ext ((Ext.refl _).alloc _))).mono ?_
    rintro e w3 ⟨v3,rfl,ho3,x3⟩
    go_wp2
    go_roundw
    case rel=>exact⟨k+1,by go_num,by omega,ho3,x3⟩
    case measure=>simp [intOf];omega
   ·have hkk:k=m:=by omega
    go_wp2
    go_ret2
    refine Ret.mk (.inl ⟨HC.out,_,rfl,?_⟩) hx
    unfold Zbd
    rw [← HN.out,show n=k+1 by omega]
    exact HO.out
 ·have HC:=Lh hC
  have hb:(ZaD l != 0)=true:=by simpa using hC
  clear h2 h4 h6 h5 hC
  go_enter Tryz.func23,Tryz.ntmps23
  go_wp2_with fail
  refine(ZdA _ l _ (by exact hrow) hT hR).mono ?_
  rintro e w1 ⟨rfl,x1⟩
  go_wp2
  go_ret2
  exact Ret.mk (.inr ⟨HC.out,rfl⟩) x1
theorem Zsw (l:List Int) (e:Int):0≤(pU l e).1∧(pU l e).1≤9007199254740991:=by
 unfold pU numP
 by_cases he:e=0
 ·rw [if_pos he]
  by_cases h2:(tU (l.take 16)).2.2=0
  ·rw [if_pos h2]
   exact Zq6 h2
  ·rw [if_neg h2]
   simp
 ·rw [if_neg he]
  simp
def tP (l:List Int) (e:Int):ByteArray × List Int × Int :=
 ((decT (tkP (pU l e).2.1 (pU l e).2.2 (pU l e).1.toNat).1).1,(tkP (pU l e).2.1 (pU l e).2.2 (pU l e).1.toNat).2.1,errP (tkP (pU l e).2.1 (pU l e).2.2 (pU l e).1.toNat).2.2 (decT (tkP (pU l e).2.1 (pU l e).2.2 (pU l e).1.toNat).1).2)
theorem Ztx (l:List Int) (e:Int) (n:Nat):(tkP l e n).1.length≤l.length:=by
 unfold tkP
 split
 ·split
  ·simp
  ·simp only [List.length_take];omega
 ·simp
theorem Zuj (l:List Int) (e:Int):(pU l e).2.1.length≤l.length:=by
 unfold pU numP
 split
 ·split
  ·simp only [List.length_drop];omega
  ·exact Nat.le_refl _
 ·exact Nat.le_refl _
set_option maxRecDepth 100000 in
theorem ZnT (w0 w:World) (g:Nat) (l:List Int) (e:Int) (h:PRP w0 w g l e) (hl:l.length+4≤140737488355328) :
 Calls Tryz.prog 211 #[.pointer (some ⟨g,0,none⟩)] w (ZeH w0 w g (.agg (Cst.vals ⟨0,(tP l e).1,0,0,0,0⟩)) (tP l e).2.1 (tP l e).2.2):=by
 have hlt:=h.lt
 have hbs:=h.base
 have h1:=h.ext ((Ext.refl w).alloc (.cells c0.vals 49))
 have hw:=h.ext0.size
 have c1:=Zby w0 _ g l e h1
 have hp:=Zsw l e
 have hle:=Zuj l e
 unfold tP
 obtain⟨⟨n,r,e1⟩,ht⟩:∃ t,t=pU l e:=⟨_,rfl⟩
 rw [← ht] at c1 hp hle ⊢
 simp only at c1 hp hle ⊢
 obtain⟨hp0,hp1⟩:=hp
 have c2:=fun W hW=>Zg0 w0 W g r e1 n hp0 (by omega) hW
 have hle2:=Ztx r e1 n.toNat
 obtain⟨⟨s,r2,e2⟩,ht2⟩:∃ t,t=tkP r e1 n.toNat:=⟨_,rfl⟩
 rw [← ht2] at c2 hle2 ⊢
 simp only at c2 hle2 ⊢
 have C1:=Lh c1
 have C2:=Lh c2
 obtain⟨d,hd⟩:∃ d,d=decT s:=⟨_,rfl⟩
 rw [← hd]
 have HD:=Lh hd
 clear h1 h ht ht2 c1 c2 hd
 obtain⟨dt,de⟩:=d
 simp only
 go_enter Tryz.func211,Tryz.ntmps211
 go_wp2_with fail
 refine C1.out.mono ?_
 rintro x w2 ⟨rfl,h2,g2⟩
 have H2:=Lh h2
 clear h2
 go_wp2_with fail
 refine(C2.out _ (by exact H2.out)).mono ?_
 rintro x w3 ⟨v3,⟨rfl,h3,g3⟩,hr3⟩
 have H3:=Lh h3
 clear h3
 go_wp2_with fail
 refine(Zjx v3 s _ (by exact hr3.ext H3.out.ext0) (by omega)).mono ?_
 rintro x w4 ⟨u4,rfl,ha,x4⟩
 have H4:=Lh (H3.out.ext x4)
 have G4:=Lh (Zbl (Zae g2 g3) x4)
 clear x4 g2 g3 hr3
 have hu:∃ at4,u4=.tuple #[.string dt,.int .i64 at4,.int .i64 de]:=by
  have hd:=HD.out
  unfold decT at hd
  rcases ha with⟨hs,rfl⟩ | ⟨hs,rfl⟩
  ·rw [if_pos hs] at hd
   injection hd with hd1 hd2
   exact⟨0,by rw [hd1,hd2]⟩
  ·rw [if_neg (by omega)] at hd
   injection hd with hd1 hd2
   exact⟨_,by rw [hd1,hd2];rfl⟩
 obtain⟨at4,rfl⟩:=hu
 clear ha
 go_wp2_with fail
 refine(ZdJ w0 _ g r2 e2 de (by exact H4.out)).mono ?_
 rintro x w5 ⟨rfl,h5,g5⟩
 obtain⟨k1,g6⟩:=Zdt hlt (Zae G4.out g5)
 clear g5
 obtain⟨y0,y1,y2,y3,y4,y5⟩:=At0.of (y:=c0) k1
 have fz1:∀ j,w5.frozen? ⟨w.heap.size,j,none⟩=false:=fun j=>by simp [World.frozen?,k1]
 have HR:=Lh h5
 have GR:=Lh g6
 simp only [c0] at y0 y1 y2 y3 y4 y5
 clear k1 h5
 go_wp2
 exact bodyPost_ret (v:=.agg (Cst.vals ⟨0,dt,0,0,0,0⟩)) (by unfold Cst.vals;simp [results,Tryz.results211,go_sem,y0,y1,y2,y3,y4,y5];try rfl) rfl ⟨rfl,HR.out.six (by omega) (by omega) 0 _ _ _ _ _ _,Zdl GR.out (Nat.le_refl _) 0 _ _ _ _ _ _⟩
theorem Zlu (w0 w:World) (g:Nat) (l:List Int) (e:Int) (h:PRP w0 w g l e) (hl:l.length≤140737488355328) :
 Calls Tryz.prog 177 #[.pointer (some ⟨g,0,none⟩)] w (Ret w (fun v' w'=>Own w.heap.size w' 5 .u8 v' l)):=by
 obtain⟨A,c,hc1,hc2,hrow,a0,a1,f0,f1⟩:=h.cells
 have HR:=Lh (hrow.ext h.ext0)
 clear hrow h
 go_enter Tryz.func177,Tryz.ntmps177
 go_wp2_with fail
 refine(ZcI _ l _ (by exact HR.out) hl).mono ?_
 rintro x w1 ⟨v1,rfl,ho1,x1⟩
 go_wp2
 go_ret
 exact Ret.mk ho1 x1
def ways:Array Value:=#[.func (.func 210) #[] #[],.func (.func 211) #[] #[],.func (.func 212) #[] #[],.func (.func 212) #[] #[],.func (.func 213) #[] #[],.func (.func 214) #[] #[],.func (.func 214) #[] #[]]
theorem ZgS (w:World):Calls Tryz.prog 174 #[] w fun e w'=>e=.returned (.agg ways)∧Ext w w':=by
 go_enter Tryz.func174,Tryz.ntmps174
 go_wp2
 exact bodyPost_ret (v:=.agg ways) (by unfold ways;simp [results,Tryz.results174,go_sem]) rfl ⟨rfl,(Ext.refl w).alloc _⟩
theorem Zm3:∀ (l:List Int) (k:Nat),fb (l.take k)=min (fb l) k
 | [],k=>by simp [fb]
 | x :: l,0=>by simp [fb]
 | x :: l,k+1=>by
  rw [List.take_succ_cons,fb,fb,Zm3 l k]
  split <;> omega
theorem Zom {most:Nat} (h:most≤16) (l:List Int):spn most (l.take 16)=spn most l:=by
 unfold spn
 rw [Zm3,List.length_take]
 have:=ZrO l
 by_cases h1:most≤fb l
 ·rw [if_pos h1,if_pos (by omega)]
 ·rw [if_neg h1,if_neg (by omega)]
  have e:min (fb l) 16=fb l:=by omega
  rw [e]
  by_cases h2:fb l=l.length
  ·rw [if_pos h2,if_pos (by omega)]
  ·rw [if_neg h2,if_neg (by omega)]
theorem Zs9 {most:Nat} (hm:most≤16) (wy:Int) (l:List Int) :
 (tS most wy (l.take 16)).1=(tS most wy l).1∧(tS most wy (l.take 16)).2.2=(tS most wy l).2.2 ∧
 ((tS most wy l).2.2=0→l.drop ((l.take 16).length-(tS most wy (l.take 16)).2.1.length)=(tS most wy l).2.1):=by
 unfold tS
 rw [Zom hm]
 by_cases h:(spn most l).2=0
 ·obtain⟨_,h1,h2⟩:=ZfC h
  have e1:fb (l.take 16)=fb l:=by rw [Zm3];omega
  have e2:(l.take 16).take (fb l+1)=l.take (fb l+1):=by rw [List.take_take];congr 1;omega
  rw [if_pos h,if_pos h,e1,e2]
  by_cases h3:l.take (fb l+1)=dg wy 10 (wo wy (l.take (fb l+1)))
  ·rw [if_pos h3,if_pos h3]
   refine⟨rfl,rfl,fun _=>?_⟩
   simp only [List.length_drop,List.length_take]
   congr 1
   omega
  ·rw [if_neg h3,if_neg h3]
   exact⟨rfl,rfl,fun h=>absurd h (by simp)⟩
 ·rw [if_neg h,if_neg h]
  exact⟨rfl,rfl,fun h2=>absurd h2 h⟩
theorem Zuh (l:List Int) :
 (tU (l.take 16)).1=(tU l).1∧(tU (l.take 16)).2.2=(tU l).2.2∧((tU l).2.2=0→l.drop ((l.take 16).length-(tU (l.take 16)).2.1.length)=(tU l).2.1):=by
 obtain⟨h1,h2,h3⟩:=Zs9 (most:=8) (by omega) 1 l
 unfold tU
 rw [h1]
 by_cases h:9007199254740991<(tS 8 1 l).1
 ·rw [if_pos h,if_pos h]
  exact⟨rfl,rfl,fun h=>absurd h (by simp)⟩
 ·rw [if_neg h,if_neg h]
  exact⟨h1,h2,h3⟩
def Zju {α:Type} (x y:α × List Int × Int):Prop:=x.2.2=y.2.2∧(y.2.2=0→x=y)
theorem Zmx (l:List Int) (e:Int):(pU l e).1=(rdU l e).1∧Zju (pU l e) (rdU l e):=by
 unfold pU numP rdU Zju
 obtain⟨h1,h2,h3⟩:=Zuh l
 by_cases he:e=0
 ·rw [if_pos he,if_pos he,h2]
  by_cases h:(tU l).2.2=0
  ·rw [if_pos h]
   refine⟨h1,h.symm,fun _=>?_⟩
   rw [h1,h3 h,← h]
  ·rw [if_neg h]
   exact⟨(ZiN h).1.symm,rfl,fun h4=>absurd h4 h⟩
 ·rw [if_neg he,if_neg he]
  exact⟨rfl,rfl,fun _=>rfl⟩
theorem Zt4 (l:List Int) (e:Int):(pS l e).1=(rdS l e).1∧Zju (pS l e) (rdS l e):=by
 unfold pS numP rdS Zju
 obtain⟨h1,h2,h3⟩:=Zs9 (most:=10) (by omega) 2 l
 by_cases he:e=0
 ·rw [if_pos he,if_pos he,h2]
  by_cases h:(tS 10 2 l).2.2=0
  ·rw [if_pos h]
   refine⟨h1,h.symm,fun _=>?_⟩
   rw [h1,h3 h,← h]
  ·rw [if_neg h]
   exact⟨(Zk7 h).1.symm,rfl,fun h4=>absurd h4 h⟩
 ·rw [if_neg he,if_neg he]
  exact⟨rfl,rfl,fun _=>rfl⟩
theorem Zpx:stop []=0:=by unfold stop;rw [ZjR];rfl
theorem Zlq:(decT []).2=0:=by
 unfold decT
 rw [if_pos (by rw [Zpx];rfl)]
theorem ZtP (l:List Int) (e:Int):Zju (tP l e) (rdTP l e):=by
 unfold tP rdTP Zju
 obtain⟨h1,h2,h3⟩:=Zmx l e
 by_cases h:(rdU l e).2.2=0
 ·rw [h3 h,if_neg (by simpa using h),h]
  by_cases hb:((rdU l e).2.1.length:Int)<(rdU l e).1
  ·rw [if_pos hb]
   have et:tkP (rdU l e).2.1 0 (rdU l e).1.toNat=([],(rdU l e).2.1,3):=by
    unfold tkP
    rw [if_pos rfl,if_pos (by omega)]
   rw [et]
   simp only [Zlq]
   exact⟨rfl,fun h=>absurd h (by simp)⟩
  ·rw [if_neg hb]
   have et:tkP (rdU l e).2.1 0 (rdU l e).1.toNat=((rdU l e).2.1.take (rdU l e).1.toNat,(rdU l e).2.1.drop (rdU l e).1.toNat,0):=by
    unfold tkP
    rw [if_pos rfl,if_neg (by omega)]
   rw [et]
   exact⟨rfl,fun _=>rfl⟩
 ·rw [if_pos h]
  have et:tkP (pU l e).2.1 (pU l e).2.2 (pU l e).1.toNat=([],(pU l e).2.1,(rdU l e).2.2):=by
   unfold tkP
   rw [h2,if_neg h]
  rw [et]
  simp only [Zlq]
  exact⟨if_neg h,fun h4=>absurd h4 h⟩
theorem Zkl (l:List Int) {e:Int} (h:¬ e=0):pU l e=(0,l,e):=by
 unfold pU numP
 rw [if_neg h]
theorem Zed (l:List Int) {e:Int} (h:¬ e=0):rdU l e=(0,l,e):=by
 unfold rdU
 rw [if_neg h]
def wayP (k:Int) (l:List Int) (e:Int):Cst × List Int × Int :=
 if k=1 then (⟨0,(tP l e).1,0,0,0,0⟩,(tP l e).2) else if k=2∨k=3 then (⟨0,.empty,(pS l e).1,0,0,0⟩,(pS l e).2)
 else if k=4 then (⟨0,.empty,0,(pU l e).1,0,0⟩,(pU l e).2) else if k=5∨k=6 then memP l e else (c0,l,errP e 4)
def oneP (l:List Int):Cst × List Int × Int :=
 ({ (wayP (kndP l).1 (kndP l).2.1 (kndP l).2.2).1 with k:=(kndP l).1 },(wayP (kndP l).1 (kndP l).2.1 (kndP l).2.2).2)
theorem Zr8 {l:List Int} (hf:Fit .u8 l):Zju (oneP l) (Zb5 l):=by
 unfold oneP Zb5
 by_cases hl:l=[]
 ·subst hl
  rw [if_pos rfl,show kndP []=(0,[],3) from rfl]
  exact⟨rfl,fun h=>absurd h (by simp)⟩
 ·rw [if_neg hl]
  have hg:=hf.gi 0
  have hk:kndP l=if 7≤gi l 0 then (0,l.drop 1,0) else (gi l 0,l.drop 1,0):=by unfold kndP;rw [if_neg hl]
  obtain⟨y,hy⟩:∃ y,gi l 0=y:=⟨_,rfl⟩
  obtain⟨m,hm⟩:∃ m,l.drop 1=m:=⟨_,rfl⟩
  rw [hy] at hg hk ⊢
  rw [hm] at hk ⊢
  by_cases h7:7≤y
  ·rw [if_pos h7] at hk
   rw [hk,if_neg (by omega),if_neg (by omega),if_neg (by omega),if_neg (by omega)]
   exact⟨rfl,fun h=>absurd h (by simp)⟩
  ·rw [if_neg h7] at hk
   rw [hk]
   unfold wayP
   simp only
   by_cases y1:y=1
   ·rw [if_pos y1,if_pos y1,y1]
    obtain⟨h1,h2⟩:=ZtP m 0
    exact⟨h1,fun h=>by simp only at h ⊢;rw [h2 h]⟩
   ·rw [if_neg y1,if_neg y1]
    by_cases y2:y=2∨y=3
    ·rw [if_pos y2,if_pos y2]
     obtain⟨h0,h1,h2⟩:=Zt4 m 0
     exact⟨h1,fun h=>by simp only at h ⊢;rw [h2 h]⟩
    ·rw [if_neg y2,if_neg y2]
     by_cases y4:y=4
     ·rw [if_pos y4,if_pos y4,y4]
      obtain⟨h0,h1,h2⟩:=Zmx m 0
      exact⟨h1,fun h=>by simp only at h ⊢;rw [h2 h]⟩
     ·rw [if_neg y4,if_neg y4]
      by_cases y5:y=5∨y=6
      ·rw [if_pos y5,if_pos y5]
       unfold memP
       obtain⟨h0,h1,h2⟩:=Zmx m 0
       by_cases g1:(rdU m 0).2.2=0
       ·rw [h2 g1]
        obtain⟨i0,i1,i2⟩:=Zmx (rdU m 0).2.1 (rdU m 0).2.2
        by_cases g2:(rdU (rdU m 0).2.1 (rdU m 0).2.2).2.2=0
        ·rw [i2 g2]
         obtain⟨j0,j1,j2⟩:=Zmx (rdU (rdU m 0).2.1 (rdU m 0).2.2).2.1 (rdU (rdU m 0).2.1 (rdU m 0).2.2).2.2
         exact⟨j1,fun h=>by simp only at h ⊢;rw [j2 h]⟩
        ·have e3:∀ q,(pU q (pU (rdU m 0).2.1 (rdU m 0).2.2).2.2).2.2=(rdU (rdU m 0).2.1 (rdU m 0).2.2).2.2:=fun q=>by
          rw [i1,Zkl _ g2]
         have e4:∀ q,(rdU q (rdU (rdU m 0).2.1 (rdU m 0).2.2).2.2).2.2=(rdU (rdU m 0).2.1 (rdU m 0).2.2).2.2:=fun q=>by
          rw [Zed _ g2]
         refine⟨?_,fun h=>?_⟩
         ·simp only
          rw [e3,e4]
         ·simp only at h
          rw [e4] at h
          exact absurd h g2
       ·refine⟨?_,fun h=>?_⟩
        ·simp only
         rw [h1,Zkl _ g1,Zed _ g1]
         simp only
         rw [Zkl _ g1,Zed _ g1]
        ·simp only at h
         rw [Zed _ g1] at h
         simp only at h
         rw [Zed _ g1] at h
         exact absurd h g1
      ·rw [if_neg y5,if_neg y5]
       exact⟨rfl,fun h=>absurd h (by simp)⟩
theorem ZsH (b:List Int):(cntP b).2.2=cntZ b∧(cntZ b=0→cntP b=((tU b).1,(tU b).2.1,0)∧(tU b).1≤4096)∧(¬ cntZ b=0→(cntP b).1=0):=by
 obtain⟨h0,h1,h2⟩:=Zmx b 0
 have e1:rdU b 0=tU b:=by unfold rdU;rw [if_pos rfl]
 rw [e1] at h0 h1 h2
 unfold cntP cntZ
 by_cases h:(tU b).2.2=0
 ·rw [h2 h]
  by_cases h4:4096<(tU b).1
  ·rw [if_pos ⟨h,h4⟩,if_pos ⟨h,h4⟩]
   exact⟨rfl,fun h=>absurd h (by simp),fun _=>rfl⟩
  ·rw [if_neg (fun h=>h4 h.2),if_neg (fun h=>h4 h.2)]
   refine⟨rfl,fun _=>⟨?_,by omega⟩,fun h3=>absurd h h3⟩
   rw [← h]
 ·rw [if_neg (fun h3=>h (h1.symm.trans h3.1)),if_neg (fun h3=>h h3.1)]
  exact⟨h1,fun h3=>absurd h3 h,fun _=>by rw [h0];exact(ZiN h).1⟩
theorem ZtT:(Tryz.prog.info? 49).map (fun i=>(i.zero,i.size,i.bytes))=some (some (.agg c0.vals),6,56):=by kernel_rfl
def Zlo (B:Nat) (b:List Int) (v':Value) (w':World):Prop :=
 (errZ b=0∧∃ x y,v'=.tuple #[x,y,.int .i64 0]∧OwnC B w' 49 x (Zcn b).1∧Own B w' 5 .u8 y (Zcn b).2.1) ∨
 (¬ errZ b=0∧v'=.tuple #[.slice none 0 0,.slice none 0 0,.int .i64 (errZ b)])
theorem Zel {b:List Int} {e:Int} (h:errZ b=e) (h0:¬ e=0) (B:Nat) (w':World):Zlo B b (.tuple #[.slice none 0 0,.slice none 0 0,.int .i64 e]) w':=.inr ⟨by rw [h];exact h0,by rw [h]⟩
def LC (w:World) (g:Nat) (m:List Cst):Prop:=∃ cur,w.heap[g]?=some (.cells cur 49 (0,0))∧cur.toList=m.flatMap fun x=>x.vals.toList
theorem LC.kept {w w':World} {g:Nat} {m:List Cst} {r:Option Nat} (h:LC w g m) (hw:w.grownBy w' r) (hr:r≠some g):LC w' g m:=by
 obtain⟨cur,hg,h2⟩:=h
 exact⟨cur,(hw.block g (Zab hg) (fun e=>hr e.symm)).trans hg,h2⟩
theorem LC.cells {w:World} {g:Nat} {m:List Cst} (h:LC w g m) {j:Nat} (hj:j<m.length):At6 w g (j*6) (gc m j):=by
 obtain⟨cur,hg,ht⟩:=h
 have hx:∀ i,i<6→w.cell? ⟨g,j*6+i,none⟩=(gc m j).vals[i]?:=fun i hi=>by
  have e1:=Zgu m j i hj hi
  rw [← ht] at e1
  rw [cell_of_row w g _ cur _ (0,0) hg,← e1]
  simp
 exact⟨hx 0 (by omega),hx 1 (by omega),hx 2 (by omega),hx 3 (by omega),hx 4 (by omega),hx 5 (by omega)⟩
theorem LC.frozen {w:World} {g:Nat} {m:List Cst} (h:LC w g m) (j:Nat):w.frozen? ⟨g,j,none⟩=false:=by
 obtain⟨cur,hg,_⟩:=h
 simp [World.frozen?,hg]
theorem LC.size {w:World} {g:Nat} {m:List Cst} (h:LC w g m):∃ cur,w.heap[g]?=some (.cells cur 49 (0,0))∧cur.toList=(m.flatMap fun x=>x.vals.toList)∧cur.size=m.length*6:=by
 obtain⟨cur,hg,ht⟩:=h
 exact⟨cur,hg,ht,by rw [← Array.length_toList,ht,Zdx]⟩
theorem LC.own {w:World} {B g:Nat} {m:List Cst} (h:LC w g m) (hB:B≤g) (hm:m.length≤maxLen) (hok:∀ x∈m,x.ok):OwnC B w 49 (.slice (some ⟨g,0,none⟩) m.length m.length) m:=by
 obtain⟨cur,hg,ht,hs⟩:=h.size
 refine⟨⟨Zdx m,.inr ⟨g,m.length,cur,rfl,hB,hg,Nat.le_refl _,hm,hs,?_⟩⟩,hok⟩
 rw [ht,List.take_of_length_le (by rw [Zdx];omega)]
theorem Zpg:∀ (m:List Cst) (k:Nat) (x:Cst),k<m.length →
 ((((((m.flatMap fun x=>x.vals.toList).set (k*6) (.int .i64 x.k)).set (k*6+1) (.string x.t)).set (k*6+2) (.int .i64 x.n)).set (k*6+3) (.int .i64 x.a)).set (k*6+4) (.int .i64 x.b)).set (k*6+5) (.int .i64 x.c)=(m.set k x).flatMap fun x=>x.vals.toList:=by
 intro m
 induction m with
 | nil=>intro k x h;simp at h
 | cons y m ih =>
  intro k x h
  match k with
  | 0=>simp [Cst.vals]
  | k+1 =>
   have e:∀ r,(k+1)*6+r=(k*6+r)+1+1+1+1+1+1:=fun r=>by omega
   have e0:(k+1)*6=k*6+1+1+1+1+1+1:=by omega
   rw [List.set_cons_succ,List.flatMap_cons,List.flatMap_cons,← ih k x (by simpa using h),e 1,e 2,e 3,e 4,e 5,e0]
   simp [Cst.vals]
theorem Znf:∀ (m:List Cst) (k:Nat) (y:Int),k<m.length→(m.flatMap fun x=>x.vals.toList).set (k*6) (.int .i64 y)=(m.set k { gc m k with k:=y }).flatMap fun x=>x.vals.toList:=by
 intro m
 induction m with
 | nil=>intro k y h;simp at h
 | cons x m ih =>
  intro k y h
  match k with
  | 0=>simp [Cst.vals,gc]
  | k+1 =>
   have e0:(k+1)*6=k*6+1+1+1+1+1+1:=by omega
   have eg:gc (x :: m) (k+1)=gc m k:=by simp [gc]
   rw [List.set_cons_succ,List.flatMap_cons,List.flatMap_cons,eg,← ih k y (by simpa using h),e0]
   simp [Cst.vals]
theorem ZcZ {w:World} {g:Nat} {cur:Array Value} {T:TypeId} (h:w.heap[g]?=some (.cells cur T (0,0))) (j:Nat) (v:Value):(w.setCell ⟨g,j,none⟩ v).heap[g]?=some (.cells (cur.setIfInBounds j v) T (0,0)):=heap_setCell_same w g j cur T v h
theorem LC.put {w:World} {g:Nat} {m:List Cst} (h:LC w g m) {k:Nat} (hk:k<m.length) (x:Cst) (y:Int) :
 LC (((((((w.setCell ⟨g,k*6,none⟩ (.int .i64 x.k)).setCell ⟨g,k*6+1,none⟩ (.string x.t)).setCell ⟨g,k*6+2,none⟩ (.int .i64 x.n)).setCell ⟨g,k*6+3,none⟩ (.int .i64 x.a)).setCell ⟨g,k*6+4,none⟩ (.int .i64 x.b)).setCell ⟨g,k*6+5,none⟩ (.int .i64 x.c)).setCell ⟨g,k*6,none⟩ (.int .i64 y)) g (m.set k { x with k:=y }):=by
 obtain⟨cur,hg,ht⟩:=h
 refine⟨_,ZcZ (ZcZ (ZcZ (ZcZ (ZcZ (ZcZ (ZcZ hg _ _) _ _) _ _) _ _) _ _) _ _) _ _,?_⟩
 simp only [Array.toList_setIfInBounds]
 rw [ht,Zpg m k x hk,Znf _ k y (by simpa using hk)]
 have eg:gc (m.set k x) k=x:=by simp [gc,hk]
 rw [eg,List.set_set]
theorem Zpb {m:List Cst} {k:Nat} (x:Cst) (hk:k<m.length):(m.set k x).take (k+1)=m.take k++[x]:=by
 rw [List.take_succ_eq_append_getElem (by simpa using hk),List.take_set,List.set_eq_of_length_le (by simp;omega)]
 simp
theorem ZnB (n:Nat):(madeCells (Value.agg c0.vals).cells (n*6)).toList=(List.replicate n c0).flatMap fun x=>x.vals.toList:=by
 apply List.ext_getElem?
 intro i
 by_cases hi:i<n*6
 ·obtain⟨q,r,rfl,hr⟩:∃ q r,i=q*6+r∧r<6:=⟨i/6,i%6,by omega,by omega⟩
  have hq:q<n:=by omega
  rw [Zgu (List.replicate n c0) q r (by simpa using hq) hr]
  have eg:gc (List.replicate n c0) q=c0:=by simp [gc,hq]
  rw [eg]
  have hm:(q*6+r)%6=r:=by omega
  have hc:(Value.agg c0.vals).cells=c0.vals:=rfl
  rw [hc]
  have hs:c0.vals.size=6:=rfl
  simp [madeCells,hi]
  rw [hs,hm]
  match r,hr with
  | 0,_=>rfl
  | 1,_=>rfl
  | 2,_=>rfl
  | 3,_=>rfl
  | 4,_=>rfl
  | 5,_=>rfl
 ·rw [List.getElem?_eq_none (by simp [madeCells];omega),List.getElem?_eq_none (by rw [Zdx];simpa using hi)]
theorem ZrT (n:Nat) (hn:n≤4096):∃ M:Array Value,M.toList=((List.replicate n c0).flatMap fun x=>x.vals.toList) ∧
 ∀ W:World,(Instr.makeSlice 22 (.int .i64 n) (.int .i64 n)).run Tryz.prog W=.ok (.slice (some ⟨W.heap.size,0,none⟩) n n) (W.alloc (.cells M 49)):=by
 obtain⟨i,hi1,hi2,hi3,hi4⟩:=info_parts ZtT
 refine⟨_,ZnB n,fun W=>?_⟩
 have h:=run_make (P:=Tryz.prog) W 22 49 i (.agg c0.vals) Tryz.underlying22 hi1 hi2 .i64 .i64 (n:Int) (n:Int) (by omega) (by omega) (by rw [hi4];omega) (by omega)
 rw [hi3] at h
 simpa using h
end Go.Proofs.YtclamhhgldkhnaaGreatDoor
