/- Several texts of this proof, one behind the other. -/
import Derived.Test.YtclamhhgldkhnaaGreatDoorZwR
import Derived.Lib.Builder
import Derived.Lib.AppendStr
import Derived.Lib.UnsafeStr
namespace Go.Proofs.YtclamhhgldkhnaaGreatDoor
open Go.RowKit
set_option linter.unusedVariables false
set_option maxHeartbeats 16000000
theorem ZqG:(Tryz.prog.info? 5).map (fun i=>(i.zero,i.size,i.bytes))=some (some (.int .u8 0),1,1):=by kernel_rfl
def BldD (B b:Nat) (l:List UInt8) (w:World):Prop:=Lib.IsBuilder 96 5 B b (Lib.byteCells l) w
theorem Zlk {B b:Nat} {l:List UInt8} {w w':World} (h:BldD B b l w) (he:Ext w w'):BldD B b l w':=by
 have key:∀ p,Lib.BuilderAt 96 5 B b p (Lib.byteCells l) w→Lib.BuilderAt 96 5 B b p (Lib.byteCells l) w':=by
  rintro p ⟨hB,v,hb,hown,hne⟩
  refine⟨hB,v,(he.block b (Zab hb)).trans hb,⟨hown.1,?_⟩,hne⟩
  rcases hown.2 with h2 | ⟨g,cap,cur,hv,hbg,hg,hr⟩
  ·exact .inl h2
  ·exact .inr ⟨g,cap,cur,hv,hbg,(he.block g (Zab hg)).trans hg,hr⟩
 exact h.elim (fun x=>.inl (key _ x)) (fun x=>.inr (key _ x))
theorem ZkX:∃ j,Tryz.prog.info? 96=some j∧j.size=2:=by
 have h:(Tryz.prog.info? 96).map (·.size)=some 2:=by kernel_rfl
 obtain⟨j,hj,hs⟩:=Option.map_eq_some_iff.1 h
 exact⟨j,hj,hs⟩
theorem ZoY:liesAt Tryz.prog Tryz.prog.depth 96 (2/Tryz.prog.cellsOf 96) 0 96 1=true:=by kernel_rfl
set_option maxRecDepth 100000 in
theorem Zfh (b:Nat) (w:World) (h0:w.cell? ⟨b,0,none⟩=some (.pointer none)) (hsh:w.shape? b=some (96,2)) (hf:w.frozen? ⟨b,0,none⟩=false) :
 Calls Tryz.prog 105 #[.pointer (some ⟨b,0,none⟩)] w fun e w'=>e=.returned (.tuple #[])∧w'=w.setCell ⟨b,0,none⟩ (.pointer (some ⟨b,0,none⟩)):=by
 obtain⟨j,hj,hjs⟩:=ZkX
 go_enter Tryz.func105,Tryz.ntmps105
 go_wp2
 rw [Lib.run_to_unsafe w ⟨b,0,none⟩ Tryz.underlying94 Tryz.underlying190 hj (by rw [hjs];decide) hsh (Nat.zero_lt_succ 1)]
 simp only [Result.andThen]
 rw [Oper.upon_value]
 go_wp2
 rw [run_callFunc_extern Tryz.func153 (by kernel_rfl) (by kernel_rfl) (by kernel_rfl) (e:=Extern.AbiNoEscape.same) (by kernel_rfl)]
 rw [Lib.run_noEscape]
 simp only [Result.andThen]
 rw [Oper.upon_value]
 go_wp2
 rw [Lib.run_from_unsafe w ⟨b,0,none⟩ Tryz.underlying190 Tryz.underlying94 hj hsh ZoY]
 simp only [Result.andThen]
 rw [Oper.upon_value]
 go_wp2
 go_end0
 exact⟨rfl,rfl⟩
set_option maxRecDepth 100000 in
theorem ZfO (b:Nat) (w:World) (h0:w.cell? ⟨b,0,none⟩=some (.pointer (some ⟨b,0,none⟩))) :
 Calls Tryz.prog 105 #[.pointer (some ⟨b,0,none⟩)] w fun e w'=>e=.returned (.tuple #[])∧w'=w:=by
 obtain⟨j,hj,hjs⟩:=ZkX
 go_enter Tryz.func105,Tryz.ntmps105
 go_wp2
 rw [Lib.run_neq_ptr_same w _ Tryz.underlying94 hj]
 go_wp2
 go_end0
 exact⟨rfl,rfl⟩
theorem ZgD (B b:Nat) (l:List UInt8) (w:World) (h:BldD B b l w) :
 Calls Tryz.prog 105 #[.pointer (some ⟨b,0,none⟩)] w fun e w'=>e=.returned (.tuple #[])∧(Lib.BuilderAt 96 5 B b (.pointer (some ⟨b,0,none⟩)) (Lib.byteCells l) w'∧Below B w w'):=by
 rcases h with h | h
 ·refine(Zfh b w h.cell0 h.shape h.frozen0).mono ?_
  rintro e w' ⟨rfl,rfl⟩
  exact⟨rfl,h.used _,(Below.refl B w).setCell (p:=⟨b,0,none⟩) h.1 _⟩
 ·refine(ZfO b w h.cell0).mono ?_
  rintro e w' ⟨rfl,rfl⟩
  exact⟨rfl,h,Below.refl B _⟩
theorem Zkk (m:List UInt8):Lib.strCells (bs m)=Lib.byteCells m:=rfl
set_option maxRecDepth 100000 in
theorem Zbv (B b:Nat) (l m:List UInt8) (w:World) (h:BldD B b l w) (hl:l.length+m.length≤140737488355328) (hB:B≤w.heap.size) :
 Calls Tryz.prog 51 #[.pointer (some ⟨b,0,none⟩),.string (bs m)] w fun e w'=>(∃ v,e=.returned v)∧BldD B b (l++m) w'∧Below B w w':=by
 have hlc:(Lib.byteCells l).length=l.length:=Lib.byteCells_length l
 have hsz:(bs m).size=m.length:=rfl
 obtain⟨i0,hi,hz0,hz1,hz2⟩:=info_parts ZqG
 obtain⟨C,hC⟩:∃ C,C=Lib.byteCells l:=⟨_,rfl⟩
 have c:=ZgD B b l w h
 rw [← hC] at c hlc
 have HC:=Lh hC
 clear hC h
 have HL:=Lh hlc
 clear hlc
 have C0:=Lh c
 clear c
 go_enter Tryz.func51,Tryz.ntmps51
 go_wp2_with fail
 refine C0.out.mono ?_
 rintro e w1 ⟨rfl,⟨hBb,v,hbk,hown,hne⟩,hb1⟩
 obtain⟨ao,cap,rfl⟩:∃ ao cap,v=.slice ao C.length cap:=by
  rcases hown.2 with⟨hv,h0⟩ | ⟨g,cap,cur,hv,_⟩
  ·exact⟨none,0,by rw [hv,h0]⟩
  ·exact⟨_,_,hv⟩
 have c0:w1.cell? ⟨b,0,none⟩=some (.pointer (some ⟨b,0,none⟩)):=by rw [Lib.cell_of_heap hbk];rfl
 have c1:w1.cell? ⟨b,1,none⟩=some (.slice ao C.length cap):=by rw [Lib.cell_of_heap hbk];rfl
 have hB1:B≤w1.heap.size:=Nat.le_trans hB hb1.size
 go_wp2_with (at_builtin;refine Lib.wpList_append_own_string _ rfl _ _ 29 9 rfl B 5 i0 Tryz.underlying29 Tryz.underlying9 hi hz0 hz1 hz2 _ _ _ rfl hown (bs m) rfl ?c3 ?c4 ?c5 ?_)
 case c3=>unfold maxLen;have:=HL.out;omega
 case c4=>have:=HL.out;omega
 case c5=>exact hB1
 intro v' w2 hown' hgrow _
 have hlt:b<w1.heap.size:=Zab hbk
 have hb2:w2.heap[b]?=some (.cells #[.pointer (some ⟨b,0,none⟩),.slice ao C.length cap] 96 (0,0)):=by
  rw [hgrow.block b hlt (fun e=>hne e.symm)]
  exact hbk
 have d0:w2.cell? ⟨b,0,none⟩=some (.pointer (some ⟨b,0,none⟩)):=by rw [Lib.cell_of_heap hb2];rfl
 have d1:w2.cell? ⟨b,1,none⟩=some (.slice ao C.length cap):=by rw [Lib.cell_of_heap hb2];rfl
 have f1:w2.frozen? ⟨b,1,none⟩=false:=Lib.frozen_of_heap hb2 1
 obtain⟨ao',n',cap',rfl⟩:∃ ao n' cap,v'=.slice ao n' cap:=by
  rcases hown'.2 with⟨hv,_⟩ | ⟨g,cap,cur,hv,_⟩
  ·exact⟨_,_,_,hv⟩
  ·exact⟨_,_,_,hv⟩
 go_wp2
 go_ret2
 refine⟨⟨_,rfl⟩,?_,?_⟩
 ·refine .inr ?_
  have e:Lib.byteCells (l++m)=C++Lib.strCells (bs m):=by rw [Lib.byteCells_append,← HC.out,Zkk]
  rw [e]
  exact Lib.BuilderAt.put hBb hb2 (by rw [List.length_append,Lib.strCells_length];exact hown') (by decide)
 ·exact(hb1.grown hgrow (by have:=hb1.size;omega) (fun k hk=>(World.ownsRow.lt hown k hk).1)).setCell (p:=⟨b,1,none⟩) hBb _
theorem Ext.below {a b c:World} {B:Nat} (h:Ext a b) (k:Below B b c) (hB:a.heap.size≤B):Ext a c:=Below.trans h (Below.mono k hB)
theorem Zle {t:TyD} (h:okT t=true):t.s.length≤64:=by
 obtain⟨k,s⟩:=t
 unfold okT at h
 simp only at h ⊢
 split at h
 ·rw [of_decide_eq_true h]
  exact Nat.zero_le _
 ·split at h
  ·exact(Zfv h).2
  ·cases h
theorem ok64 {p:Pr} (h:Zap p=0):∀ t∈p.args,okT t=true:=by
 unfold Zap at h
 split at h
 ·cases h
 ·split at h
  ·rename_i _ ho
   unfold okP at ho
   simp only [Bool.and_eq_true,List.all_eq_true] at ho
   exact ho.2
  ·cases h
theorem Znl {t:TyD} (h:okT t=true):(Zal t).length≤67:=by
 have h1:=Zdo t
 have h2:=Zle h
 omega
theorem Zt3 {p:Pr} (h:Zap p=0):(Zal p.ret).length≤67:=by
 unfold Zap at h
 split at h
 ·cases h
 ·split at h
  ·rename_i _ ho
   unfold okP at ho
   simp only [Bool.and_eq_true,Bool.or_eq_true,decide_eq_true_eq] at ho
   rcases ho.1 with h1 | h1
   ·rw [h1]
    decide
   ·exact Znl h1
  ·cases h
theorem ZgV (l:List TyD) (h:∀ t∈l,okT t=true):(l.flatMap Zal).length≤l.length*67:=by
 induction l with
 | nil=>simp
 | cons t r ih =>
  have h2:=Znl (h t (List.mem_cons_self ..))
  have h3:=ih (fun u hu=>h u (List.mem_cons_of_mem _ hu))
  simp only [List.flatMap_cons,List.length_append,List.length_cons]
  omega
theorem ZgO (v:Value) (p:Pr) (w:World) (h:RowT w v p.args) (hret:p.ret.s.length≤140737488351232) :
 Calls Tryz.prog 114 #[.agg (p.vals v)] w fun e w'=>e=.returned (.tuple #[.string (bs (Zcj p).1),.int .i64 (Zcj p).2])∧Ext w w':=by
 have hcc:∀ W,Ext w W→Calls Tryz.prog 132 #[.agg (p.vals v)] W fun e w'=>e=.returned (.int .i64 (Zap p))∧Ext W w':=fun W hx=>ZdP v p W (h.ext hx) hret
 unfold Pr.vals at hcc ⊢
 obtain⟨A,c,rfl,hc,hm,ha,hf,hg⟩:=h
 unfold maxLen at hm
 have HC:=Lh hcc
 clear hcc
 by_cases h0:Zap p=0
 ·rw [Zg1 h0]
  have h16:¬ 16<p.args.length:=by
   intro h
   rw [ZcY h] at h0
   cases h0
  obtain⟨n,hn⟩:∃ n,n=p.args.length:=⟨_,rfl⟩
  rw [← hn] at hc hg h16 HC ⊢
  have Hn:=Lh hn
  have H0:=Lh h0
  have hf:=Lh hf
  clear hn ha h0
  go_enter Tryz.func114,Tryz.ntmps114
  go_wp2_with fail
  refine(HC.out _ ((Ext.refl w).alloc _)).mono ?_
  rw [H0.out]
  rintro e w2 ⟨rfl,x1⟩
  have z3:w2.cell? ⟨w.heap.size,2,none⟩=some (.slice A n c):=by
   rw [x1.cell (p:=⟨w.heap.size,2,none⟩) (by simp),cell_of_row _ _ _ _ _ _ (heap_alloc_new _ _)]
   rfl
  have z5:w2.cell? ⟨w.heap.size,0,none⟩=some (.int .i64 p.ret.k):=by
   rw [x1.cell (p:=⟨w.heap.size,0,none⟩) (by simp),cell_of_row _ _ _ _ _ _ (heap_alloc_new _ _)]
   rfl
  have z6:w2.cell? ⟨w.heap.size,1,none⟩=some (.string (bs p.ret.s)):=by
   rw [x1.cell (p:=⟨w.heap.size,1,none⟩) (by simp),cell_of_row _ _ _ _ _ _ (heap_alloc_new _ _)]
   rfl
  have hlt2:w.heap.size<w2.heap.size:=by have:=x1.size;simp at this;omega
  have X2:Ext w w2:=((Ext.refl w).alloc _).trans x1
  have hbld:BldD w2.heap.size w2.heap.size [] (w2.alloc (.cells #[.pointer none,.slice none 0 0] 96)):=Lib.fresh_isBuilder 96 5 w2
  obtain⟨w3,hw3⟩:∃ w3,w3=w2.alloc (.cells #[.pointer none,.slice none 0 0] 96):=⟨_,rfl⟩
  have x3:Ext w2 w3:=by rw [hw3];exact(Ext.refl w2).alloc _
  rw [← hw3] at hbld
  clear x1
  have X2:=Lh X2
  have X3:=Lh x3
  have HB:=Lh hbld
  have hs3:w2.heap.size≤w3.heap.size:=x3.size
  clear x3 hbld
  go_wp2_with fail
  rw [← hw3]
  clear hw3
  refine(Zbv w2.heap.size w2.heap.size [] [40] _ HB.out (by simp) hs3).mono ?_
  rintro e w4 ⟨⟨v4,rfl⟩,hb4,bl4⟩
  have x4:Ext w w4:=(X2.out.trans X3.out).below bl4 (by omega)
  have hs4:w2.heap.size≤w4.heap.size:=Nat.le_trans hs3 bl4.size
  have y3:=(Below.cell (p:=⟨w.heap.size,2,none⟩) bl4 hlt2).trans ((X3.out.cell (p:=⟨w.heap.size,2,none⟩) hlt2).trans z3)
  have y5:=(Below.cell (p:=⟨w.heap.size,0,none⟩) bl4 hlt2).trans ((X3.out.cell (p:=⟨w.heap.size,0,none⟩) hlt2).trans z5)
  have y6:=(Below.cell (p:=⟨w.heap.size,1,none⟩) bl4 hlt2).trans ((X3.out.cell (p:=⟨w.heap.size,1,none⟩) hlt2).trans z6)
  have hlt4:w.heap.size<w4.heap.size:=by omega
  have HB4:=Lh hb4
  have X4:=Lh x4
  clear z3 z5 z6 hb4 x4 bl4
  go_wp2
  go_loopw [17] (fun i wr=>∃ k:Nat,k≤n∧i=.int .i64 k∧Hid (BldD w2.heap.size w2.heap.size (40 :: (p.args.take k).flatMap Zal) wr)∧Hid (Ext w wr)∧wr.cell? ⟨w.heap.size,0,none⟩=some (.int .i64 p.ret.k)∧wr.cell? ⟨w.heap.size,1,none⟩=some (.string (bs p.ret.s))∧w2.heap.size≤wr.heap.size) (fun i _=>n-(intOf i).toNat)
  case atStart=>exact⟨0,by omega,rfl,HB4,X4,y5,y6,hs4⟩
  case round =>
   obtain⟨k,hk,rfl,Hb,Hx,q5,q6,hsr⟩:=hrel
   by_cases hlt:k<n
   ·obtain⟨b1,o1,rfl,hb1,hx1⟩:=hg (by omega)
    obtain⟨q0,q1⟩:=(hx1 k hlt).ext Hx.out hb1
    clear hx1
    have hok:=hf.out _ (ZfE (l:=p.args) (j:=k) (by have:=Hn.out;omega))
    have htx:=fun W=>Zd9 (gtD p.args k) W hok.2
    unfold TyD.vals at htx
    have HT:=Lh htx
    have hl1:=Zdo (gtD p.args k)
    have hl2:=ZgV (p.args.take k) (fun t ht=>ok64 H0.out t (List.mem_of_mem_take ht))
    have hl3:(p.args.take k).length≤k:=by simp;omega
    have hl4:=Znl (ok64 H0.out _ (ZfE (l:=p.args) (j:=k) (by have:=Hn.out;omega)))
    have e1:(40:UInt8) :: (p.args.take (k+1)).flatMap Zal=(40 :: (p.args.take k).flatMap Zal)++Zal (gtD p.args k):=by
     rw [Zcw (by have:=Hn.out;omega),List.flatMap_append]
     simp
    have E1:=Lh e1
    clear e1 htx hok
    obtain⟨a,hA⟩:∃ a,a=(40:UInt8) :: (p.args.take k).flatMap Zal:=⟨_,rfl⟩
    obtain⟨d,hD⟩:∃ d,d=Zal (gtD p.args k):=⟨_,rfl⟩
    have hlen:a.length+d.length≤140737488355328:=by
     rw [hA,hD]
     have:(p.args.take k).length*67≤16*67:=Nat.mul_le_mul_right _ (by omega)
     simp only [List.length_cons]
     omega
    rw [← hA,← hD] at E1
    rw [← hA] at Hb
    rw [← hD] at HT
    have HL:=Lh hlen
    clear hA hD hl1 hl2 hl3 hl4 hlen
    go_wp2_with fail
    refine(HT.out _).mono ?_
    rintro e w5 ⟨rfl,x5⟩
    have y5':Ext wr w5:=((Ext.refl wr).alloc _).trans x5
    have hb5:=Zlk Hb.out y5'
    have X5:Ext w w5:=Hx.out.trans y5'
    have hs5:wr.heap.size≤w5.heap.size:=y5'.size
    have r5:=(y5'.cell (p:=⟨w.heap.size,0,none⟩) (by simp only;omega)).trans q5
    have r6:=(y5'.cell (p:=⟨w.heap.size,1,none⟩) (by simp only;omega)).trans q6
    have HB5:=Lh hb5
    have HX5:=Lh X5
    clear hb5 X5 x5 y5'
    go_wp2_with fail
    refine(Zbv w2.heap.size w2.heap.size a d _ HB5.out HL.out (by omega)).mono ?_
    rintro e w6 ⟨⟨v6,rfl⟩,hb6,bl6⟩
    have s6:=bl6.size
    have p5:=(Below.cell (p:=⟨w.heap.size,0,none⟩) bl6 hlt2).trans r5
    have p6:=(Below.cell (p:=⟨w.heap.size,1,none⟩) bl6 hlt2).trans r6
    have HB6:=Lh hb6
    have HX6:=Lh (HX5.out.below bl6 (by omega))
    clear hb6 bl6
    go_wp2
    exact⟨⟨k+1,by omega,by go_num,Lh (by rw [E1.out];exact HB6.out),HX6,p5,p6,by omega⟩,by simp [intOf];omega⟩
   ·obtain rfl:k=n:=by omega
    have htx:=fun W=>Zd9 p.ret W hret
    unfold TyD.vals at htx
    have hl1:=Zt3 H0.out
    have hl2:=ZgV (p.args.take k) (fun t ht=>ok64 H0.out t (List.mem_of_mem_take ht))
    have hl3:(p.args.take k).length≤k:=by simp;omega
    obtain⟨a,hA⟩:∃ a,a=(40:UInt8) :: (p.args.take k).flatMap Zal:=⟨_,rfl⟩
    obtain⟨d,hD⟩:∃ d,d=Zal p.ret:=⟨_,rfl⟩
    have hlen:a.length+1+d.length≤140737488355328:=by
     rw [hA,hD]
     have:(p.args.take k).length*67≤16*67:=Nat.mul_le_mul_right _ (by omega)
     simp only [List.length_cons]
     omega
    have e2:ZaN p=a++[41]++d:=by
     rw [hA,hD,ZaN,show p.args.take k=p.args by rw [Hn.out,List.take_length]]
     simp
    rw [← hA] at Hb
    rw [← hD] at htx
    have HT:=Lh htx
    have E2:=Lh e2
    have HL:=Lh hlen
    clear hA hD hl1 hl2 hl3 htx e2 hlen y5 y6
    go_wp2_with fail
    refine(Zbv w2.heap.size w2.heap.size a [41] _ Hb.out (by have:=HL.out;simp only [List.length_cons,List.length_nil];omega) (by omega)).mono ?_
    rintro e w5 ⟨⟨v5,rfl⟩,hb5,bl5⟩
    have s5:=bl5.size
    have p5:=(Below.cell (p:=⟨w.heap.size,0,none⟩) bl5 hlt2).trans q5
    have p6:=(Below.cell (p:=⟨w.heap.size,1,none⟩) bl5 hlt2).trans q6
    have HB5:=Lh hb5
    have HX5:=Lh (Hx.out.below bl5 (by omega))
    clear hb5 bl5
    go_wp2_with fail
    refine(HT.out _).mono ?_
    rintro e w6 ⟨rfl,x6⟩
    have HB6:=Lh (Zlk HB5.out x6)
    have HX6:=Lh (HX5.out.trans x6)
    have s6:=x6.size
    clear x6
    go_wp2_with fail
    refine(Zbv w2.heap.size w2.heap.size (a++[41]) d _ HB6.out (by have:=HL.out;simp only [List.length_append,List.length_cons,List.length_nil];omega) (by omega)).mono ?_
    rintro e w7 ⟨⟨v7,rfl⟩,hb7,bl7⟩
    have s7:=bl7.size
    obtain⟨Z,hZ⟩:∃ Z,Z=a++[41]++d:=⟨_,rfl⟩
    rw [← hZ] at hb7
    have e3:=E2.out
    rw [← hZ] at e3
    have E3:=Lh e3
    have HB7:=Lh hb7
    clear hZ e3
    have HX7:=Lh (HX6.out.below bl7 (by omega))
    clear hb7 bl7
    go_wp2_with fail
    refine(Tryz.Builder_String_any w2.heap.size w2.heap.size Z _ HB7.out (by omega)).mono ?_
    rintro e w8 ⟨rfl,bl8⟩
    have HX8:=Lh (HX7.out.below bl8 (by omega))
    clear bl8
    go_wp2
    go_ret2
    rw [E3.out]
    exact⟨rfl,HX8.out⟩
 ·rw [Zja h0]
  obtain⟨n,hn⟩:∃ n,n=p.args.length:=⟨_,rfl⟩
  have hcd:=HC.out
  clear HC
  rw [← hn] at hc hg hcd ⊢
  obtain⟨e0,he0⟩:∃ e0,e0=Zap p:=⟨_,rfl⟩
  rw [← he0] at h0 hcd ⊢
  have HC:=Lh hcd
  have hb:(e0==0)=false:=by simpa using h0
  have Hn:=Lh hn
  clear hg ha hf he0 h0 hcd hn
  go_enter Tryz.func114,Tryz.ntmps114
  go_wp2_with fail
  refine(HC.out _ ((Ext.refl w).alloc _)).mono ?_
  rintro e w2 ⟨rfl,x1⟩
  go_wp2
  go_ret2
  exact⟨rfl,((Ext.refl w).alloc _).trans x1⟩
def refZ (l:List UInt8):TyD × List UInt8 × Bool:=if semi l<l.length∧ZbL (l.take (semi l))=true then (⟨3,l.take (semi l)⟩,l.drop (semi l+1),true) else (t0D,(Zcg l).2.1,false)
def ZaF:List UInt8→TyD × List UInt8 × Bool
 | []=>(t0D,[],false)
 | c :: r=>if c=73 then (⟨1,[]⟩,r,true) else if c=74 then (⟨2,[]⟩,r,true) else if c=76 then refZ r else (t0D,c :: r,false)
def typZ:List UInt8→TyD × List UInt8 × Bool
 | []=>(t0D,[],false)
 | c :: r=>if c=91 then ((Zc9 (ZaF r).1).1,(ZaF r).2.1,(ZaF r).2.2) else ZaF (c :: r)
def retZ:List UInt8→TyD × List UInt8 × Bool
 | []=>(t0D,[],false)
 | c :: r=>if c=86 then (t0D,r,true) else typZ (c :: r)
theorem ZmW (l:List UInt8):(Zcg l).2.1.length≤l.length:=by
 unfold Zcg
 split
 ·simp
 ·simp
theorem ZrY (l:List UInt8):(refZ l).2.1.length≤l.length∧(refZ l).1.s.length≤64:=by
 unfold refZ
 split
 ·rename_i h
  exact⟨by simp,(Zfv h.2).2⟩
 ·exact⟨ZmW l,Nat.zero_le _⟩
theorem ZeK (l:List UInt8):(ZaF l).2.1.length≤l.length∧(ZaF l).1.s.length≤64:=by
 match l with
 | []=>exact⟨Nat.le_refl _,Nat.zero_le _⟩
 | c :: r =>
  have:=ZrY r
  rw [ZaF]
  repeat' split
  all_goals simp [t0D]
  omega
theorem Zsd (t:TyD):(Zc9 t).1.s.length≤t.s.length:=by
 unfold Zc9
 split
 ·exact Nat.le_refl _
 ·exact Nat.zero_le _
theorem Zj4 (l:List UInt8):(typZ l).2.1.length≤l.length∧(typZ l).1.s.length≤64:=by
 match l with
 | []=>exact⟨Nat.le_refl _,Nat.zero_le _⟩
 | c :: r =>
  have h1:=ZeK r
  have h2:=ZeK (c :: r)
  have h3:=Zsd (ZaF r).1
  rw [typZ]
  split
  ·simp
   omega
  ·exact h2
theorem ZoE (r:List UInt8):((Zba (76 :: r)).2=0∧(refZ r).2.2=false)∨((Zba (76 :: r)).2≠0∧refZ r=((Zba (76 :: r)).1,(76 :: r).drop (Zba (76 :: r)).2,true)):=by
 rw [Zba,if_neg (by decide),if_neg (by decide),if_pos rfl,refZ]
 by_cases h:semi r<r.length∧ZbL (r.take (semi r))=true
 ·rw [if_pos h,if_pos h]
  right
  exact⟨by simp,by simp⟩
 ·rw [if_neg h,if_neg h]
  left
  exact⟨rfl,rfl⟩
theorem Zfb (l:List UInt8):((Zba l).2=0∧(ZaF l).2.2=false)∨((Zba l).2≠0∧ZaF l=((Zba l).1,l.drop (Zba l).2,true)):=by
 match l with
 | []=>exact .inl ⟨rfl,rfl⟩
 | c :: r =>
  rw [ZaF]
  by_cases h1:c=73
  ·subst h1;exact .inr ⟨by simp [Zba],rfl⟩
  rw [if_neg h1]
  by_cases h2:c=74
  ·subst h2;exact .inr ⟨by simp [Zba],rfl⟩
  rw [if_neg h2]
  by_cases h3:c=76
  ·subst h3
   exact ZoE r
  ·rw [if_neg h3,Zba,if_neg h1,if_neg h2,if_neg h3]
   exact .inl ⟨rfl,rfl⟩
theorem Zie (l:List UInt8):((Zbw l).2=0∧(typZ l).2.2=false)∨((Zbw l).2≠0∧typZ l=((Zbw l).1,l.drop (Zbw l).2,true)):=by
 match l with
 | []=>exact .inl ⟨rfl,rfl⟩
 | c :: r =>
  rw [typZ,Zbw]
  by_cases h1:c=91
  ·rw [if_pos h1,if_pos h1]
   rcases Zfb r with⟨h2,h3⟩ | ⟨h2,h3⟩
   ·rw [if_pos h2]
    exact .inl ⟨rfl,h3⟩
   ·rw [if_neg h2,h3]
    obtain⟨g1,g2,g3,g4⟩:=ZeW h2
    refine .inr ⟨by simp,?_⟩
    have e:Zc9 (Zba r).1=(⟨(Zba r).1.k+3,(Zba r).1.s⟩,true):=by rw [Zc9,if_pos g2]
    rw [e]
    simp
  ·rw [if_neg h1,if_neg h1]
   exact Zfb (c :: r)
def Blk (w:World) (R:Nat):Prop:=w.heap[R]?=some (.cells #[.int .i64 0,.string ⟨#[]⟩] 41 (0,0))
theorem Blk.new (w:World):Blk (w.alloc (.cells #[.int .i64 0,.string ⟨#[]⟩] 41)) w.heap.size:=heap_alloc_new _ _
theorem Blk.ext {w w':World} {R:Nat} (h:Blk w R) (he:Ext w w'):Blk w' R:=(he.block R (Zab h)).trans h
theorem Blk.kept {w w':World} {R:Nat} {r:Option Nat} (h:Blk w R) (hw:w.grownBy w' r) (hr:∀ k,r=some k→k≠R):Blk w' R:=(hw.block R (Zab h) (fun e=>hr R e.symm rfl)).trans h
theorem Blk.cells {w:World} {R:Nat} (h:Blk w R):w.cell? ⟨R,0,none⟩=some (.int .i64 0)∧w.cell? ⟨R,1,none⟩=some (.string ⟨#[]⟩)∧w.frozen? ⟨R,0,none⟩=false∧w.frozen? ⟨R,1,none⟩=false :=
 ⟨by rw [cell_of_row w R 0 _ _ (0,0) h];rfl,by rw [cell_of_row w R 1 _ _ (0,0) h];rfl,by simp [World.frozen?,show w.heap[R]?=_ from h],by simp [World.frozen?,show w.heap[R]?=_ from h]⟩
theorem Ze5 {a w:World} {r:Option Nat} (h:a.grownBy w r) {R:Nat} (hR:a.heap.size≤R) (j:Nat) (u:Value):a.grownBy (w.setCell ⟨R,j,none⟩ u) r:=by
 refine⟨h.os,h.tape,h.output,by simpa [World.setCell] using h.size,fun i hi hne=>?_⟩
 rw [Below.heap_setCell w ⟨R,j,none⟩ u i (fun e=>by simp only at e;omega)]
 exact h.block i hi hne
theorem RD.setOther {w:World} {g R:Nat} {l:List UInt8} {b:Bool} (h:RD w g l b) (hne:R≠g) (j:Nat) (u:Value):RD (w.setCell ⟨R,j,none⟩ u) g l b:=by
 unfold RD
 rw [Below.heap_setCell w ⟨R,j,none⟩ u g (fun e=>hne e.symm)]
 exact h
theorem fin {w w':World} {g R:Nat} {l:List UInt8} {b:Bool} (h:RD w' g l b) (hg:w.grownBy w' (some g)) (hR:w.heap.size≤R) (hne:R≠g) (x y:Value) :
 RD ((w'.setCell ⟨R,0,none⟩ x).setCell ⟨R,1,none⟩ y) g l b∧w.grownBy ((w'.setCell ⟨R,0,none⟩ x).setCell ⟨R,1,none⟩ y) (some g) :=
 ⟨(h.setOther hne 0 x).setOther hne 1 y,Ze5 (Ze5 hg hR 0 x) hR 1 y⟩
theorem Zo8 (w:World) (g:Nat) (l:List UInt8) (b:Bool) (hl:l.length≤140737488351232) (h:RD w g l b) :
 Calls Tryz.prog 260 #[.pointer (some ⟨g,0,none⟩)] w (RRet w g (.agg (refZ l).1.vals) (refZ l).2.1 (b || !(refZ l).2.2)):=by
 have hlt:=h.lt
 have hne:w.heap.size≠g:=by omega
 have h1:=h.ext ((Ext.refl w).alloc (.cells #[.int .i64 0,.string ⟨#[]⟩] 41))
 have hb1:=Blk.new w
 have hg1:w.grownBy (w.alloc (.cells #[.int .i64 0,.string ⟨#[]⟩] 41)) (some g):=Za7 ((Ext.refl w).alloc _) _
 obtain⟨w1,hw1⟩:∃ w1,w1=w.alloc (.cells #[.int .i64 0,.string ⟨#[]⟩] 41):=⟨_,rfl⟩
 rw [← hw1] at h1 hb1 hg1
 have hu:=Zo5 w1 g l b hl h1
 have hcl:=ZmW l
 have H1:=Lh h1
 have HB1:=Lh hb1
 have HG1:=Lh hg1
 by_cases hm:semi l<l.length
 ·have hz:Zcg l=(l.take (semi l),l.drop (semi l+1),true):=by rw [Zcg,if_pos hm]
  rw [hz] at hu
  have HU:=Lh hu
  have hn64:(l.take (semi l)).length≤140737488351232:=by simp;omega
  have HI:=Lh (fun W=>ZbU (l.take (semi l)) W hn64)
  cases hn:ZbL (l.take (semi l))
  ·have e:refZ l=(t0D,l.drop (semi l+1),false):=by
    rw [refZ,if_neg (by rw [hn];simp),hz]
   rw [e]
   rw [hn] at HI
   obtain⟨X,hX⟩:∃ X,X=l.take (semi l):=⟨_,rfl⟩
   obtain⟨Y,hY⟩:∃ Y,Y=l.drop (semi l+1):=⟨_,rfl⟩
   rw [← hX,← hY] at HU
   rw [← hX] at HI
   rw [← hY]
   clear hm hz hn hn64 e hX hY hu h1 hb1 hg1 h hcl
   go_enter Tryz.func260,Tryz.ntmps260
   go_wp2_with fail
   rw [← hw1]
   refine HU.out.mono ?_
   rintro e w2 ⟨rfl,h2,g2⟩
   have H2:=Lh h2
   have HG2:=Lh (Zaf HG1.out g2)
   have HB2:=Lh (HB1.out.kept g2 (fun k hk=>by injection hk with hk;omega))
   clear h2 g2
   go_wp2_with fail
   refine(HI.out _).mono ?_
   rintro e w3 ⟨rfl,x3⟩
   have H3:=Lh (H2.out.ext x3)
   have HG3:=Lh (Za3 HG2.out x3)
   have HB3:=Lh (HB2.out.ext x3)
   clear x3
   go_wp2_with fail
   refine(ZcA _ g _ _ H3.out).mono ?_
   rintro e w4 ⟨rfl,h4,g4⟩
   have H4:=Lh h4
   have HG4:=Lh (Zaf HG3.out g4)
   obtain⟨d0,d1,f0,f1⟩:=(HB3.out.kept g4 (fun k hk=>by injection hk with hk;omega)).cells
   clear h4 g4
   unfold TyD.vals t0D
   go_wp2
   refine bodyPost_ret (v:=.agg (TyD.vals t0D)) (by unfold TyD.vals;simp [results,Tryz.results260,go_sem,d0,d1];try exact⟨rfl,rfl⟩) rfl ⟨rfl,?_⟩
   have:=fin H4.out HG4.out (Nat.le_refl _) hne (.int .i64 0) (.string (bs []))
   simpa using this
  ·have e:refZ l=(⟨3,l.take (semi l)⟩,l.drop (semi l+1),true):=by
    rw [refZ,if_pos ⟨hm,hn⟩]
   rw [e]
   rw [hn] at HI
   obtain⟨X,hX⟩:∃ X,X=l.take (semi l):=⟨_,rfl⟩
   obtain⟨Y,hY⟩:∃ Y,Y=l.drop (semi l+1):=⟨_,rfl⟩
   rw [← hX,← hY] at HU
   rw [← hX] at HI hn64
   rw [← hY,← hX]
   have HC:=Lh (fun W=>Zga (bs X) W hn64)
   clear hm hz hn hn64 e hX hY hu h1 hb1 hg1 h hcl
   go_enter Tryz.func260,Tryz.ntmps260
   go_wp2_with fail
   rw [← hw1]
   refine HU.out.mono ?_
   rintro e w2 ⟨rfl,h2,g2⟩
   have H2:=Lh h2
   have HG2:=Lh (Zaf HG1.out g2)
   have HB2:=Lh (HB1.out.kept g2 (fun k hk=>by injection hk with hk;omega))
   clear h2 g2
   go_wp2_with fail
   refine(HI.out _).mono ?_
   rintro e w3 ⟨rfl,x3⟩
   have H3:=Lh (H2.out.ext x3)
   have HG3:=Lh (Za3 HG2.out x3)
   have HB3:=Lh (HB2.out.ext x3)
   clear x3
   go_wp2_with fail
   refine(HC.out _).mono ?_
   rintro e w4 ⟨rfl,x4⟩
   have H4:=Lh (H3.out.ext x4)
   have HG4:=Lh (Za3 HG3.out x4)
   obtain⟨d0,d1,f0,f1⟩:=(HB3.out.ext x4).cells
   clear x4
   unfold TyD.vals
   go_wp2
   refine bodyPost_ret (v:=.agg (TyD.vals ⟨3,X⟩)) (by unfold TyD.vals;simp [results,Tryz.results260,go_sem,d0,d1];try exact⟨rfl,rfl⟩) rfl ⟨rfl,?_⟩
   have:=fin H4.out HG4.out (Nat.le_refl _) hne (.int .i64 3) (.string (bs X))
   simpa using this
 ·have hz:Zcg l=(l,[],false):=by rw [Zcg,if_neg hm]
  rw [hz] at hu
  have HU:=Lh hu
  have e:refZ l=(t0D,[],false):=by
   rw [refZ,if_neg (fun h=>hm h.1),hz]
  rw [e]
  clear hm hz e hu h1 hb1 hg1 h hcl
  go_enter Tryz.func260,Tryz.ntmps260
  go_wp2_with fail
  rw [← hw1]
  refine HU.out.mono ?_
  rintro e w2 ⟨rfl,h2,g2⟩
  have H2:=Lh h2
  have HG2:=Lh (Zaf HG1.out g2)
  have HB2:=Lh (HB1.out.kept g2 (fun k hk=>by injection hk with hk;omega))
  clear h2 g2
  go_wp2_with fail
  refine(ZcA _ g _ _ H2.out).mono ?_
  rintro e w4 ⟨rfl,h4,g4⟩
  have H4:=Lh h4
  have HG4:=Lh (Zaf HG2.out g4)
  obtain⟨d0,d1,f0,f1⟩:=(HB2.out.kept g4 (fun k hk=>by injection hk with hk;omega)).cells
  clear h4 g4
  unfold TyD.vals t0D
  go_wp2
  refine bodyPost_ret (v:=.agg (TyD.vals t0D)) (by unfold TyD.vals;simp [results,Tryz.results260,go_sem,d0,d1];try exact⟨rfl,rfl⟩) rfl ⟨rfl,?_⟩
  have:=fin H4.out HG4.out (Nat.le_refl _) hne (.int .i64 0) (.string (bs []))
  simpa using this
end Go.Proofs.YtclamhhgldkhnaaGreatDoor
