/- The document's u, flag and text of layer 8, walked. -/
import Derived.Test.YtclamhhgldkhnaaGreatDoorZwQ
import Derived.Test.YtclamhhgldkhnaaGreatDoorZwD
import Derived.Lib.ConvBytes
import Derived.Test.YtclamhhgldkhnaaGreatDoorZwAF
namespace Go.Proofs.YtclamhhgldkhnaaGreatDoor
open Go.RowKit
set_option linter.unusedVariables false
set_option maxHeartbeats 16000000
theorem Zrn {l:List Int} (hn:∀ x∈l,NN x):(l.flatMap nu).length≤l.length*8:=by
 induction l with
 | nil=>exact Nat.le_refl _
 | cons x l ih =>
  have h1:=Zaz (hn x (List.mem_cons_self ..))
  have h2:=ih fun y hy=>hn y (List.mem_cons_of_mem _ hy)
  rw [List.flatMap_cons,List.length_append,List.length_cons]
  omega
theorem ZrH {l:List Int} {j:Nat} (h:j<l.length):l.take (j+1)=l.take j++[gi l j]:=by
 rw [List.take_succ_eq_append_getElem h]
 simp [gi,h]
theorem ZtU {l:List Int} {j:Nat} (h:j<l.length):gi l j∈l:=by
 simp [gi,h]
theorem Zfp (v:Value) (l:List Int) (w:World) (h:Row w .i64 v l) (hn:∀ x∈l,NN x) (hl:l.length≤16) :
 Calls Tryz.prog 66 #[v] w (Ret w (fun u w'=>Own w.heap.size w' 5 .u8 u (l.flatMap nu))):=by
 obtain⟨A,c,rfl,h2,h3,h4,h5,h6⟩:=h
 unfold maxLen at h3
 have HL:∀ k,((l.take k).flatMap nu).length≤128:=fun k=>by
  have h1:=Zrn (l:=l.take k) fun x hx=>hn x (List.mem_of_mem_take hx)
  have h2:(l.take k).length≤l.length:=by rw [List.length_take];omega
  omega
 have HLh:=Lh HL
 have HNN:=Lh hn
 obtain⟨n,hN⟩:∃ n,l.length=n:=⟨_,rfl⟩
 have HN:=Lh hN
 rw [hN] at h2 h6 hl ⊢
 clear hN HL hn h4 h5
 go_enter Tryz.func66,Tryz.ntmps66
 go_wp2_with fail
 go_loopw [3,4] (fun o i wr=>∃ k:Nat,i=.int .i64 k∧k≤n∧Own w.heap.size wr 5 .u8 o ((l.take k).flatMap nu)∧Ext w wr) (fun _ i _=>n-(intOf i).toNat)
 case atStart=>exact⟨0,rfl,by omega,Own.nil _ _ _ _,Ext.refl _⟩
 case round =>
  obtain⟨k,rfl,hk,ho,hx⟩:=hrel
  by_cases hlt:k<n
  ·obtain⟨b,o,rfl,hb,hc⟩:=h6 (by omega)
   have hcell:=(hx.cell (p:=⟨b,o+k,none⟩) hb).trans (hc k hlt)
   have hkl:k<l.length:=by have:=HN.out;omega
   have hNk:=HNN.out _ (ZtU hkl)
   have hT:=Lh (ZrH hkl)
   obtain⟨x,hxx⟩:∃ x,gi l k=x:=⟨_,rfl⟩
   rw [hxx] at hcell hNk hT
   have hU:=Zk2 x
   have hL1:=HLh.out k
   have hNx:=Zaz hNk
   rw [ZsQ hNk] at hU
   unfold NN at hNk
   have HU:=Lh hU
   have HO:=Lh ho
   have HX:=Lh hx
   clear hU hc hxx hkl ho hx
   go_wp2_with fail
   refine(HU.out _ (by omega) (by omega)).mono ?_
   rintro e w4 ⟨u,rfl,⟨v4,rfl,ho4⟩,x4⟩
   have H4:=Lh ho4.row
   obtain⟨A4,k4,rfl,-⟩:=id ho4.row
   have X4:=Lh x4
   clear ho4 x4
   go_wp2_with (at_builtin;go_loud (refine wpList_app _ rfl _ _ w.heap.size 29 5 _ 1 .u8 rfl Tryz.underlying29 Zaq rfl (by omega) _ ((l.take k).flatMap nu) rfl (HO.out.ext X4.out) _ (nu x) rfl H4.out (by omega) (by have:=(HX.out.trans X4.out).size;omega) ?_);intro v7 w7 ho7 hg7 hb7)
   have x7:Ext w w7:=(HX.out.trans X4.out).grown hg7 HO.out.low
   clear hg7
   go_wp2_with fail
   go_roundw
   case rel =>
    refine⟨k+1,by go_num,by omega,?_,x7⟩
    rw [hT.out,List.flatMap_append]
    simpa using ho7
   case measure=>simp [intOf];omega
  ·obtain rfl:k=n:=by omega
   have e:=HN.out
   rw [List.take_of_length_le (by omega)] at ho
   go_wp2
   go_ret
   exact Ret.mk ho hx
theorem Zfs (b:Bool) (w:World):Calls Tryz.prog 67 #[.bool b] w fun e w'=>e=.returned (.int .i64 (flg b))∧w'=w:=by
 cases b
 ·go_enter Tryz.func67,Tryz.ntmps67
  go_wp2
  go_ret
  exact⟨rfl,rfl⟩
 ·go_enter Tryz.func67,Tryz.ntmps67
  go_wp2
  go_ret
  exact⟨rfl,rfl⟩
theorem ZgL (w:World) (e:TypeId) (s:ByteArray):Ext w (Lib.bytesWorld w e s) :=
 ⟨rfl,rfl,rfl,by rw [Lib.bytesWorld_size];omega,fun i hi=>Lib.bytesWorld_at_old w e s i hi⟩
theorem Zul (s:ByteArray) {j:Nat} (h:j<s.size):gi (ub s) j=((s.data.toList.getD j 0).toNat:Int):=by
 have h':j<s.data.toList.length:=by rw [← Lib.size_eq];exact h
 have h2:j<s.data.size:=by simpa using h'
 unfold gi ub
 simp [List.getD]
 rw [Array.getElem?_eq_getElem h2]
 rfl
theorem Zp5 (w:World) (s:ByteArray) (hs:s.size≤140737488351232):Row (Lib.bytesWorld w 5 s) .u8 (.slice (some ⟨w.heap.size,0,none⟩) s.size (grownCap w s.size 0 5)) (ub s):=by
 refine⟨_,_,by rw [Zgf],by rw [Zgf];exact grownCap_ge _ _ _ _,grownCap_le_maxLen _ _ _ _ (by unfold maxLen;omega),(fun h=>by cases h),ZqZ s,fun _=>⟨_,_,rfl,by rw [Lib.bytesWorld_size];omega,fun j hj=>?_⟩⟩
 rw [Zgf] at hj
 rw [Nat.zero_add,Lib.bytesWorld_cell _ _ _ _ hj,Zul s hj]
theorem ZbQ {w:World} (T:TypeId) (g:Nat) (l:List Int) (hg:g=w.heap.size) (hn:∀ x∈l,NN x) (hl:l.length≤16) :
 Row (w.alloc (.cells (l.map (Value.int .i64)).toArray T)) .i64 (.slice (some ⟨g,0,none⟩) l.length l.length) l:=by
 subst hg
 exact Row.built w .i64 T l (fun x hx=>by
  have:=hn x hx
  unfold NN at this
  simp [Lit.wf,IntKind.min,IntKind.max,IntKind.signed,IntKind.bits]
  omega) (by omega)
theorem ZaZ (s:ByteArray) (w:World) (hs:s.size≤140737488000000) :
 Calls Tryz.prog 68 #[.string s] w (Ret w (fun u w'=>Own w.heap.size w' 5 .u8 u (txA s))):=by
 have hU:=fun W v (h:Row W .i64 v [(s.size:Int)])=>Zfp v [(s.size:Int)] W h (fun x hx=>by rw [List.mem_singleton.1 hx];unfold NN;omega) (by simp)
 have hnl:=Zaz (n:=(s.size:Int)) (by unfold NN;omega)
 have hcv:=fun W=>Lib.run_convert_string_bytes (P:=Tryz.prog) W 9 29 5 s Tryz.underlying9 Tryz.underlying29 Tryz.underlying5
 simp only [List.flatMap_cons,List.flatMap_nil,List.append_nil] at hU
 have HU:=Lh hU
 clear hU
 go_enter Tryz.func68,Tryz.ntmps68
 go_wp2_with fail
 refine(HU.out _ _ (ZbQ _ _ [(s.size:Int)] rfl (fun x hx=>by rw [List.mem_singleton.1 hx];unfold NN;omega) (by simp))).mono ?_
 rintro e w1 ⟨v1,rfl,o1,x1⟩
 have O1:=Lh (o1.base (show w.heap.size≤_ by simp))
 have X1:=Lh (((Ext.refl w).alloc _).trans x1)
 have hcv1:=hcv w1
 have r2:=Zp5 w1 s (by omega)
 have x2:=ZgL w1 5 s
 obtain⟨W2,hW2⟩:∃ W,Lib.bytesWorld w1 5 s=W:=⟨_,rfl⟩
 obtain⟨g2,hg2⟩:∃ g,grownCap w1 s.size 0 5=g:=⟨_,rfl⟩
 rw [hW2,hg2] at hcv1 r2
 rw [hW2] at x2
 have R2:=Lh r2
 have X2:=Lh x2
 have hul:=Zgf s
 clear hcv o1 x1 hW2 hg2 r2 x2
 go_wp2_with (at_builtin;go_loud (refine wpList_app _ rfl _ _ w.heap.size 29 5 _ 1 .u8 rfl Tryz.underlying29 Zaq rfl (by omega) v1 (nu s.size) rfl (O1.out.ext X2.out) _ (ub s) rfl R2.out (by omega) (by have:=(X1.out.trans X2.out).size;omega) ?_);intro v7 w7 ho7 hg7 hb7)
 have x7:Ext w w7:=(X1.out.trans X2.out).grown hg7 O1.out.low
 go_ret
 exact Ret.mk ho7 x7
end Go.Proofs.YtclamhhgldkhnaaGreatDoor
