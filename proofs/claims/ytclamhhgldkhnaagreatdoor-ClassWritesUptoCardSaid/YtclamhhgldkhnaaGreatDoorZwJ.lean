/- Several texts of this proof, one behind the other. -/
import Derived.Test.YtclamhhgldkhnaaGreatDoorZwI
import Derived.Test.YtclamhhgldkhnaaGreatDoorZwE
import Derived.Test.YtclamhhgldkhnaaGreatDoorZwC
import Derived.Test.YtclamhhgldkhnaaGreatDoorShelf2
import Derived.Test.YtclamhhgldkhnaaGreatDoorZwD
namespace Go.Proofs.YtclamhhgldkhnaaGreatDoor
open Go.RowKit
set_option linter.unusedVariables false
set_option maxHeartbeats 16000000
def inR (a b n:Int):Bool:=decide (a≤n∧n≤b)
theorem Zbk (a b n:Int) (w:World):Calls Tryz.prog 270 #[.agg #[.int .i64 a,.int .i64 b],.int .i64 n] w fun e w'=>e=.returned (.bool (inR a b n))∧Ext w w':=by
 have H:(a≤n∧n≤b)∨n<a∨(a≤n∧¬ n≤b):=by omega
 rcases H with⟨h,h'⟩ | h | ⟨h,h'⟩
 ·rw [show inR a b n=true by unfold inR;simp;omega]
  go_enter Tryz.func270,Tryz.ntmps270
  go_wp2
  go_ret
  exact⟨rfl,(Ext.refl w).alloc _⟩
 ·rw [show inR a b n=false by unfold inR;simp;omega]
  go_enter Tryz.func270,Tryz.ntmps270
  go_wp2
  go_ret
  exact⟨rfl,(Ext.refl w).alloc _⟩
 ·rw [show inR a b n=false by unfold inR;simp;omega]
  go_enter Tryz.func270,Tryz.ntmps270
  go_wp2
  go_ret
  exact⟨rfl,(Ext.refl w).alloc _⟩
theorem ZeO (w:World):Calls Tryz.prog 269 #[] w fun e w'=>e=.returned (.agg #[.int .i64 0,.int .i64 8191])∧w'=w.alloc (.cells #[.int .i64 0,.int .i64 8191] 283):=by
 go_enter Tryz.func269,Tryz.ntmps269
 go_wp2
 refine bodyPost_ret (v:=.agg #[.int .i64 0,.int .i64 8191]) (by simp [results,Tryz.results269,go_sem];first | done | rfl | exact⟨rfl,rfl⟩) rfl ⟨rfl,?_⟩
 rfl
theorem Zf2 (w:World):Calls Tryz.prog 284 #[] w fun e w'=>e=.returned (.agg #[.int .i64 (-2147483648),.int .i64 2147483647])∧w'=w.alloc (.cells #[.int .i64 (-2147483648),.int .i64 2147483647] 283):=by
 go_enter Tryz.func284,Tryz.ntmps284
 go_wp2
 refine bodyPost_ret (v:=.agg #[.int .i64 (-2147483648),.int .i64 2147483647]) (by simp [results,Tryz.results284,go_sem];first | done | rfl | exact⟨rfl,rfl⟩) rfl ⟨rfl,?_⟩
 rfl
def rnl (z:Int):Int:=if z=2 then -32768 else if z=6 then -2147483648 else 0
def rnh (z:Int):Int:=if z=1 then 255 else if z=2 then 32767 else if z=3 then 65535 else if z=5 then 255 else if z=6 then 2147483647 else 0
def rml (z:Int):Int:=if z=5 then -128 else 0
def rmh (z:Int):Int:=if z=5 then 127 else 0
def rtl (z:Int):Int:=if z=4 then 1 else if z=6 then 2 else if z=7 then 1 else 0
def rth (z:Int):Int:=if z=4 then 1 else if z=6 then 1001 else if z=7 then 1001 else 0
def ZiH (z:Int):List Value:=[.int .i64 (rnl z),.int .i64 (rnh z),.int .i64 (rml z),.int .i64 (rmh z),.int .i64 (rtl z),.int .i64 (rth z)]
def ROOMS:Array Value:=(ZiH 0++ZiH 1++ZiH 2++ZiH 3++ZiH 4++ZiH 5++ZiH 6++ZiH 7).toArray
theorem Zl9 (z:Int) (h0:0≤z) (h1:z≤7):ROOMS.extract (z.toNat*6) (z.toNat*6+6)=#[.int .i64 (rnl z),.int .i64 (rnh z),.int .i64 (rml z),.int .i64 (rmh z),.int .i64 (rtl z),.int .i64 (rth z)]:=by
 have hz:z=0∨z=1∨z=2∨z=3∨z=4∨z=5∨z=6∨z=7:=by omega
 rcases hz with rfl | rfl | rfl | rfl | rfl | rfl | rfl | rfl <;> rfl
def Z48:Array Value:=(List.replicate 48 (Value.int .i64 0)).toArray
theorem Zjg (w:World):Calls Tryz.prog 271 #[] w fun e w'=>e=.returned (.agg ROOMS)∧Ext w w':=by
 go_enter Tryz.func271,Tryz.ntmps271
 refine wp_seq (wp_region_list ?_)
 refine Zc6 rfl _ rfl Z48 48 (by kernel_rfl) (by kernel_rfl) ?_
 refine wpList_nil ?_
 refine wp_seq (wp_region_list ?_)
 iterate 12 refine wpList_build rfl _ _ rfl (by kernel_rfl) ?_
 refine Zin rfl 284 rfl (by simp [go_sem]) ?_
 refine(Zf2 _).mono ?_
 rintro e w1 ⟨rfl,rfl⟩
 refine⟨_,rfl,?_⟩
 iterate 5 refine wpList_build rfl _ _ rfl (by kernel_rfl) ?_
 have hb:((w.alloc (.cells Z48 287)).alloc (.cells #[.int .i64 (-2147483648),.int .i64 2147483647] 283)).heap[w.heap.size]?=some (.cells Z48 287 (0,0)):=by
  rw [heap_alloc_old _ _ (by simp)]
  exact heap_alloc_new w _
 refine wpList_store_row rfl _ _ _ rfl w.heap.size ROOMS (by kernel_rfl) (by kernel_rfl) 287 Z48 hb (by kernel_rfl) (by kernel_rfl) (by kernel_rfl) ?_
 refine wpList_nil ?_
 refine wp_ret ?_
 refine bodyPost_ret (v:=.agg ROOMS) (results_cell_row (p:=0) (ty:=287) (by kernel_rfl) _ _ w.heap.size 287 ROOMS (0,0) (.array 8 286) (by kernel_rfl) (setRow_heap _ _ Z48 _ _ _ hb) (by kernel_rfl) rfl (by kernel_rfl)) rfl ⟨rfl,?_⟩
 exact(((Ext.refl w).alloc _).alloc _).setRow_ (Nat.le_refl _) _
theorem Zf6 (w:World) (z:Int) (h0:0≤z) (h1:z≤7) :
 (Instr.index 287 (.agg ROOMS) (.int .i64 z)).run Tryz.prog w=.ok (.agg #[.int .i64 (rnl z),.int .i64 (rnh z),.int .i64 (rml z),.int .i64 (rmh z),.int .i64 (rtl z),.int .i64 (rth z)]) w:=by
 have hp:=Zl9 z h0 h1
 have hz:0≤z∧z<8:=by omega
 simp [Instr.index,go_sem]
 rw [if_pos hz,hp]
theorem ZjB {w:World} {g:Nat} {a b c:Value} {T:TypeId} (h:w.heap[g]?=some (.cells #[a,b,c] T (0,0))) :
 w.cell? ⟨g,0,none⟩=some a∧w.cell? ⟨g,1,none⟩=some b∧w.cell? ⟨g,2,none⟩=some c∧w.frozen? ⟨g,0,none⟩=false∧w.frozen? ⟨g,1,none⟩=false∧w.frozen? ⟨g,2,none⟩=false :=
 ⟨by rw [cell_of_row w g 0 _ _ (0,0) h];rfl,by rw [cell_of_row w g 1 _ _ (0,0) h];rfl,by rw [cell_of_row w g 2 _ _ (0,0) h];rfl,by simp [World.frozen?,h],by simp [World.frozen?,h],by simp [World.frozen?,h]⟩
theorem ZpN {o:Int} (h:¬ (0≤o∧o≤89)):Zfl o=⟨#[]⟩∧Zad o=0∧Zbe o=false∧inOp o=false:=by
 refine⟨by unfold Zfl;rw [if_neg h],?_,by unfold Zbe;simp;omega,by unfold inOp;simp;omega⟩
 unfold Zad
 repeat' split
 all_goals omega
theorem ZbD (o:Int) (w:World):Calls Tryz.prog 233 #[.int .i64 o] w fun e w' =>
 e=.returned (.tuple #[.agg #[.string (Zfl o),.int .i64 (Zad o),.bool (Zbe o)],.bool (inOp o)])∧Ext w w':=by
 by_cases h:0≤o∧o≤89
 ·obtain⟨h0,h1⟩:=h
  rw [show inOp o=true by unfold inOp;simp;omega]
  have hi:=fun W=>Zgg W o h0 h1
  go_enter Tryz.func233,Tryz.ntmps233
  go_wp2_with (go_at_call 255;refine(Zon _).mono ?_;rintro e w1 ⟨rfl,x1⟩;obtain⟨c0,c1,c2,f0,f1,f2⟩:=ZjB ((x1.block w.heap.size (by simp)).trans (heap_alloc_new w _)))
  refine bodyPost_ret (v:=.tuple #[.agg #[.string (Zfl o),.int .i64 (Zad o),.bool (Zbe o)],.bool true]) (by simp [results,Tryz.results233,go_sem,c0,c1,c2]) rfl ⟨rfl,?_⟩
  exact(((((Ext.refl w).alloc _).trans x1).set_ (Nat.le_refl _) _).set_ (Nat.le_refl _) _).set_ (Nat.le_refl _) _
 ·have h':=h
  obtain⟨e1,e2,e3,e4⟩:=ZpN h
  rw [e1,e2,e3,e4]
  clear e1 e2 e3 e4
  by_cases h0:o<0
  ·clear h h'
   go_enter Tryz.func233,Tryz.ntmps233
   go_wp2
   refine bodyPost_ret (v:=.tuple #[.agg #[.string ⟨#[]⟩,.int .i64 0,.bool false],.bool false]) (by simp [results,Tryz.results233,go_sem]) rfl ⟨rfl,?_⟩
   exact(Ext.refl w).alloc _
  ·have h1:89<o:=by omega
   clear h h'
   go_enter Tryz.func233,Tryz.ntmps233
   go_wp2
   refine bodyPost_ret (v:=.tuple #[.agg #[.string ⟨#[]⟩,.int .i64 0,.bool false],.bool false]) (by simp [results,Tryz.results233,go_sem]) rfl ⟨rfl,?_⟩
   exact(Ext.refl w).alloc _
theorem ZaI (o:Int) (w:World):Calls Tryz.prog 262 #[.int .i64 o] w fun e w'=>e=.returned (.int .i64 (Zad o))∧Ext w w':=by
 go_enter Tryz.func262,Tryz.ntmps262
 go_wp2_with (go_at_call 233;refine(ZbD _ _).mono ?_;rintro e w1 ⟨rfl,x1⟩)
 go_ret
 exact⟨rfl,x1.alloc _⟩
theorem Zpi (o:Int) (w:World):Calls Tryz.prog 196 #[.int .i64 o] w fun e w'=>e=.returned (.bool (Zbe o))∧Ext w w':=by
 go_enter Tryz.func196,Tryz.ntmps196
 go_wp2_with (go_at_call 233;refine(ZbD _ _).mono ?_;rintro e w1 ⟨rfl,x1⟩)
 go_ret
 exact⟨rfl,x1.alloc _⟩
theorem ST.start {w0 w w1:World} {g:Nat} {v:Value} {a o:Int} {q:List Int × Bool} (hp:PR w g v a q.2) (hr:Row w0 .u8 v q.1) (hx:Ext w0 w) (hg:w0.heap.size≤g)
 (e:Ext (((w.alloc (.cells #[.pointer (some ⟨g,0,none⟩)] 280)).alloc (.cells #[.int .i64 0,.int .i64 0,.int .i64 0,.int .i64 0,.slice none 0 0,.slice none 0 0] 178)).alloc (.cells #[.int .i64 a,.int .i64 o,.int .i64 0,.int .i64 0,.slice none 0 0,.slice none 0 0] 178)) w1) :
 ST w0 w1 (w.heap.size+1+1) w.heap.size g (w.heap.size+1) ⟨a,o,0,0,[],[]⟩ (.slice none 0 0) (.slice none 0 0) v q:=by
 have hs:=hx.size
 have h1:(((w.alloc (.cells #[.pointer (some ⟨g,0,none⟩)] 280)).alloc (.cells #[.int .i64 0,.int .i64 0,.int .i64 0,.int .i64 0,.slice none 0 0,.slice none 0 0] 178)).alloc (.cells #[.int .i64 a,.int .i64 o,.int .i64 0,.int .i64 0,.slice none 0 0,.slice none 0 0] 178)).heap[w.heap.size+1+1]?=some (.cells #[.int .i64 a,.int .i64 o,.int .i64 0,.int .i64 0,.slice none 0 0,.slice none 0 0] 178 (0,0)):=by
  have:=heap_alloc_new ((w.alloc (.cells #[.pointer (some ⟨g,0,none⟩)] 280)).alloc (.cells #[.int .i64 0,.int .i64 0,.int .i64 0,.int .i64 0,.slice none 0 0,.slice none 0 0] 178)) (.cells #[.int .i64 a,.int .i64 o,.int .i64 0,.int .i64 0,.slice none 0 0,.slice none 0 0] 178)
  simpa using this
 have h2:(((w.alloc (.cells #[.pointer (some ⟨g,0,none⟩)] 280)).alloc (.cells #[.int .i64 0,.int .i64 0,.int .i64 0,.int .i64 0,.slice none 0 0,.slice none 0 0] 178)).alloc (.cells #[.int .i64 a,.int .i64 o,.int .i64 0,.int .i64 0,.slice none 0 0,.slice none 0 0] 178)).heap[w.heap.size]?=some (.cells #[.pointer (some ⟨g,0,none⟩)] 280 (0,0)):=by
  rw [heap_alloc_old _ _ (by simp;omega),heap_alloc_old _ _ (by simp),heap_alloc_new]
 have h3:(((w.alloc (.cells #[.pointer (some ⟨g,0,none⟩)] 280)).alloc (.cells #[.int .i64 0,.int .i64 0,.int .i64 0,.int .i64 0,.slice none 0 0,.slice none 0 0] 178)).alloc (.cells #[.int .i64 a,.int .i64 o,.int .i64 0,.int .i64 0,.slice none 0 0,.slice none 0 0] 178)).heap[w.heap.size+1]?=some (.cells #[.int .i64 0,.int .i64 0,.int .i64 0,.int .i64 0,.slice none 0 0,.slice none 0 0] 178 (0,0)):=by
  have:=heap_alloc_new (w.alloc (.cells #[.pointer (some ⟨g,0,none⟩)] 280)) (.cells #[.int .i64 0,.int .i64 0,.int .i64 0,.int .i64 0,.slice none 0 0,.slice none 0 0] 178)
  rw [heap_alloc_old _ _ (by simp)]
  simpa using this
 exact ST.later ⟨h1,Own.nil _ _ _ _,Own.nil _ _ _ _,(fun b hb=>by cases hb),h2,hp.ext ((((Ext.refl w).alloc _).alloc _).alloc _),hr,((hx.alloc _).alloc _).alloc _,hg,by omega,hs,h3,by omega,by omega⟩ e
theorem InsAns.of {w0:World} {g:Nat} {R S:In × List Int × Bool} {e:Ending} {w':World} (h:InsAns w0 g S e w') (hR:Hid (S=R)):InsAns w0 g R e w':=hR.out ▸ h
theorem Ziu {W:World} {c:Nat} {y:In} {u1 u2:Value} (H:XP W c y u1 u2) (x:In) (v1 v2:Value):XP ((((((W.setCell ⟨c,0,none⟩ (.int .i64 x.a)).setCell ⟨c,1,none⟩ (.int .i64 x.o)).setCell ⟨c,2,none⟩ (.int .i64 x.n)).setCell ⟨c,3,none⟩ (.int .i64 x.m)).setCell ⟨c,4,none⟩ v1).setCell ⟨c,5,none⟩ v2) c x v1 v2:=by
 have h1:=heap_setCell_same W c 0 _ 178 (.int .i64 x.a) H
 have h2:=heap_setCell_same _ c 1 _ 178 (.int .i64 x.o) h1
 have h3:=heap_setCell_same _ c 2 _ 178 (.int .i64 x.n) h2
 have h4:=heap_setCell_same _ c 3 _ 178 (.int .i64 x.m) h3
 have h5:=heap_setCell_same _ c 4 _ 178 v1 h4
 have h6:=heap_setCell_same _ c 5 _ 178 v2 h5
 unfold XP
 rw [h6]
 rfl
theorem Zor {W:World} (o:Obj) (h c j:Nat) (u a0 a1 a2 a3 a4 a5:Value) (hh:h<W.heap.size) (hc:c<W.heap.size) :
 (((((((W.setCell ⟨h,j,none⟩ u).setCell ⟨c,0,none⟩ a0).setCell ⟨c,1,none⟩ a1).setCell ⟨c,2,none⟩ a2).setCell ⟨c,3,none⟩ a3).setCell ⟨c,4,none⟩ a4).setCell ⟨c,5,none⟩ a5).alloc o =
 (((((((W.alloc o).setCell ⟨h,j,none⟩ u).setCell ⟨c,0,none⟩ a0).setCell ⟨c,1,none⟩ a1).setCell ⟨c,2,none⟩ a2).setCell ⟨c,3,none⟩ a3).setCell ⟨c,4,none⟩ a4).setCell ⟨c,5,none⟩ a5:=by
 simp [World.setCell_alloc_past,hh,hc]
theorem Own.slice {B:Nat} {w:World} {e:TypeId} {k:IntKind} {v:Value} {l:List Int} (h:Own B w e k v l):∃ A n k,v=.slice A n k:=by
 obtain⟨A,k,rfl,-⟩:=h.row
 exact⟨_,_,_,rfl⟩
theorem ST.rbset {w0 w:World} {h r g c0:Nat} {x:In} {v1 v2 v:Value} {q:List Int × Bool} (H:ST w0 w h r g c0 x v1 v2 v q) (u:Value) (o:Obj):((w.setCell ⟨h,4,none⟩ u).alloc o).cell? ⟨r,0,none⟩=some (.pointer (some ⟨g,0,none⟩)):=by
 have h1:(w.setCell ⟨h,4,none⟩ u).heap[r]?=_:=(Below.heap_setCell w ⟨h,4,none⟩ u r (fun e=>H.hr_ne e.symm)).trans H.rb
 have h2:=(heap_alloc_old (w.setCell ⟨h,4,none⟩ u) o (Zab h1)).trans h1
 rw [cell_of_row _ r 0 _ _ (0,0) h2]
 rfl
theorem Zk9 {X:Exit→Act→World→Prop} {x:Exit} {t:Act} {W W':World} (e:W'=W) (h:X x t W):X x t W':=e ▸ h
theorem Zm0 {W:World} (o:Obj) (h j k:Nat) (u a0:Value) (hh:h<W.heap.size):((W.setCell ⟨h,j,none⟩ u).setCell ⟨h,k,none⟩ a0).alloc o=((W.alloc o).setCell ⟨h,j,none⟩ u).setCell ⟨h,k,none⟩ a0:=by
 simp [World.setCell_alloc_past,hh]
theorem Zn2 {W:World} (o:Obj) (h j:Nat) (u:Value) (hh:h<W.heap.size):(W.setCell ⟨h,j,none⟩ u).alloc o=(W.alloc o).setCell ⟨h,j,none⟩ u:=by
 simp [World.setCell_alloc_past,hh]
set_option maxRecDepth 20000 in
theorem Zt8 (w0 w:World) (g:Nat) (v:Value) (a o:Int) (q:List Int × Bool) (hp:PR w g v a q.2) (hr:Row w0 .u8 v q.1) (hx:Ext w0 w) (hg:w0.heap.size≤g) (ha:0≤a∧a<8192) (hz:Zad o=0) :
 Calls Tryz.prog 252 #[.pointer (some ⟨g,0,none⟩),.int .i64 o] w (InsAns w0 g (insM true a o q)):=by
 obtain⟨d0,d1,d2,f0,f1,f2⟩:=hp.cells
 have HZ:=Lh hz
 obtain⟨R,hR⟩:∃ R,insM true a o q=R:=⟨_,rfl⟩
 rw [hR]
 unfold insM at hR
 simp [hz] at hR
 have HR:=Lh hR
 have HS:=Lh (fun w1 e=>ST.start (w1:=w1) (o:=o) hp hr hx hg e)
 have hbl:g<w.heap.size:=hp.lt
 have w0le:=hx.size
 clear hR hz hp d0 d2 f0 f1 f2
 go_enter Tryz.func252,Tryz.ntmps252
 go_wp2_with (go_at_call 262;refine(ZaI o _).mono ?_;rintro e w1 ⟨rfl,x1⟩;rw [HZ.out];have hs1:=HS.out _ x1;have y1:=hs1.rbcell;obtain⟨p10,p11,p12,p13,p14,p15⟩:=hs1.xb.cells;simp only at p10 p11 p12 p13;have b1:=hs1.xb.free;obtain⟨c10,c11,c12,c13,c14,c15⟩:=hs1.rc.cells;have m1:=hs1.rc.free;have q1:=hs1.xb.lt;have r1:=hs1.rc.lt)
 refine bodyPost_ret (v:=.agg #[.int .i64 a,.int .i64 o,.int .i64 0,.int .i64 0,.slice none 0 0,.slice none 0 0]) (by simp [results,Tryz.results252,go_sem,c10,c11,c12,c13,c14,c15]) rfl ?_
 exact(hs1.out (Za0 _ _ _ _ _ _ _)).of HR
set_option maxRecDepth 20000 in
theorem ZtG (w0 w:World) (g:Nat) (v:Value) (a o:Int) (q:List Int × Bool) (hp:PR w g v a q.2) (hr:Row w0 .u8 v q.1) (hx:Ext w0 w) (hg:w0.heap.size≤g) (ha:0≤a∧a<8192) (hz:Zad o=1) :
 Calls Tryz.prog 252 #[.pointer (some ⟨g,0,none⟩),.int .i64 o] w (InsAns w0 g (insM true a o q)):=by
 obtain⟨d0,d1,d2,f0,f1,f2⟩:=hp.cells
 have HZ:=Lh hz
 obtain⟨R,hR⟩:∃ R,insM true a o q=R:=⟨_,rfl⟩
 rw [hR]
 unfold insM at hR
 simp [hz] at hR
 have HR:=Lh hR
 have HS:=Lh (fun w1 e=>ST.start (w1:=w1) (o:=o) hp hr hx hg e)
 have hbl:g<w.heap.size:=hp.lt
 have w0le:=hx.size
 clear hR hz hp d0 d2 f0 f1 f2
 go_enter Tryz.func252,Tryz.ntmps252
 go_wp2_with (first
  | (go_at_call 262;refine(ZaI o _).mono ?_;rintro e w1 ⟨rfl,x1⟩;rw [HZ.out];have hs1:=HS.out _ x1;have y1:=hs1.rbcell;obtain⟨p10,p11,p12,p13,p14,p15⟩:=hs1.xb.cells;simp only at p10 p11 p12 p13;have b1:=hs1.xb.free;obtain⟨c10,c11,c12,c13,c14,c15⟩:=hs1.rc.cells;have m1:=hs1.rc.free;have q1:=hs1.xb.lt;have r1:=hs1.rc.lt)
  | (go_at_call 263;refine(Zdb w0 _ g _ _ a _ 1 hs1.pr hs1.row hs1.ext hs1.hg (by unfold Siz;simp)).mono ?_;rintro e w2 hp2;obtain⟨rfl,u2,hs2⟩:=hs1.read hp2;have y2:=hs2.rbcell;obtain⟨p20,p21,p22,p23,p24,p25⟩:=hs2.xb.cells;simp only at p20 p21 p22 p23;have b2:=hs2.xb.free;obtain⟨c20,c21,c22,c23,c24,c25⟩:=hs2.rc.cells;have m2:=hs2.rc.free;have q2:=hs2.xb.lt;have r2:=hs2.rc.lt))
 have hs3:=hs2.field (hs2.xb.set2 (rdN true 1 false q).1) rfl rfl rfl
 refine bodyPost_ret (v:=.agg #[.int .i64 a,.int .i64 o,.int .i64 (rdN true 1 false q).1,.int .i64 0,.slice none 0 0,.slice none 0 0]) (by simp [results,Tryz.results252,go_sem,c20,c21,c22,c23,c24,c25]) rfl ?_
 exact(hs3.out (Za0 _ _ _ _ _ _ _)).of HR
set_option maxRecDepth 20000 in
theorem ZtF (w0 w:World) (g:Nat) (v:Value) (a o:Int) (q:List Int × Bool) (hp:PR w g v a q.2) (hr:Row w0 .u8 v q.1) (hx:Ext w0 w) (hg:w0.heap.size≤g) (ha:0≤a∧a<8192) (hz:Zad o=2) :
 Calls Tryz.prog 252 #[.pointer (some ⟨g,0,none⟩),.int .i64 o] w (InsAns w0 g (insM true a o q)):=by
 obtain⟨d0,d1,d2,f0,f1,f2⟩:=hp.cells
 have HZ:=Lh hz
 obtain⟨R,hR⟩:∃ R,insM true a o q=R:=⟨_,rfl⟩
 rw [hR]
 unfold insM at hR
 simp [hz] at hR
 have HR:=Lh hR
 have HS:=Lh (fun w1 e=>ST.start (w1:=w1) (o:=o) hp hr hx hg e)
 have hbl:g<w.heap.size:=hp.lt
 have w0le:=hx.size
 clear hR hz hp d0 d2 f0 f1 f2
 go_enter Tryz.func252,Tryz.ntmps252
 go_wp2_with (first
  | (go_at_call 262;refine(ZaI o _).mono ?_;rintro e w1 ⟨rfl,x1⟩;rw [HZ.out];have hs1:=HS.out _ x1;have y1:=hs1.rbcell;obtain⟨p10,p11,p12,p13,p14,p15⟩:=hs1.xb.cells;simp only at p10 p11 p12 p13;have b1:=hs1.xb.free;obtain⟨c10,c11,c12,c13,c14,c15⟩:=hs1.rc.cells;have m1:=hs1.rc.free;have q1:=hs1.xb.lt;have r1:=hs1.rc.lt)
  | (go_at_call 264;refine(ZbS w0 _ g _ _ a _ 2 hs1.pr hs1.row hs1.ext hs1.hg (by unfold Siz;simp)).mono ?_;rintro e w2 hp2;obtain⟨rfl,u2,hs2⟩:=hs1.read hp2;have y2:=hs2.rbcell;obtain⟨p20,p21,p22,p23,p24,p25⟩:=hs2.xb.cells;simp only at p20 p21 p22 p23;have b2:=hs2.xb.free;obtain⟨c20,c21,c22,c23,c24,c25⟩:=hs2.rc.cells;have m2:=hs2.rc.free;have q2:=hs2.xb.lt;have r2:=hs2.rc.lt))
 have hs3:=hs2.field (hs2.xb.set2 (rdN true 2 true q).1) rfl rfl rfl
 refine bodyPost_ret (v:=.agg #[.int .i64 a,.int .i64 o,.int .i64 (rdN true 2 true q).1,.int .i64 0,.slice none 0 0,.slice none 0 0]) (by simp [results,Tryz.results252,go_sem,c20,c21,c22,c23,c24,c25]) rfl ?_
 exact(hs3.out (Za0 _ _ _ _ _ _ _)).of HR
set_option maxRecDepth 20000 in
theorem Zua (w0 w:World) (g:Nat) (v:Value) (a o:Int) (q:List Int × Bool) (hp:PR w g v a q.2) (hr:Row w0 .u8 v q.1) (hx:Ext w0 w) (hg:w0.heap.size≤g) (ha:0≤a∧a<8192) (hz:Zad o=3) :
 Calls Tryz.prog 252 #[.pointer (some ⟨g,0,none⟩),.int .i64 o] w (InsAns w0 g (insM true a o q)):=by
 obtain⟨d0,d1,d2,f0,f1,f2⟩:=hp.cells
 have HZ:=Lh hz
 obtain⟨R,hR⟩:∃ R,insM true a o q=R:=⟨_,rfl⟩
 rw [hR]
 unfold insM at hR
 simp [hz] at hR
 have HR:=Lh hR
 have HS:=Lh (fun w1 e=>ST.start (w1:=w1) (o:=o) hp hr hx hg e)
 have hbl:g<w.heap.size:=hp.lt
 have w0le:=hx.size
 clear hR hz hp d0 d2 f0 f1 f2
 go_enter Tryz.func252,Tryz.ntmps252
 go_wp2_with (first
  | (go_at_call 262;refine(ZaI o _).mono ?_;rintro e w1 ⟨rfl,x1⟩;rw [HZ.out];have hs1:=HS.out _ x1;have y1:=hs1.rbcell;obtain⟨p10,p11,p12,p13,p14,p15⟩:=hs1.xb.cells;simp only at p10 p11 p12 p13;have b1:=hs1.xb.free;obtain⟨c10,c11,c12,c13,c14,c15⟩:=hs1.rc.cells;have m1:=hs1.rc.free;have q1:=hs1.xb.lt;have r1:=hs1.rc.lt)
  | (go_at_call 263;refine(Zdb w0 _ g _ _ a _ 2 hs1.pr hs1.row hs1.ext hs1.hg (by unfold Siz;simp)).mono ?_;rintro e w2 hp2;obtain⟨rfl,u2,hs2⟩:=hs1.read hp2;have y2:=hs2.rbcell;obtain⟨p20,p21,p22,p23,p24,p25⟩:=hs2.xb.cells;simp only at p20 p21 p22 p23;have b2:=hs2.xb.free;obtain⟨c20,c21,c22,c23,c24,c25⟩:=hs2.rc.cells;have m2:=hs2.rc.free;have q2:=hs2.xb.lt;have r2:=hs2.rc.lt))
 have hs3:=hs2.field (hs2.xb.set2 (rdN true 2 false q).1) rfl rfl rfl
 refine bodyPost_ret (v:=.agg #[.int .i64 a,.int .i64 o,.int .i64 (rdN true 2 false q).1,.int .i64 0,.slice none 0 0,.slice none 0 0]) (by simp [results,Tryz.results252,go_sem,c20,c21,c22,c23,c24,c25]) rfl ?_
 exact(hs3.out (Za0 _ _ _ _ _ _ _)).of HR
set_option maxRecDepth 20000 in
theorem ZtS (w0 w:World) (g:Nat) (v:Value) (a o:Int) (q:List Int × Bool) (hp:PR w g v a q.2) (hr:Row w0 .u8 v q.1) (hx:Ext w0 w) (hg:w0.heap.size≤g) (ha:0≤a∧a<8192) (hz:Zad o=4) :
 Calls Tryz.prog 252 #[.pointer (some ⟨g,0,none⟩),.int .i64 o] w (InsAns w0 g (insM true a o q)):=by
 obtain⟨d0,d1,d2,f0,f1,f2⟩:=hp.cells
 have HZ:=Lh hz
 obtain⟨R,hR⟩:∃ R,insM true a o q=R:=⟨_,rfl⟩
 rw [hR]
 unfold insM at hR
 simp [hz] at hR
 have HR:=Lh hR
 have HS:=Lh (fun w1 e=>ST.start (w1:=w1) (o:=o) hp hr hx hg e)
 have hbl:g<w.heap.size:=hp.lt
 have w0le:=hx.size
 clear hR hz hp d0 d2 f0 f1 f2
 have hb:=ZaS (st:=true) (en:=q.2) (s:=2) (sg:=true) (by unfold Siz;simp) (Za9 hr)
 rw [show (q.1,q.2)=q from rfl] at hb
 have hwf:=Zc7 (x:=a+(rdN true 2 true q).1) (by omega) (by omega)
 go_enter Tryz.func252,Tryz.ntmps252
 go_wp2_with (first
  | (go_at_call 262;refine(ZaI o _).mono ?_;rintro e w1 ⟨rfl,x1⟩;rw [HZ.out];have hs1:=HS.out _ x1;have y1:=hs1.rbcell;obtain⟨p10,p11,p12,p13,p14,p15⟩:=hs1.xb.cells;simp only at p10 p11 p12 p13;have b1:=hs1.xb.free;obtain⟨c10,c11,c12,c13,c14,c15⟩:=hs1.rc.cells;have m1:=hs1.rc.free;have q1:=hs1.xb.lt;have r1:=hs1.rc.lt)
  | (go_at_call 265;refine(Zdj w0 _ g _ _ a _ hs1.pr hs1.row hs1.ext hs1.hg ha).mono ?_;rintro e w2 hp2;obtain⟨rfl,u2,hs2⟩:=hs1.read hp2;have y2:=hs2.rbcell;obtain⟨p20,p21,p22,p23,p24,p25⟩:=hs2.xb.cells;simp only at p20 p21 p22 p23;have b2:=hs2.xb.free;obtain⟨c20,c21,c22,c23,c24,c25⟩:=hs2.rc.cells;have m2:=hs2.rc.free;have q2:=hs2.xb.lt;have r2:=hs2.rc.lt))
 have hs3:=(hs2.app1 (l:=[a+(rdN true 2 true q).1]) (Own.one_ w2 .i64 _ hwf hs2.le) (((Ext.refl w2).alloc _).grow _) (.inr rfl)).1
 have HO:=hs3.out (Za0 (w.heap.size+1) (.int .i64 a) (.int .i64 o) (.int .i64 0) (.int .i64 0) (.slice (some ⟨w2.heap.size,0,none⟩) 1 1) (.slice none 0 0))
 have F:=Ziu hs3.rc ⟨a,o,0,0,[a+(rdN true 2 true q).1],[]⟩ (.slice (some ⟨w2.heap.size,0,none⟩) 1 1) (.slice none 0 0)
 simp only at F
 rw [← Zor _ _ _ _ _ _ _ _ _ _ _ q2 r2] at F HO
 obtain⟨F0,F1,F2,F3,F4,F5⟩:=F.cells
 simp only at F0 F1 F2 F3
 refine bodyPost_ret (v:=.agg #[.int .i64 a,.int .i64 o,.int .i64 0,.int .i64 0,.slice (some ⟨w2.heap.size,0,none⟩) 1 1,.slice none 0 0]) (by simp [results,Tryz.results252,go_sem,F0,F1,F2,F3,F4,F5]) rfl ?_
 exact HO.of HR
set_option maxRecDepth 20000 in
theorem ZtX (w0 w:World) (g:Nat) (v:Value) (a o:Int) (q:List Int × Bool) (hp:PR w g v a q.2) (hr:Row w0 .u8 v q.1) (hx:Ext w0 w) (hg:w0.heap.size≤g) (ha:0≤a∧a<8192) (hz:Zad o=5) :
 Calls Tryz.prog 252 #[.pointer (some ⟨g,0,none⟩),.int .i64 o] w (InsAns w0 g (insM true a o q)):=by
 obtain⟨d0,d1,d2,f0,f1,f2⟩:=hp.cells
 have HZ:=Lh hz
 obtain⟨R,hR⟩:∃ R,insM true a o q=R:=⟨_,rfl⟩
 rw [hR]
 unfold insM at hR
 simp [hz] at hR
 have HR:=Lh hR
 have HS:=Lh (fun w1 e=>ST.start (w1:=w1) (o:=o) hp hr hx hg e)
 have hbl:g<w.heap.size:=hp.lt
 have w0le:=hx.size
 clear hR hz hp d0 d2 f0 f1 f2
 go_enter Tryz.func252,Tryz.ntmps252
 go_wp2_with (go_at_call 262;refine(ZaI o _).mono ?_;rintro e w1 ⟨rfl,x1⟩;rw [HZ.out];have hs1:=HS.out _ x1;have y1:=hs1.rbcell;obtain⟨p10,p11,p12,p13,p14,p15⟩:=hs1.xb.cells;simp only at p10 p11 p12 p13;have b1:=hs1.xb.free;obtain⟨c10,c11,c12,c13,c14,c15⟩:=hs1.rc.cells;have m1:=hs1.rc.free;have q1:=hs1.xb.lt;have r1:=hs1.rc.lt)
 go_region_law (first
  | ((refine ZaA rfl 263 _ _ rfl #[.pointer (some ⟨g,0,none⟩),.int .i64 1] (by simp [go_sem]) (by simp [go_sem]) ?_);refine(Zdb w0 _ g _ _ a _ 1 hs1.drew.pr hs1.row hs1.drew.ext hs1.hg (by unfold Siz;simp)).mono ?_;rintro e w2 hp2;obtain⟨rfl,u2,hs2⟩:=hs1.drew.read hp2;refine⟨_,rfl,?_⟩;have y2:=hs2.rbcell;obtain⟨p20,p21,p22,p23,p24,p25⟩:=hs2.xb.cells;simp only at p20 p21 p22 p23;have b2:=hs2.xb.free;obtain⟨c20,c21,c22,c23,c24,c25⟩:=hs2.rc.cells;have m2:=hs2.rc.free;have q2:=hs2.xb.lt;have r2:=hs2.rc.lt)
  | ((refine ZaA rfl 264 _ _ rfl #[.pointer (some ⟨g,0,none⟩),.int .i64 1] (by simp [go_sem]) (by simp [go_sem]) ?_);refine(ZbS w0 _ g _ _ a _ 1 hs2.pr hs2.row hs2.ext hs2.hg (by unfold Siz;simp)).mono ?_;rintro e w3 hp3;obtain⟨rfl,u3,hs3⟩:=hs2.read hp3;refine⟨_,rfl,?_⟩;have y3:=hs3.rbcell;obtain⟨p30,p31,p32,p33,p34,p35⟩:=hs3.xb.cells;simp only at p30 p31 p32 p33;have b3:=hs3.xb.free;obtain⟨c30,c31,c32,c33,c34,c35⟩:=hs3.rc.cells;have m3:=hs3.rc.free;have q3:=hs3.xb.lt;have r3:=hs3.rc.lt))
 all_goals
  go_wp2
  have hs4:=hs3.field (hs3.xb.set2 (rdN true 1 false q).1) rfl rfl rfl
  have hs5:=hs4.field (hs4.xb.set3 (rdN true 1 true (rdN true 1 false q).2).1) rfl rfl rfl
  refine bodyPost_ret (v:=.agg #[.int .i64 a,.int .i64 o,.int .i64 (rdN true 1 false q).1,.int .i64 (rdN true 1 true (rdN true 1 false q).2).1,.slice none 0 0,.slice none 0 0]) (by simp [results,Tryz.results252,go_sem,c30,c31,c32,c33,c34,c35]) rfl ?_
  exact(hs5.out (Za0 _ _ _ _ _ _ _)).of HR
set_option maxRecDepth 20000 in
theorem Zuc (w0 w:World) (g:Nat) (v:Value) (a o:Int) (q:List Int × Bool) (hp:PR w g v a q.2) (hr:Row w0 .u8 v q.1) (hx:Ext w0 w) (hg:w0.heap.size≤g) (ha:0≤a∧a<8192) (hz:Zad o=6) :
 Calls Tryz.prog 252 #[.pointer (some ⟨g,0,none⟩),.int .i64 o] w (InsAns w0 g (insM true a o q)):=by
 obtain⟨d0,d1,d2,f0,f1,f2⟩:=hp.cells
 have HZ:=Lh hz
 obtain⟨R,hR⟩:∃ R,insM true a o q=R:=⟨_,rfl⟩
 rw [hR]
 unfold insM at hR
 simp [hz] at hR
 have HR:=Lh hR
 have HS:=Lh (fun w1 e=>ST.start (w1:=w1) (o:=o) hp hr hx hg e)
 have hbl:g<w.heap.size:=hp.lt
 have w0le:=hx.size
 clear hR hz hp d0 d2 f0 f1 f2
 have hb:=ZaS (st:=true) (en:=q.2) (s:=2) (sg:=true) (by unfold Siz;simp) (Za9 hr)
 rw [show (q.1,q.2)=q from rfl] at hb
 have hwf:=Zc7 (x:=a+(rdN true 2 true q).1) (by omega) (by omega)
 go_enter Tryz.func252,Tryz.ntmps252
 go_wp2_with (go_at_call 262;refine(ZaI o _).mono ?_;rintro e w1 ⟨rfl,x1⟩;rw [HZ.out];have hs1:=HS.out _ x1;have y1:=hs1.rbcell;obtain⟨p10,p11,p12,p13,p14,p15⟩:=hs1.xb.cells;simp only at p10 p11 p12 p13;have b1:=hs1.xb.free;obtain⟨c10,c11,c12,c13,c14,c15⟩:=hs1.rc.cells;have m1:=hs1.rc.free;have q1:=hs1.xb.lt;have r1:=hs1.rc.lt)
 go_region_law (first
  | (((refine ZaA rfl 265 _ _ rfl #[.pointer (some ⟨g,0,none⟩)] (by simp [go_sem]) (by simp [go_sem]) ?_);refine(Zdj w0 _ g _ _ a _ hs1.drew.pr hs1.row hs1.drew.ext hs1.hg ha).mono ?_;rintro e w2 hp2;obtain⟨rfl,u2,hs2⟩:=hs1.drew.read hp2;refine⟨_,rfl,?_⟩;have y2:=hs2.rbcell;obtain⟨p20,p21,p22,p23,p24,p25⟩:=hs2.xb.cells;simp only at p20 p21 p22 p23;have b2:=hs2.xb.free;obtain⟨c20,c21,c22,c23,c24,c25⟩:=hs2.rc.cells;have m2:=hs2.rc.free;have q2:=hs2.xb.lt;have r2:=hs2.rc.lt);have ya2:=fun o=>(hs2.alloc o).rbcell;have xa2:=fun o=>(hs2.alloc o).xb.cells.2.2.1;have za2:=fun o=>(hs2.alloc o).xb.cells.2.2.2.2.1;have fa2:=fun o=>(hs2.alloc o).xb.free)
  | ((first | ((refine ZaA rfl 264 _ _ rfl #[.pointer (some ⟨g,0,none⟩),.int .i64 4] (by simp [go_sem]) (by simp [go_sem]) ?_);refine(ZbS w0 _ g _ _ a _ 4 (hs2.alloc _).pr hs2.row (hs2.alloc _).ext hs2.hg (by unfold Siz;simp)).mono ?_;rintro e w3 hp3;obtain⟨rfl,u3,hs3⟩:=(hs2.alloc _).read hp3;refine⟨_,rfl,?_⟩;have y3:=hs3.rbcell;obtain⟨p30,p31,p32,p33,p34,p35⟩:=hs3.xb.cells;simp only at p30 p31 p32 p33;have b3:=hs3.xb.free;obtain⟨c30,c31,c32,c33,c34,c35⟩:=hs3.rc.cells;have m3:=hs3.rc.free;have q3:=hs3.xb.lt;have r3:=hs3.rc.lt) | ((refine ZaA rfl 264 _ _ rfl #[.pointer (some ⟨g,0,none⟩),.int .i64 4] (by simp [go_sem]) (by simp [go_sem]) ?_);refine(ZbS w0 _ g _ _ a _ 4 hs2.pr hs2.row hs2.ext hs2.hg (by unfold Siz;simp)).mono ?_;rintro e w3 hp3;obtain⟨rfl,u3,hs3⟩:=hs2.read hp3;refine⟨_,rfl,?_⟩;have y3:=hs3.rbcell;obtain⟨p30,p31,p32,p33,p34,p35⟩:=hs3.xb.cells;simp only at p30 p31 p32 p33;have b3:=hs3.xb.free;obtain⟨c30,c31,c32,c33,c34,c35⟩:=hs3.rc.cells;have m3:=hs3.rc.free;have q3:=hs3.xb.lt;have r3:=hs3.rc.lt));have ya3:=fun o=>(hs3.alloc o).rbcell;have xa3:=fun o=>(hs3.alloc o).xb.cells.2.2.1;have za3:=fun o=>(hs3.alloc o).xb.cells.2.2.2.2.1;have fa3:=fun o=>(hs3.alloc o).xb.free))
 all_goals
  first
   | (
    have hs5:=(hs3.app1 (l:=[a+(rdN true 2 true q).1]) (Own.one_ w3 .i64 _ hwf hs3.le) (((Ext.refl w3).alloc _).grow _) (.inr rfl)).1
    have hs6:=hs5.field (hs5.xb.set2 (rdN true 4 true (rdN true 2 true q).2).1) rfl rfl rfl
    rw [← Zm0 _ _ _ _ _ _ q3] at hs6
    obtain⟨W,hW⟩:∃ W,W=((w3.setCell ⟨w.heap.size+1+1,4,none⟩ (.slice (some ⟨w3.heap.size,0,none⟩) 1 1)).setCell ⟨w.heap.size+1+1,2,none⟩ (.int .i64 (rdN true 4 true (rdN true 2 true q).2).1)).alloc (.cells #[.int .i64 (a+(rdN true 2 true q).1)] 3):=⟨_,rfl⟩
    have hs7:∃ v1,ST w0 W (w.heap.size+1+1) w.heap.size g (w.heap.size+1) ⟨a,o,(rdN true 4 true (rdN true 2 true q).2).1,0,[a+(rdN true 2 true q).1],[]⟩ v1 (.slice none 0 0) u3 (rdN true 4 true (rdN true 2 true q).2).2:=⟨_,hW ▸ hs6⟩
    refine Zk9 (W:=W) hW.symm ?_)
   | (
    have ho2:Own w0.heap.size (w2.alloc (.cells #[.int .i64 (a+(rdN true 2 true q).1)] 3)) 3 .i64 (.slice (some ⟨w2.heap.size,0,none⟩) 1 1) [a+(rdN true 2 true q).1]:=Own.one_ w2 .i64 _ hwf hs2.le
    have hs5:=(hs3.app1' (ho2.kept hp3.2.2 (fun b hb e=>(by injection e with e;subst e;exact Zau ho2 (hs2.alloc _).pr (by decide) hb:False))) (World.grownBy.refl w3 _) (fun b _ hb=>by cases hb)).1
    have hs6:=hs5.field (hs5.xb.set2 (rdN true 4 true (rdN true 2 true q).2).1) rfl rfl rfl
    obtain⟨W,hW⟩:∃ W,W=(w3.setCell ⟨w.heap.size+1+1,4,none⟩ (.slice (some ⟨w2.heap.size,0,none⟩) 1 1)).setCell ⟨w.heap.size+1+1,2,none⟩ (.int .i64 (rdN true 4 true (rdN true 2 true q).2).1):=⟨_,rfl⟩
    have hs7:∃ v1,ST w0 W (w.heap.size+1+1) w.heap.size g (w.heap.size+1) ⟨a,o,(rdN true 4 true (rdN true 2 true q).2).1,0,[a+(rdN true 2 true q).1],[]⟩ v1 (.slice none 0 0) u3 (rdN true 4 true (rdN true 2 true q).2).2:=⟨_,hW ▸ hs6⟩
    refine Zk9 (W:=W) hW.symm ?_)
  clear hs1 hs2 hs3 hs5 hs6 hW
  obtain⟨v7,hs7⟩:=hs7
  have y7:=hs7.rbcell
  go_wp2_with (go_at_call 266;refine(ZjX w0 _ _ _ g _ _ _ _ _ _ hs7 ha (by simp) _ rfl).mono ?_;rintro e w8 ⟨rfl,v81,v82,u8,hs8⟩;obtain⟨A8,n8,k8,rfl⟩:=hs8.o1.slice;obtain⟨B8,n9,j8,rfl⟩:=hs8.o2.slice;have y8:=hs8.rbcell;obtain⟨p80,p81,p82,p83,p84,p85⟩:=hs8.xb.cells;simp only at p80 p81 p82 p83;have b8:=hs8.xb.free;obtain⟨c80,c81,c82,c83,c84,c85⟩:=hs8.rc.cells;have m8:=hs8.rc.free;have q8:=hs8.xb.lt;have r8:=hs8.rc.lt)
  refine bodyPost_ret (v:=.agg #[.int .i64 a,.int .i64 o,.int .i64 (rdN true 4 true (rdN true 2 true q).2).1,.int .i64 0,.slice A8 n8 k8,.slice B8 n9 j8]) (by simp [results,Tryz.results252,go_sem,c80,c81,c82,c83,c84,c85]) rfl ?_
  exact(hs8.out (Za0 _ _ _ _ _ _ _)).of HR
set_option maxRecDepth 20000 in
theorem Zui (w0 w:World) (g:Nat) (v:Value) (a o:Int) (q:List Int × Bool) (hp:PR w g v a q.2) (hr:Row w0 .u8 v q.1) (hx:Ext w0 w) (hg:w0.heap.size≤g) (ha:0≤a∧a<8192) (hz:Zad o=7) :
 Calls Tryz.prog 252 #[.pointer (some ⟨g,0,none⟩),.int .i64 o] w (InsAns w0 g (insM true a o q)):=by
 obtain⟨d0,d1,d2,f0,f1,f2⟩:=hp.cells
 have HZ:=Lh hz
 obtain⟨R,hR⟩:∃ R,insM true a o q=R:=⟨_,rfl⟩
 rw [hR]
 unfold insM at hR
 simp [hz] at hR
 have HR:=Lh hR
 have HS:=Lh (fun w1 e=>ST.start (w1:=w1) (o:=o) hp hr hx hg e)
 have hbl:g<w.heap.size:=hp.lt
 have w0le:=hx.size
 clear hR hz hp d0 d2 f0 f1 f2
 have hb:=ZaS (st:=true) (en:=q.2) (s:=2) (sg:=true) (by unfold Siz;simp) (Za9 hr)
 rw [show (q.1,q.2)=q from rfl] at hb
 have hwf:=Zc7 (x:=a+(rdN true 2 true q).1) (by omega) (by omega)
 go_enter Tryz.func252,Tryz.ntmps252
 go_wp2_with (first
  | (go_at_call 262;refine(ZaI o _).mono ?_;rintro e w1 ⟨rfl,x1⟩;rw [HZ.out];have hs1:=HS.out _ x1;have y1:=hs1.rbcell;obtain⟨p10,p11,p12,p13,p14,p15⟩:=hs1.xb.cells;simp only at p10 p11 p12 p13;have b1:=hs1.xb.free;obtain⟨c10,c11,c12,c13,c14,c15⟩:=hs1.rc.cells;have m1:=hs1.rc.free;have q1:=hs1.xb.lt;have r1:=hs1.rc.lt)
  | ((go_at_call 265;refine(Zdj w0 _ g _ _ a _ hs1.pr hs1.row hs1.ext hs1.hg ha).mono ?_;rintro e w2 hp2;obtain⟨rfl,u2,hs2⟩:=hs1.read hp2;have y2:=hs2.rbcell;obtain⟨p20,p21,p22,p23,p24,p25⟩:=hs2.xb.cells;simp only at p20 p21 p22 p23;have b2:=hs2.xb.free;obtain⟨c20,c21,c22,c23,c24,c25⟩:=hs2.rc.cells;have m2:=hs2.rc.free;have q2:=hs2.xb.lt;have r2:=hs2.rc.lt);have ya2:=fun o=>(hs2.alloc o).rbcell;have yc2:=hs2.rbset))
 have hs4:=(hs2.app1 (l:=[a+(rdN true 2 true q).1]) (Own.one_ w2 .i64 _ hwf hs2.le) (((Ext.refl w2).alloc _).grow _) (.inr rfl)).1
 rw [← Zn2 _ _ _ _ q2] at hs4
 (go_at_call 266;refine(Zke w0 _ _ _ g _ _ _ _ _ _ hs4 ha (by simp) (by simp) _ rfl).mono ?_;rintro e w8 ⟨rfl,v81,v82,u8,hs8⟩;obtain⟨A8,n8,k8,rfl⟩:=hs8.o1.slice;obtain⟨B8,n9,j8,rfl⟩:=hs8.o2.slice;have y8:=hs8.rbcell;obtain⟨p80,p81,p82,p83,p84,p85⟩:=hs8.xb.cells;simp only at p80 p81 p82 p83;have b8:=hs8.xb.free;obtain⟨c80,c81,c82,c83,c84,c85⟩:=hs8.rc.cells;have m8:=hs8.rc.free;have q8:=hs8.xb.lt;have r8:=hs8.rc.lt)
 go_wp2
 refine bodyPost_ret (v:=.agg #[.int .i64 a,.int .i64 o,.int .i64 0,.int .i64 0,.slice A8 n8 k8,.slice B8 n9 j8]) (by simp [results,Tryz.results252,go_sem,c80,c81,c82,c83,c84,c85]) rfl ?_
 exact(hs8.out (Za0 _ _ _ _ _ _ _)).of HR
theorem Zse (w0 w:World) (g:Nat) (v:Value) (a o:Int) (q:List Int × Bool) (hp:PR w g v a q.2) (hr:Row w0 .u8 v q.1) (hx:Ext w0 w) (hg:w0.heap.size≤g) (ha:0≤a∧a<8192) :
 Calls Tryz.prog 252 #[.pointer (some ⟨g,0,none⟩),.int .i64 o] w (InsAns w0 g (insM true a o q)):=by
 have hz:=Zb2 o
 have hc:Zad o=0∨Zad o=1∨Zad o=2∨Zad o=3∨Zad o=4∨Zad o=5∨Zad o=6∨Zad o=7:=by omega
 rcases hc with h | h | h | h | h | h | h | h
 ·exact Zt8 w0 w g v a o q hp hr hx hg ha h
 ·exact ZtG w0 w g v a o q hp hr hx hg ha h
 ·exact ZtF w0 w g v a o q hp hr hx hg ha h
 ·exact Zua w0 w g v a o q hp hr hx hg ha h
 ·exact ZtS w0 w g v a o q hp hr hx hg ha h
 ·exact ZtX w0 w g v a o q hp hr hx hg ha h
 ·exact Zuc w0 w g v a o q hp hr hx hg ha h
 ·exact Zui w0 w g v a o q hp hr hx hg ha h
abbrev InV:=In × Value × Value
def InV.vals (e:InV):Array Value:=e.1.vals e.2.1 e.2.2
def ev0:InV:=(i0,.slice none 0 0,.slice none 0 0)
def Nest (w:World) (e:InV):Prop:=Row w .i64 e.2.1 e.1.to∧Row w .i64 e.2.2 e.1.ks
def Zt0 (B:Nat) (w:World) (e:InV):Prop:=Own B w 3 .i64 e.2.1 e.1.to∧Own B w 3 .i64 e.2.2 e.1.ks
theorem ZbZ {w:World} {k:IntKind} {v:Value} {l:List Int} (h:Row w k v l):v.oneCell'=true:=by
 obtain⟨A,c,rfl,-⟩:=h
 rfl
def ShI:Shp InV where
 T:=178
 n:=6
 vals:=InV.vals
 zero:=ev0
 nest:=Nest
 nestO:=Zt0
 pos:=by decide
 size:=fun _=>rfl
 one:=fun {w x} h u hu=>by
  have h6:u=.int .i64 x.1.a∨u=.int .i64 x.1.o∨u=.int .i64 x.1.n∨u=.int .i64 x.1.m∨u=x.2.1∨u=x.2.2:=by simpa [InV.vals,In.vals] using hu
  rcases h6 with rfl | rfl | rfl | rfl | rfl | rfl
  ·rfl
  ·rfl
  ·rfl
  ·rfl
  ·exact ZbZ h.1
  ·exact ZbZ h.2
 ext:=fun h he=>⟨h.1.ext he,h.2.ext he⟩
 extO:=fun h he=>⟨h.1.ext he,h.2.ext he⟩
 low:=fun h=>⟨h.1.row,h.2.row⟩
 kept:=fun {B w w' x row} h hg hr=>by
  refine⟨h.1.kept hg fun g hv e=>?_,h.2.kept hg fun g hv e=>?_⟩
  ·obtain⟨c,z,h1⟩:=hr g e
   exact Zau h.1 h1 (by decide) hv
  ·obtain⟨c,z,h1⟩:=hr g e
   exact Zau h.2 h1 (by decide) hv
def RowI (w:World) (v:Value) (l:List In):Prop:=∃ es:List InV,es.map (·.1)=l∧ShI.Row w v es
def OwnI (B:Nat) (w:World) (v:Value) (l:List In):Prop:=∃ es:List InV,es.map (·.1)=l∧ShI.Own B w v es
def gn (l:List In) (j:Nat):In:=l.getD j i0
theorem Zob {l:List In} {j:Nat} (h:j<l.length):gn l j∈l:=by
 unfold gn
 rw [List.getD_eq_getElem?_getD,List.getElem?_eq_getElem h]
 exact List.getElem_mem h
theorem Zs2 {l:List In} {j:Nat} (h:j<l.length):gn l j=l[j]:=by
 unfold gn
 rw [List.getD_eq_getElem?_getD,List.getElem?_eq_getElem h]
 rfl
theorem Zug {es:List InV} {l:List In} (h:es.map (·.1)=l) (j:Nat):(ShI.el es j).1=gn l j:=by
 subst h
 unfold Shp.el gn
 rw [List.getD_eq_getElem?_getD,List.getD_eq_getElem?_getD,List.getElem?_map]
 cases es[j]? <;> rfl
def AtI (w:World) (b o:Nat) (x:In) (v1 v2:Value):Prop :=
 w.cell? ⟨b,o,none⟩=some (.int .i64 x.a)∧w.cell? ⟨b,o+1,none⟩=some (.int .i64 x.o)∧w.cell? ⟨b,o+2,none⟩=some (.int .i64 x.n) ∧
 w.cell? ⟨b,o+3,none⟩=some (.int .i64 x.m)∧w.cell? ⟨b,o+4,none⟩=some v1∧w.cell? ⟨b,o+5,none⟩=some v2
theorem AtI.of {w:World} {b o:Nat} {e:InV} (h:ShI.At w b o e):AtI w b o e.1 e.2.1 e.2.2 :=
 ⟨h 0 (by decide),h 1 (by decide),h 2 (by decide),h 3 (by decide),h 4 (by decide),h 5 (by decide)⟩
section
variable {w w' : World} {B : Nat} {v : Value} {l : List In}
theorem RowI.ext (h:RowI w v l) (he:Ext w w'):RowI w' v l:=by
 obtain⟨es,e,h⟩:=h
 exact⟨es,e,h.ext he⟩
theorem RowI.cut (h:RowI w v l):∃ A c,v=.slice A l.length c∧l.length≤c∧c≤maxLen∧(A=none→c=0):=by
 obtain⟨es,rfl,h⟩:=h
 rw [List.length_map]
 exact h.cut
theorem RowI.at {A:Option Addr} {n c:Nat} (h:RowI w (.slice A n c) l) (hl:0<l.length) :
 ∃ b o,A=some ⟨b,o,none⟩∧∀ j,j<l.length→∃ v1 v2,∀ W,Ext w W→AtI W b (o+j*6) (gn l j) v1 v2∧Row W .i64 v1 (gn l j).to∧Row W .i64 v2 (gn l j).ks:=by
 obtain⟨es,rfl,h⟩:=h
 rw [List.length_map] at hl
 obtain⟨b,o,rfl,hc⟩:=h.at hl
 refine⟨b,o,rfl,fun j hj=>?_⟩
 rw [List.length_map] at hj
 have hg:=Zug (rfl:es.map (·.1)=_) j
 refine⟨(ShI.el es j).2.1,(ShI.el es j).2.2,fun W e=>?_⟩
 obtain⟨h1,h2⟩:=hc W e j hj
 refine⟨?_,?_,?_⟩
 ·rw [← hg];exact AtI.of h1
 ·rw [← hg];exact h2.1
 ·rw [← hg];exact h2.2
theorem OwnI.row (h:OwnI B w v l):RowI w v l:=by
 obtain⟨es,e,h⟩:=h
 exact⟨es,e,h.row⟩
theorem OwnI.nil (B:Nat) (w:World):OwnI B w (.slice none 0 0) []:=⟨[],rfl,Shp.Own.nil _ _ _⟩
theorem OwnI.ext (h:OwnI B w v l) (he:Ext w w'):OwnI B w' v l:=by
 obtain⟨es,e,h⟩:=h
 exact⟨es,e,h.ext he⟩
theorem OwnI.low (h:OwnI B w v l):∀ g,v.ownBlock=some g→B≤g:=by
 obtain⟨es,e,h⟩:=h
 exact h.low
theorem OwnI.slice (h:OwnI B w v l):∃ A c,v=.slice A l.length c∧l.length≤c∧c≤maxLen:=by
 obtain⟨A,c,h1,h2,h3,-⟩:=h.row.cut
 exact⟨A,c,h1,h2,h3⟩
end
theorem ZtL:(Tryz.prog.info? 178).map (fun i=>(i.zero,i.size,i.bytes))=some (some (.agg #[.int .i64 0,.int .i64 0,.int .i64 0,.int .i64 0,.slice none 0 0,.slice none 0 0]),6,80):=by kernel_rfl
theorem ZfT (w:World) {ops:Array Oper} {rest:List Oper} {o:Oper} {a:Act} {Q:Exit→Act→World→Prop} (hgd:Region.wanted o (yielded ops a.tmps)=true) (s y:Operand) (B:Nat)
 (hop:o.op=.call { callee:=.builtin .append,args:=#[s,y],argTypes:=#[127,127] })
 (v:Value) (l:List In) (hs:a.eval s=v) (ho:OwnI B w v l) (g:Nat) (x:In) (v1 v2:Value) (T:TypeId) (hx:a.eval y=.slice (some ⟨g,0,none⟩) 1 1) (hg:w.heap[g]?=some (.cells (x.vals v1 v2) T (0,0)))
 (o1:Own B w 3 .i64 v1 x.to) (o2:Own B w 3 .i64 v2 x.ks)
 (hb:l.length≤1000000000) (hB:B≤w.heap.size)
 (h:∀ v' w',OwnI B w' v' (l++[x])→w.grownBy w' v.ownBlock→(v'.ownBlock=v.ownBlock∨v'.ownBlock=some w.heap.size)→wpList Tryz.prog ops Q rest (a.put o.dst v') w') :
 wpList Tryz.prog ops Q (o :: rest) a w:=by
 obtain⟨es,rfl,ho⟩:=ho
 rw [List.length_map] at hb
 refine Shp.wpList_app ShI w hgd s y B _ _ 80 hop Tryz.underlying127 ZtL rfl (by decide) v es hs ho _ [(x,v1,v2)] hx (Shp.Row.single (S:=ShI) hg ⟨o1.row,o2.row⟩) (fun e he=>by rw [List.mem_singleton.1 he];exact⟨o1,o2⟩) (by simp;omega) hB fun v' w' h1 h2 h3=>h v' w' ⟨_,by simp,h1⟩ h2 h3
def Texts (l:List Cst):Prop:=∀ y∈l,y.t.size≤140737488351232
theorem Texts.at_ {l:List Cst} (h:Texts l) (j:Nat):(gc l j).t.size≤140737488351232:=by
 by_cases hj:j<l.length
 ·exact h _ (Zla hj)
 ·rw [Zmz (by omega)]
  exact Nat.zero_le _
theorem Zhd (v:Value) (l:List Cst) (i k:Int) (w:World) (h:RowC w v l) (hi:I64 i) (hk:I64 k) (hz:(gc l 0).k=0) (hk0:¬ k=0) :
 Calls Tryz.prog 156 #[v,.int .i64 i,.int .i64 k] w fun e w'=>e=.returned (.bool (isK l i k))∧w=w':=by
 obtain⟨hi0,hi1⟩:=hi
 obtain⟨A,c,rfl,h2,h3,h4,h5,h6⟩:=h
 unfold maxLen at h3
 by_cases h1:0≤i
 ·obtain⟨j,rfl⟩:∃ j:Nat,i=j:=⟨i.toNat,by omega⟩
  by_cases hlt:(j:Int)<l.length
  ·obtain⟨b,o,rfl,_,hc⟩:=h6 (by omega)
   obtain⟨a0,a1,a2,a3,a4,a5⟩:=hc j (by omega)
   have e:isK l j k=((gc l j).k==k):=by
    by_cases hj:j=0
    ·subst hj
     rw [hz]
     have:(0==k)=false:=by simpa using (fun e=>hk0 e.symm)
     rw [this]
     simp [isK]
    ·have:(1:Int)≤j:=by omega
     simp [isK,this,hlt]
     rfl
   rw [e]
   clear hc h6 e hz hk0
   go_enter Tryz.func156,Tryz.ntmps156
   go_wp2
   go_ret
   exact⟨rfl,rfl⟩
  ·have e:isK l j k=false:=by simp [isK];omega
   rw [e]
   clear h6 e hz hk0
   go_enter Tryz.func156,Tryz.ntmps156
   go_wp2
   go_ret
   exact⟨rfl,rfl⟩
 ·have e:isK l i k=false:=by simp [isK];omega
  rw [e]
  clear h6 e hz hk0
  go_enter Tryz.func156,Tryz.ntmps156
  go_wp2
  go_ret
  exact⟨rfl,rfl⟩
theorem Zgx (v:Value) (l:List Cst) (x:Cst) (w:World) (h:RowC w v l) (hx:x.ok) (hz:(gc l 0).k=0) :
 Calls Tryz.prog 157 #[v,.agg x.vals] w fun e w'=>e=.returned (.bool (isK l x.b 1&&isK l x.c 1))∧Ext w w':=by
 obtain⟨k,t,n,a,b,c⟩:=x
 obtain⟨-,-,-,ok_b,ok_c⟩:=hx
 simp only at ok_b ok_c ⊢
 unfold Cst.vals
 simp only
 obtain⟨e1,he1⟩:∃ e1,isK l b 1=e1:=⟨_,rfl⟩
 obtain⟨e2,he2⟩:∃ e2,isK l c 1=e2:=⟨_,rfl⟩
 rw [he1,he2]
 have H1:=Lh he1
 have H2:=Lh he2
 clear he1 he2
 cases e1
 ·go_enter Tryz.func157,Tryz.ntmps157
  go_wp2_with fail
  refine(Zhd _ l _ _ _ (by exact h.ext ((Ext.refl _).alloc _)) ok_b (by unfold I64;omega) hz (by decide)).mono ?_
  rw [H1.out]
  rintro e w1 ⟨rfl,rfl⟩
  go_wp2
  go_ret
  exact⟨rfl,(Ext.refl _).alloc _⟩
 ·go_enter Tryz.func157,Tryz.ntmps157
  go_wp2_with fail
  refine(Zhd _ l _ _ _ (by exact h.ext ((Ext.refl _).alloc _)) ok_b (by unfold I64;omega) hz (by decide)).mono ?_
  rw [H1.out]
  rintro e w1 ⟨rfl,rfl⟩
  go_wp2_with fail
  refine(Zhd _ l _ _ _ (by exact h.ext ((Ext.refl _).alloc _)) ok_c (by unfold I64;omega) hz (by decide)).mono ?_
  rw [H2.out]
  rintro e w1 ⟨rfl,rfl⟩
  go_wp2
  go_ret
  exact⟨rfl,(Ext.refl _).alloc _⟩
end Go.Proofs.YtclamhhgldkhnaaGreatDoor
