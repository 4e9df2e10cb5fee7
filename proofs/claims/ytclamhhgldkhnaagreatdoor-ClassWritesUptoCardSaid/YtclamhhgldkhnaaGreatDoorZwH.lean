/- Several texts of this proof, one behind the other. -/
import Derived.Test.YtclamhhgldkhnaaGreatDoorZwG
import Derived.Test.YtclamhhgldkhnaaGreatDoorZwD
import Derived.Test.YtclamhhgldkhnaaGreatDoorZwC
import Derived.Laws.EntriesVeiled
import Derived.BigQuiet
import Derived.Deep.QuietTactic
import Derived.Deep.RegionWith
import Derived.Deep.RegionHeld3
import Derived.Deep.RegionLaw
namespace Go.Proofs.YtclamhhgldkhnaaGreatDoor
open Go.RowKit
set_option linter.unusedVariables false
set_option maxHeartbeats 16000000
theorem ZpE (n:Int) (h₀:0≤n) (h₁:n<2 ^ 63):IntKind.i64.wrap n=n:=by rw [IntKind.wrap_i64];omega
theorem ZeL (x y:Int) (h0:0≤x) (h1:x<16777216) (hy:B8 y):bits .or .i64 (x*256) y=x*256+y:=by
 unfold B8 at hy
 exact bits_join .i64 63 (by decide) ZpE 8 (x*256) y (by omega) (by simp) (by omega) hy.1 (by omega) (by omega)
theorem ZfZ (y:Int) (hy:B8 y):bits .or .i64 0 y=y:=by
 have:=ZeL 0 y (by decide) (by decide) hy
 simpa using this
def NR (w:World) (g:Nat) (v:Value) (a:Int) (sh:Bool):Prop:=w.heap[g]?=some (.cells #[v,.int .i64 a,.bool sh] 235 (0,0))
theorem NR.lt {w:World} {g:Nat} {v:Value} {a:Int} {sh:Bool} (h:NR w g v a sh):g<w.heap.size:=Zab h
theorem NR.cells {w:World} {g:Nat} {v:Value} {a:Int} {sh:Bool} (h:NR w g v a sh):w.cell? ⟨g,0,none⟩=some v∧w.cell? ⟨g,1,none⟩=some (.int .i64 a)∧w.cell? ⟨g,2,none⟩=some (.bool sh)∧w.frozen? ⟨g,0,none⟩=false∧w.frozen? ⟨g,1,none⟩=false∧w.frozen? ⟨g,2,none⟩=false :=
 ⟨by rw [cell_of_row w g 0 _ _ (0,0) h];rfl,by rw [cell_of_row w g 1 _ _ (0,0) h];rfl,by rw [cell_of_row w g 2 _ _ (0,0) h];rfl,by simp [World.frozen?,show w.heap[g]?=_ from h],by simp [World.frozen?,show w.heap[g]?=_ from h],by simp [World.frozen?,show w.heap[g]?=_ from h]⟩
theorem NR.drew {w:World} {g:Nat} {v:Value} {a:Int} {sh:Bool} (h:NR w g v a sh) (n:Nat):NR (w.drewN n) g v a sh:=h
theorem NR.setAt {w:World} {g:Nat} {v:Value} {a:Int} {sh:Bool} (h:NR w g v a sh) (c:Int):NR (w.setCell ⟨g,1,none⟩ (.int .i64 c)) g v c sh:=by
 have h1:=heap_setCell_same w g 1 _ 235 (.int .i64 c) h
 unfold NR
 rw [h1]
 rfl
theorem NR.setShort {w:World} {g:Nat} {v:Value} {a:Int} {sh:Bool} (h:NR w g v a sh) (c:Bool):NR (w.setCell ⟨g,2,none⟩ (.bool c)) g v a c:=by
 have h1:=heap_setCell_same w g 2 _ 235 (.bool c) h
 unfold NR
 rw [h1]
 rfl
theorem NR.ext {w w':World} {g:Nat} {v:Value} {a:Int} {sh:Bool} (h:NR w g v a sh) (he:Ext w w'):NR w' g v a sh:=(he.block g (Zab h)).trans h
theorem ZaV {w w':World} {r:Option Nat} (h:w.grownBy w' r) (n:Nat):w.grownBy (w'.drewN n) r:=⟨h.os,h.tape,h.output,h.size,h.block⟩
def NRet (w:World) (g:Nat) (v:Value) (x:Int) (a:Int) (sh:Bool) (e:Ending) (w':World):Prop:=e=.returned (.int .i64 x)∧NR w' g v a sh∧w.grownBy w' (some g)
theorem Zhy (w0 w:World) (g:Nat) (b:List Int) (v:Value) (a:Nat) (sh sg:Bool) (s:Nat) (hg:NR w g v a sh) (hr:Row w0 .u8 v b) (hx:Ext w0 w) (hs:s≤8) (ha:a≤9223372036854775000) (hshort:b.length<a+s) :
 Calls Tryz.prog 207 #[.pointer (some ⟨g,0,none⟩),.int .i64 s,.bool sg] w (NRet w g v 0 a true):=by
 obtain⟨A,c,rfl,hc,hm,-⟩:=hr
 obtain⟨d0,d1,d2,f0,f1,f2⟩:=hg.cells
 have HS:=fun n=>Lh ((hg.drew n).setShort true)
 have HS:=Lh HS
 unfold maxLen at hm
 clear hg
 go_enter Tryz.func207,Tryz.ntmps207
 go_wp2
 go_quiet (fail)
 go_wp2
 go_ret
 exact⟨rfl,(HS.out _).out,Zaa (ZaV (World.grownBy.refl w _) _) 2 _⟩
theorem ZlR (w0 w:World) (g:Nat) (b:List Int) (v:Value) (a:Nat) (sh:Bool) (p0:Int) (hg:NR w g v a sh) (hr:Row w0 .u8 v b) (hx:Ext w0 w) (hg0:w0.heap.size≤g) (hen:a+1≤b.length)
 (e0:gi b a=p0) (hb0:B8 p0) :
 Calls Tryz.prog 207 #[.pointer (some ⟨g,0,none⟩),.int .i64 1,.bool false] w (NRet w g v p0 ((a:Int)+1) sh):=by
 obtain⟨A,c,rfl,hc,hm,-,-,hrow⟩:=hr
 unfold maxLen at hm
 obtain⟨bb,o,rfl,hlt,hcell⟩:=hrow (by omega)
 have y0:w.cell? ⟨bb,o+a,none⟩=some (.int .u8 p0):=by rw [hx.cell (p:=⟨bb,o+a,none⟩) hlt,hcell a (by omega),e0]
 have a1:((a:Int)+1)≤b.length:=by omega
 have o0:=ZfZ p0 hb0
 have w00:IntKind.i64.wrap 0=0:=rfl
 have wa0:IntKind.i64.wrap (a:Int)=(a:Int):=by rw [IntKind.wrap_i64];omega
 have na0:0≤(a:Int):=by omega
 have la0:(a:Int)<(b.length:Int):=by omega
 obtain⟨d0,d1,d2,f0,f1,f2⟩:=hg.cells
 have HS:=fun n=>Lh ((hg.drew n).setAt ((a:Int)+1))
 have HS:=Lh HS
 unfold B8 at hb0
 clear hg hcell hx hrow e0
 go_enter Tryz.func207,Tryz.ntmps207
 go_wp2
 go_quiet (fail)
 go_wp2
 refine wp_loop_rounds 2 ?_
 rw [rounds_succ]
 go_wp2
 go_quiet (fail)
 go_wp2
 rw [rounds_succ]
 go_wp2
 go_ret
 exact⟨rfl,(HS.out _).out,Zaa (ZaV (World.grownBy.refl w _) _) 1 _⟩
theorem ZlU (w0 w:World) (g:Nat) (b:List Int) (v:Value) (a:Nat) (sh:Bool) (p0:Int) (hg:NR w g v a sh) (hr:Row w0 .u8 v b) (hx:Ext w0 w) (hg0:w0.heap.size≤g) (hen:a+1≤b.length)
 (e0:gi b a=p0) (hb0:B8 p0) :
 Calls Tryz.prog 207 #[.pointer (some ⟨g,0,none⟩),.int .i64 1,.bool true] w (NRet w g v (s1 p0) ((a:Int)+1) sh):=by
 obtain⟨A,c,rfl,hc,hm,-,-,hrow⟩:=hr
 unfold maxLen at hm
 obtain⟨bb,o,rfl,hlt,hcell⟩:=hrow (by omega)
 have y0:w.cell? ⟨bb,o+a,none⟩=some (.int .u8 p0):=by rw [hx.cell (p:=⟨bb,o+a,none⟩) hlt,hcell a (by omega),e0]
 have a1:((a:Int)+1)≤b.length:=by omega
 have o0:=ZfZ p0 hb0
 have w00:IntKind.i64.wrap 0=0:=rfl
 have wa0:IntKind.i64.wrap (a:Int)=(a:Int):=by rw [IntKind.wrap_i64];omega
 have na0:0≤(a:Int):=by omega
 have la0:(a:Int)<(b.length:Int):=by omega
 obtain⟨d0,d1,d2,f0,f1,f2⟩:=hg.cells
 have HS:=fun n=>Lh ((hg.drew n).setAt ((a:Int)+1))
 have HS:=Lh HS
 unfold B8 at hb0
 clear hg hcell hx hrow e0
 have H:(p0<128∧(s1 p0)=p0)∨(128≤p0∧(s1 p0)=p0-256):=by
  unfold s1
  split <;> omega
 rcases H with⟨hlo,hv⟩ | ⟨hlo,hv⟩
 ·rw [hv]
  clear hv
  go_enter Tryz.func207,Tryz.ntmps207
  go_wp2
  go_quiet (fail)
  go_wp2
  refine wp_loop_rounds 2 ?_
  rw [rounds_succ]
  go_wp2
  go_quiet (fail)
  go_wp2
  rw [rounds_succ]
  go_wp2
  go_ret
  exact⟨rfl,(HS.out _).out,Zaa (ZaV (World.grownBy.refl w _) _) 1 _⟩
 ·rw [hv]
  clear hv
  go_enter Tryz.func207,Tryz.ntmps207
  go_wp2
  go_quiet (fail)
  go_wp2
  refine wp_loop_rounds 2 ?_
  rw [rounds_succ]
  go_wp2
  go_quiet (fail)
  go_wp2
  rw [rounds_succ]
  go_wp2
  go_ret
  exact⟨rfl,(HS.out _).out,Zaa (ZaV (World.grownBy.refl w _) _) 1 _⟩
theorem ZlW (w0 w:World) (g:Nat) (b:List Int) (v:Value) (a:Nat) (sh:Bool) (p0 p1:Int) (hg:NR w g v a sh) (hr:Row w0 .u8 v b) (hx:Ext w0 w) (hg0:w0.heap.size≤g) (hen:a+2≤b.length)
 (e0:gi b a=p0) (hb0:B8 p0) (e1:gi b (a+1)=p1) (hb1:B8 p1) :
 Calls Tryz.prog 207 #[.pointer (some ⟨g,0,none⟩),.int .i64 2,.bool false] w (NRet w g v (u2 p0 p1) ((a:Int)+2) sh):=by
 obtain⟨A,c,rfl,hc,hm,-,-,hrow⟩:=hr
 unfold maxLen at hm
 obtain⟨bb,o,rfl,hlt,hcell⟩:=hrow (by omega)
 have y0:w.cell? ⟨bb,o+a,none⟩=some (.int .u8 p0):=by rw [hx.cell (p:=⟨bb,o+a,none⟩) hlt,hcell a (by omega),e0]
 have y1:w.cell? ⟨bb,o+(a+1),none⟩=some (.int .u8 p1):=by rw [hx.cell (p:=⟨bb,o+(a+1),none⟩) hlt,hcell (a+1) (by omega),e1]
 have a1:((a:Int)+2)≤b.length:=by omega
 have o0:=ZfZ p0 hb0
 have w00:IntKind.i64.wrap 0=0:=rfl
 have wa0:IntKind.i64.wrap (a:Int)=(a:Int):=by rw [IntKind.wrap_i64];omega
 have na0:0≤(a:Int):=by omega
 have la0:(a:Int)<(b.length:Int):=by omega
 have wa1:IntKind.i64.wrap ((a:Int)+1)=((a:Int)+1):=by rw [IntKind.wrap_i64];omega
 have na1:0≤((a:Int)+1):=by omega
 have la1:((a:Int)+1)<(b.length:Int):=by omega
 have ta1:((a:Int)+1).toNat=a+1:=by omega
 have w01:IntKind.i64.wrap (p0*256)=p0*256:=by rw [IntKind.wrap_i64];unfold B8 at hb0;omega
 have o1:=ZeL p0 p1 (by unfold B8 at hb0;omega) (by unfold B8 at hb0;omega) hb1
 obtain⟨d0,d1,d2,f0,f1,f2⟩:=hg.cells
 have HS:=fun n=>Lh ((hg.drew n).setAt ((a:Int)+2))
 have HS:=Lh HS
 unfold B8 at hb0 hb1
 clear hg hcell hx hrow e0 e1
 rw [show (u2 p0 p1)=(p0*256+p1) from rfl]
 go_enter Tryz.func207,Tryz.ntmps207
 go_wp2
 go_quiet (fail)
 go_wp2
 refine wp_loop_rounds 3 ?_
 rw [rounds_succ]
 go_wp2
 go_quiet (fail)
 go_wp2
 rw [rounds_succ]
 go_wp2
 go_quiet (fail)
 go_wp2
 rw [rounds_succ]
 go_wp2
 go_ret
 exact⟨rfl,(HS.out _).out,Zaa (ZaV (World.grownBy.refl w _) _) 1 _⟩
theorem Zly (w0 w:World) (g:Nat) (b:List Int) (v:Value) (a:Nat) (sh:Bool) (p0 p1:Int) (hg:NR w g v a sh) (hr:Row w0 .u8 v b) (hx:Ext w0 w) (hg0:w0.heap.size≤g) (hen:a+2≤b.length)
 (e0:gi b a=p0) (hb0:B8 p0) (e1:gi b (a+1)=p1) (hb1:B8 p1) :
 Calls Tryz.prog 207 #[.pointer (some ⟨g,0,none⟩),.int .i64 2,.bool true] w (NRet w g v (s2 (u2 p0 p1)) ((a:Int)+2) sh):=by
 obtain⟨A,c,rfl,hc,hm,-,-,hrow⟩:=hr
 unfold maxLen at hm
 obtain⟨bb,o,rfl,hlt,hcell⟩:=hrow (by omega)
 have y0:w.cell? ⟨bb,o+a,none⟩=some (.int .u8 p0):=by rw [hx.cell (p:=⟨bb,o+a,none⟩) hlt,hcell a (by omega),e0]
 have y1:w.cell? ⟨bb,o+(a+1),none⟩=some (.int .u8 p1):=by rw [hx.cell (p:=⟨bb,o+(a+1),none⟩) hlt,hcell (a+1) (by omega),e1]
 have a1:((a:Int)+2)≤b.length:=by omega
 have o0:=ZfZ p0 hb0
 have w00:IntKind.i64.wrap 0=0:=rfl
 have wa0:IntKind.i64.wrap (a:Int)=(a:Int):=by rw [IntKind.wrap_i64];omega
 have na0:0≤(a:Int):=by omega
 have la0:(a:Int)<(b.length:Int):=by omega
 have wa1:IntKind.i64.wrap ((a:Int)+1)=((a:Int)+1):=by rw [IntKind.wrap_i64];omega
 have na1:0≤((a:Int)+1):=by omega
 have la1:((a:Int)+1)<(b.length:Int):=by omega
 have ta1:((a:Int)+1).toNat=a+1:=by omega
 have w01:IntKind.i64.wrap (p0*256)=p0*256:=by rw [IntKind.wrap_i64];unfold B8 at hb0;omega
 have o1:=ZeL p0 p1 (by unfold B8 at hb0;omega) (by unfold B8 at hb0;omega) hb1
 obtain⟨d0,d1,d2,f0,f1,f2⟩:=hg.cells
 have HS:=fun n=>Lh ((hg.drew n).setAt ((a:Int)+2))
 have HS:=Lh HS
 unfold B8 at hb0 hb1
 clear hg hcell hx hrow e0 e1
 have H:((p0*256+p1)<32768∧(s2 (u2 p0 p1))=(p0*256+p1))∨(32768≤(p0*256+p1)∧(s2 (u2 p0 p1))=(p0*256+p1)-65536):=by
  unfold s2 u2
  split <;> omega
 rcases H with⟨hlo,hv⟩ | ⟨hlo,hv⟩
 ·rw [hv]
  clear hv
  go_enter Tryz.func207,Tryz.ntmps207
  go_wp2
  go_quiet (fail)
  go_wp2
  refine wp_loop_rounds 3 ?_
  rw [rounds_succ]
  go_wp2
  go_quiet (fail)
  go_wp2
  rw [rounds_succ]
  go_wp2
  go_quiet (fail)
  go_wp2
  rw [rounds_succ]
  go_wp2
  go_ret
  exact⟨rfl,(HS.out _).out,Zaa (ZaV (World.grownBy.refl w _) _) 1 _⟩
 ·rw [hv]
  clear hv
  go_enter Tryz.func207,Tryz.ntmps207
  go_wp2
  go_quiet (fail)
  go_wp2
  refine wp_loop_rounds 3 ?_
  rw [rounds_succ]
  go_wp2
  go_quiet (fail)
  go_wp2
  rw [rounds_succ]
  go_wp2
  go_quiet (fail)
  go_wp2
  rw [rounds_succ]
  go_wp2
  go_ret
  exact⟨rfl,(HS.out _).out,Zaa (ZaV (World.grownBy.refl w _) _) 1 _⟩
theorem Zl8 (w0 w:World) (g:Nat) (b:List Int) (v:Value) (a:Nat) (sh:Bool) (p0 p1 p2 p3:Int) (hg:NR w g v a sh) (hr:Row w0 .u8 v b) (hx:Ext w0 w) (hg0:w0.heap.size≤g) (hen:a+4≤b.length)
 (e0:gi b a=p0) (hb0:B8 p0) (e1:gi b (a+1)=p1) (hb1:B8 p1) (e2:gi b (a+2)=p2) (hb2:B8 p2) (e3:gi b (a+3)=p3) (hb3:B8 p3) :
 Calls Tryz.prog 207 #[.pointer (some ⟨g,0,none⟩),.int .i64 4,.bool true] w (NRet w g v (s4 (u4 p0 p1 p2 p3)) ((a:Int)+4) sh):=by
 obtain⟨A,c,rfl,hc,hm,-,-,hrow⟩:=hr
 unfold maxLen at hm
 obtain⟨bb,o,rfl,hlt,hcell⟩:=hrow (by omega)
 have y0:w.cell? ⟨bb,o+a,none⟩=some (.int .u8 p0):=by rw [hx.cell (p:=⟨bb,o+a,none⟩) hlt,hcell a (by omega),e0]
 have y1:w.cell? ⟨bb,o+(a+1),none⟩=some (.int .u8 p1):=by rw [hx.cell (p:=⟨bb,o+(a+1),none⟩) hlt,hcell (a+1) (by omega),e1]
 have y2:w.cell? ⟨bb,o+(a+2),none⟩=some (.int .u8 p2):=by rw [hx.cell (p:=⟨bb,o+(a+2),none⟩) hlt,hcell (a+2) (by omega),e2]
 have y3:w.cell? ⟨bb,o+(a+3),none⟩=some (.int .u8 p3):=by rw [hx.cell (p:=⟨bb,o+(a+3),none⟩) hlt,hcell (a+3) (by omega),e3]
 have a1:((a:Int)+4)≤b.length:=by omega
 have o0:=ZfZ p0 hb0
 have w00:IntKind.i64.wrap 0=0:=rfl
 have wa0:IntKind.i64.wrap (a:Int)=(a:Int):=by rw [IntKind.wrap_i64];omega
 have na0:0≤(a:Int):=by omega
 have la0:(a:Int)<(b.length:Int):=by omega
 have wa1:IntKind.i64.wrap ((a:Int)+1)=((a:Int)+1):=by rw [IntKind.wrap_i64];omega
 have na1:0≤((a:Int)+1):=by omega
 have la1:((a:Int)+1)<(b.length:Int):=by omega
 have ta1:((a:Int)+1).toNat=a+1:=by omega
 have wa2:IntKind.i64.wrap ((a:Int)+2)=((a:Int)+2):=by rw [IntKind.wrap_i64];omega
 have na2:0≤((a:Int)+2):=by omega
 have la2:((a:Int)+2)<(b.length:Int):=by omega
 have ta2:((a:Int)+2).toNat=a+2:=by omega
 have wa3:IntKind.i64.wrap ((a:Int)+3)=((a:Int)+3):=by rw [IntKind.wrap_i64];omega
 have na3:0≤((a:Int)+3):=by omega
 have la3:((a:Int)+3)<(b.length:Int):=by omega
 have ta3:((a:Int)+3).toNat=a+3:=by omega
 have w01:IntKind.i64.wrap (p0*256)=p0*256:=by rw [IntKind.wrap_i64];unfold B8 at hb0;omega
 have w02:IntKind.i64.wrap ((p0*256+p1)*256)=(p0*256+p1)*256:=by rw [IntKind.wrap_i64];unfold B8 at hb0 hb1;omega
 have w03:IntKind.i64.wrap (((p0*256+p1)*256+p2)*256)=((p0*256+p1)*256+p2)*256:=by rw [IntKind.wrap_i64];unfold B8 at hb0 hb1 hb2;omega
 have o1:=ZeL p0 p1 (by unfold B8 at hb0;omega) (by unfold B8 at hb0;omega) hb1
 have o2:=ZeL (p0*256+p1) p2 (by unfold B8 at hb0 hb1;omega) (by unfold B8 at hb0 hb1;omega) hb2
 have o3:=ZeL ((p0*256+p1)*256+p2) p3 (by unfold B8 at hb0 hb1 hb2;omega) (by unfold B8 at hb0 hb1 hb2;omega) hb3
 obtain⟨d0,d1,d2,f0,f1,f2⟩:=hg.cells
 have HS:=fun n=>Lh ((hg.drew n).setAt ((a:Int)+4))
 have HS:=Lh HS
 unfold B8 at hb0 hb1 hb2 hb3
 clear hg hcell hx hrow e0 e1 e2 e3
 have H:((((p0*256+p1)*256+p2)*256+p3)<2147483648∧(s4 (u4 p0 p1 p2 p3))=(((p0*256+p1)*256+p2)*256+p3))∨(2147483648≤(((p0*256+p1)*256+p2)*256+p3)∧(s4 (u4 p0 p1 p2 p3))=(((p0*256+p1)*256+p2)*256+p3)-4294967296):=by
  unfold s4 u4
  split <;> omega
 rcases H with⟨hlo,hv⟩ | ⟨hlo,hv⟩
 ·rw [hv]
  clear hv
  go_enter Tryz.func207,Tryz.ntmps207
  go_wp2
  go_quiet (fail)
  go_wp2
  refine wp_loop_rounds 5 ?_
  rw [rounds_succ]
  go_wp2
  go_quiet (fail)
  go_wp2
  rw [rounds_succ]
  go_wp2
  go_quiet (fail)
  go_wp2
  rw [rounds_succ]
  go_wp2
  go_quiet (fail)
  go_wp2
  rw [rounds_succ]
  go_wp2
  go_quiet (fail)
  go_wp2
  rw [rounds_succ]
  go_wp2
  go_ret
  exact⟨rfl,(HS.out _).out,Zaa (ZaV (World.grownBy.refl w _) _) 1 _⟩
 ·rw [hv]
  clear hv
  go_enter Tryz.func207,Tryz.ntmps207
  go_wp2
  go_quiet (fail)
  go_wp2
  refine wp_loop_rounds 5 ?_
  rw [rounds_succ]
  go_wp2
  go_quiet (fail)
  go_wp2
  rw [rounds_succ]
  go_wp2
  go_quiet (fail)
  go_wp2
  rw [rounds_succ]
  go_wp2
  go_quiet (fail)
  go_wp2
  rw [rounds_succ]
  go_wp2
  go_quiet (fail)
  go_wp2
  rw [rounds_succ]
  go_wp2
  go_ret
  exact⟨rfl,(HS.out _).out,Zaa (ZaV (World.grownBy.refl w _) _) 1 _⟩
theorem ZoJ (d wy:Int) (w:World) (h0:0≤d) (h1:d≤255) (hw:wy=1∨wy=2∨wy=3∨wy=4) :
 Calls Tryz.prog 190 #[.int .u8 d,.int .i64 wy] w fun e w'=>e=.returned (.int .i64 (ab wy d))∧w=w':=by
 rcases hw with rfl | rfl | rfl | rfl
 all_goals
  go_enter Tryz.func190,Tryz.ntmps190
  go_wp2
  go_ret
  refine⟨congrArg (fun x:Int=>Ending.returned (.int .i64 x)) ?_,rfl⟩
  simp [ab]
  try omega
def Zb7 (w:World) (r:Int × List Int × Int) (v:Value) (w':World):Prop:=∃ b,v=.tuple #[.int .i64 r.1,b,.int .i64 r.2.2]∧Own w.heap.size w' 5 .u8 b r.2.1
theorem Zsi (acc:Int) {l:List Int} {k:Nat} (h:k<l.length):bf acc (l.take (k+1))=IntKind.i64.wrap (bf acc (l.take k)*256+gi l k):=by
 rw [List.take_succ_eq_append_getElem h]
 unfold bf
 rw [List.foldl_append]
 simp [gi,h]
theorem ZfU (v:Value) (l:List Int) (size most wy:Int) (w:World) (h:Row w .u8 v l) (hr:l.length≤140737488355328) (hsl:-9223372036854775808≤size) (hsh:size≤9223372036854775807) (hm:most=7∨most=8) (hw:wy=1∨wy=2∨wy=3∨wy=4) :
 Calls Tryz.prog 286 #[v,.int .i64 size,.int .i64 most,.int .i64 wy] w (Ret w (Zb7 w (tB most wy l size))):=by
 by_cases h1:size<1∨most<size
 ·have e:tB most wy l size=(0,[],2):=by unfold tB;rw [if_pos h1]
  rw [e]
  clear e
  by_cases h0:size<1
  ·go_enter Tryz.func286,Tryz.ntmps286
   go_wp2_with fail
   refine ZaO 0 (fun _ _=>False) (fun _ _=>0) rfl (fun _ _ h=>h.elim) ?_
   intro key
   clear key
   go_wp2
   simp only [Exit.jump]
   go_ret3
   exact Ret.mk ⟨_,rfl,Own.nil _ _ _ _⟩ (Ext.refl _)
  ·have h2:most<size:=by omega
   clear h1
   go_enter Tryz.func286,Tryz.ntmps286
   go_wp2_with fail
   refine ZaO 0 (fun _ _=>False) (fun _ _=>0) rfl (fun _ _ h=>h.elim) ?_
   intro key
   clear key
   go_wp2
   simp only [Exit.jump]
   go_ret3
   exact Ret.mk ⟨_,rfl,Own.nil _ _ _ _⟩ (Ext.refl _)
 ·obtain⟨s,rfl⟩:∃ s:Nat,size=(s:Int):=⟨size.toNat,by omega⟩
  have hs1:1≤s:=by omega
  have hs2:(s:Int)≤most:=by omega
  by_cases h2:l.length<s
  ·have e:tB most wy l s=(0,[],3):=by unfold tB;rw [if_neg h1,if_pos (by omega)]
   rw [e]
   clear e h1
   obtain⟨A,c,rfl,g2,g3,g4,g5,g6⟩:=h
   clear g6 g4
   go_enter Tryz.func286,Tryz.ntmps286
   go_wp2_with fail
   refine ZaO 0 (fun _ _=>False) (fun _ _=>0) rfl (fun _ _ h=>h.elim) ?_
   intro key
   clear key
   go_wp2
   simp only [Exit.jump]
   go_ret3
   exact Ret.mk ⟨_,rfl,Own.nil _ _ _ _⟩ (Ext.refl _)
  ·have e:tB most wy l s=(bf (ab wy (gi l 0)) (l.take s),l.drop s,0):=by unfold tB;rw [if_neg h1,if_neg (by omega),Int.toNat_natCast]
   rw [e]
   clear e h1
   have hrow:=h
   obtain⟨A,c,rfl,g2,g3,g4,g5,g6⟩:=h
   unfold maxLen at g3
   obtain⟨b,o,rfl,hb,hx⟩:=g6 (by omega)
   have h0:=hx 0 (by omega)
   rw [Nat.add_zero] at h0
   have hf0:=g5.u8 (Zbb (l:=l) (j:=0) (by omega))
   have HX:=Lh hx
   have hsl:s≤l.length:=by omega
   have htail:=hrow.tail s hsl
   clear g6 g4 hx
   go_enter Tryz.func286,Tryz.ntmps286
   go_wp2_with fail
   refine ZaO 0 (fun a' w'=>∃ (k:Nat) (x:Int) (u13 u14 u15 u16 u17 u18 u19 u20 u21 u22 u23 u24 u25 u26 u27 u28 u29 u30 u31 u32 u33 u34 u35 u36 u37 u38 u39 u40 u41 u42 u43 u44 u45 u46:Value),a'={ tmps:=#[.slice (some ⟨b,o,none⟩) l.length c,.int .i64 s,.int .i64 most,.int .i64 wy,undef,undef,undef,undef,.int .i64 0,.slice none 0 0,.int .i64 0,.int .i64 x,.int .i64 k,u13,u14,u15,u16,u17,u18,u19,u20,u21,u22,u23,u24,u25,u26,u27,u28,u29,u30,u31,u32,u33,u34,u35,u36,u37,u38,u39,u40,u41,u42,u43,u44,u45,u46],defers:=[] }∧w=w'∧k<s∧Hid (x=bf (ab wy (gi l 0)) (l.take k))) (fun a' _=>10-(intOf (a'.tmps.getD 12 undef)).toNat) rfl ?_ ?_
   ·rintro a' w' ⟨k,x,u13,u14,u15,u16,u17,u18,u19,u20,u21,u22,u23,u24,u25,u26,u27,u28,u29,u30,u31,u32,u33,u34,u35,u36,u37,u38,u39,u40,u41,u42,u43,u44,u45,u46,rfl,rfl,hk,HO⟩
    have hy:=HX.out k (by omega)
    have hf:=g5.u8 (Zbb (l:=l) (j:=k) (by omega))
    have hsh:=Zns x (gi l k) (by omega) (by omega)
    have HN:Hid (wrap64 (x*256+gi l k)=bf (ab wy (gi l 0)) (l.take (k+1))):=by
     rw [Hid,Zsi _ (by omega),← HO.out,IntWalk.i64_left]
    rw [IntWalk.i64_left] at hsh
    clear h0 hf0
    by_cases hk1:k+1<s
    ·go_wp2
     go_step3
     refine⟨rfl,⟨k+1,_,_,_,_,_,_,_,_,_,_,_,_,_,_,_,_,_,_,_,_,_,_,_,_,_,_,_,_,_,_,_,_,_,_,_,by go_num,rfl,hk1,HN⟩,by simp [intOf];omega⟩
    ·have hks:k+1=s:=by omega
     have HKS:=Lh hks
     clear hks
     by_cases hcc:c=s
     ·have hll:l.drop s=[]:=List.drop_eq_nil_iff.2 (by omega)
      have HLL:=Lh hll
      subst hcc
      clear hll htail
      go_wp2_with (first
       | (go_at_call 144;refine(ZcI _ [] _ (by exact Row.zero _ _ _ (by omega) (by simp [maxLen])) (by simp)).mono ?_;rintro e w2 ⟨v2,rfl,ho2,he2⟩))
      simp only [Exit.jump]
      go_ret3
      refine Ret.mk ⟨_,congrArg (fun z:Int=>Value.tuple #[.int .i64 z,_,_]) ?_,?_⟩ he2
      ·rw [← HKS.out]
       exact HN.out
      ·rw [HLL.out]
       exact ho2
     ·go_wp2_with (first
       | (go_at_call 144;refine(ZcI _ (l.drop s) _ (by exact htail) (by simp;omega)).mono ?_;rintro e w2 ⟨v2,rfl,ho2,he2⟩))
      simp only [Exit.jump]
      go_ret3
      refine Ret.mk ⟨_,congrArg (fun z:Int=>Value.tuple #[.int .i64 z,_,_]) ?_,?_⟩ he2
      ·rw [← HKS.out]
       exact HN.out
      ·exact ho2
   ·intro key
    go_wp2_with (go_at_call 190;refine(ZoJ _ _ _ (by omega) (by omega) hw).mono ?_;rintro e w1 ⟨rfl,rfl⟩)
    rename_i K hK
    go_step3
    exact hK _ _ (key _ _ ⟨0,_,_,_,_,_,_,_,_,_,_,_,_,_,_,_,_,_,_,_,_,_,_,_,_,_,_,_,_,_,_,_,_,_,_,_,rfl,rfl,by omega,rfl⟩)
theorem Zkh (v:Value) (l:List Int) (size:Int) (w:World) (h:Row w .u8 v l) (hr:l.length≤140737488355328) (hsl:-9223372036854775808≤size) (hsh:size≤9223372036854775807) :
 Calls Tryz.prog 281 #[v,.int .i64 size] w (Ret w (Zb7 w (tB 7 3 l size))):=by
 go_enter Tryz.func281,Tryz.ntmps281
 go_wp2_with (first
  | (go_at_call 286;refine(ZfU _ l size 7 3 _ h hr hsl hsh (by omega) (by omega)).mono ?_;rintro e w1 ⟨v1,rfl,⟨b1,rfl,ho1⟩,he1⟩))
 go_ret3
 exact Ret.mk ⟨_,rfl,ho1⟩ he1
theorem Zjc (v:Value) (l:List Int) (size:Int) (w:World) (h:Row w .u8 v l) (hr:l.length≤140737488355328) (hsl:-9223372036854775808≤size) (hsh:size≤9223372036854775807) :
 Calls Tryz.prog 283 #[v,.int .i64 size] w (Ret w (Zb7 w (tB 8 4 l size))):=by
 go_enter Tryz.func283,Tryz.ntmps283
 go_wp2_with (first
  | (go_at_call 286;refine(ZfU _ l size 8 4 _ h hr hsl hsh (by omega) (by omega)).mono ?_;rintro e w1 ⟨v1,rfl,⟨b1,rfl,ho1⟩,he1⟩))
 go_ret3
 exact Ret.mk ⟨_,rfl,ho1⟩ he1
def PR (w:World) (g:Nat) (v:Value) (a:Int) (en:Bool):Prop:=w.heap[g]?=some (.cells #[v,.int .i64 a,.bool en] 269 (0,0))
section
variable {w w' : World} {g : Nat} {v : Value} {a : Int} {en : Bool}
theorem PR.lt (h:PR w g v a en):g<w.heap.size:=Zab h
theorem PR.cells (h:PR w g v a en):w.cell? ⟨g,0,none⟩=some v∧w.cell? ⟨g,1,none⟩=some (.int .i64 a)∧w.cell? ⟨g,2,none⟩=some (.bool en)∧w.frozen? ⟨g,0,none⟩=false∧w.frozen? ⟨g,1,none⟩=false∧w.frozen? ⟨g,2,none⟩=false :=
 ⟨by rw [cell_of_row w g 0 _ _ (0,0) h];rfl,by rw [cell_of_row w g 1 _ _ (0,0) h];rfl,by rw [cell_of_row w g 2 _ _ (0,0) h];rfl,by simp [World.frozen?,show w.heap[g]?=_ from h],by simp [World.frozen?,show w.heap[g]?=_ from h],by simp [World.frozen?,show w.heap[g]?=_ from h]⟩
theorem PR.drew (h:PR w g v a en) (n:Nat):PR (w.drewN n) g v a en:=h
theorem PR.setRow (h:PR w g v a en) (u:Value):PR (w.setCell ⟨g,0,none⟩ u) g u a en:=by
 have h1:=heap_setCell_same w g 0 _ 269 u h
 unfold PR
 rw [h1]
 rfl
theorem PR.setEnded (h:PR w g v a en) (c:Bool):PR (w.setCell ⟨g,2,none⟩ (.bool c)) g v a c:=by
 have h1:=heap_setCell_same w g 2 _ 269 (.bool c) h
 unfold PR
 rw [h1]
 rfl
theorem PR.ext (h:PR w g v a en) (he:Ext w w'):PR w' g v a en:=(he.block g (Zab h)).trans h
end
theorem Ext.grow {w w':World} (h:Ext w w') (r:Option Nat):w.grownBy w' r:=⟨h.os,h.tape,h.output,h.size,fun i hi _=>h.block i hi⟩
theorem Zf7 {a b c:World} {g:Nat} (h:a.grownBy b (some g)) (k:b.grownBy c (some g)):a.grownBy c (some g) :=
 ⟨k.os.trans h.os,k.tape.trans h.tape,k.output.trans h.output,Nat.le_trans h.size k.size,fun i hi hne=>(k.block i (Nat.lt_of_lt_of_le hi h.size) hne).trans (h.block i hi hne)⟩
theorem Za9 {w:World} {v:Value} {l:List Int} (h:Row w .u8 v l):∀ c∈l,B8 c:=fun c hc=>h.fit.u8 hc
theorem Zqx {s:Nat} {sg:Bool} {l:List Int} (hs:Siz s sg) (hb:∀ c∈l,B8 c):-2147483648≤pk s sg l∧pk s sg l≤2147483647:=by
 rcases hs with⟨rfl,rfl⟩ | ⟨rfl,rfl⟩ | ⟨rfl,rfl⟩ | ⟨rfl,rfl⟩ | ⟨rfl,rfl⟩
 ·match l with
  | []=>simp [pk]
  | p :: l=>have:=hb p (by simp);unfold B8 at this;simp [pk];omega
 ·match l with
  | []=>simp [pk]
  | p :: l=>have:=Zub (hb p (by simp));simp [pk];omega
 ·match l with
  | []=>simp [pk]
  | [_]=>simp [pk]
  | p :: q :: l=>have:=Zn7 (hb p (by simp)) (hb q (by simp));simp [pk];omega
 ·match l with
  | []=>simp [pk]
  | [_]=>simp [pk]
  | p :: q :: l=>have:=ZtM (hb p (by simp)) (hb q (by simp));simp [pk];omega
 ·match l with
  | []=>simp [pk]
  | [_]=>simp [pk]
  | [_,_]=>simp [pk]
  | [_,_,_]=>simp [pk]
  | b :: c :: d :: e :: l=>have:=Zud (hb b (by simp)) (hb c (by simp)) (hb d (by simp)) (hb e (by simp));simp [pk];omega
theorem ZnA {s:Nat} {sg:Bool} {l:List Int} (hs:Siz s sg):pk s sg (l.take 4)=pk s sg l:=by
 rcases hs with⟨rfl,rfl⟩ | ⟨rfl,rfl⟩ | ⟨rfl,rfl⟩ | ⟨rfl,rfl⟩ | ⟨rfl,rfl⟩
 ·match l with
  | []=>rfl
  | p :: l=>rfl
 ·match l with
  | []=>rfl
  | p :: l=>rfl
 ·match l with
  | []=>rfl
  | [_]=>rfl
  | p :: q :: l=>rfl
 ·match l with
  | []=>rfl
  | [_]=>rfl
  | p :: q :: l=>rfl
 ·match l with
  | []=>rfl
  | [_]=>rfl
  | [_,_]=>rfl
  | [_,_,_]=>rfl
  | b :: c :: d :: e :: l=>rfl
def PRet (w0 w:World) (g:Nat) (a:Int) (r:Int × List Int × Bool) (e:Ending) (w':World):Prop :=
 e=.returned (.int .i64 r.1)∧(∃ v',PR w' g v' a r.2.2∧Row w0 .u8 v' r.2.1)∧w.grownBy w' (some g)
theorem Zgl (v:Value) (l:List Int) (c:Nat) (s:Nat) (w:World) (h:Row w .u8 v l) (hl:l.length≤4) (hc:w.cell? ⟨c,0,none⟩=some (.int .i64 s)) (hs:s≤4) :
 Calls Tryz.prog 280 #[v,.pointer (some ⟨c,0,none⟩)] w (Ret w (Zb7 w (tBs false l s))):=by
 go_enter Tryz.func280,Tryz.ntmps280
 go_wp2_with (first
  | (go_at_call 281;refine(Zkh _ l s _ h (by omega) (by omega) (by omega)).mono ?_;rintro e w1 ⟨v1,rfl,⟨b1,rfl,ho1⟩,he1⟩))
 go_ret3
 exact Ret.mk ⟨_,rfl,ho1⟩ he1
theorem ZlX (w0 w:World) (g c:Nat) (l:List Int) (v:Value) (a:Int) (en:Bool) (s:Nat) (hg:PR w g v a en) (hr:Row w0 .u8 v l) (hx:Ext w0 w) (hg0:w0.heap.size≤g)
 (hc:w.cell? ⟨c,0,none⟩=some (.int .i64 s)) (hs:Siz s false) :
 Calls Tryz.prog 279 #[.pointer (some ⟨g,0,none⟩),.func (.func 280) #[] #[.pointer (some ⟨c,0,none⟩)]] w (PRet w0 w g a (rdN true s false (l,en))):=by
 have hb:=Za9 hr
 have hs4:=hs.le
 have hclt:c<w.heap.size:=World.block_lt_of_cell? w ⟨c,0,none⟩ hc
 have hv:=hr
 obtain⟨A,k,rfl,hk1,hk2,hk3,hk4,hk5⟩:=hr
 obtain⟨d0,d1,d2,f0,f1,f2⟩:=hg.cells
 clear hk3 hk4
 unfold maxLen at hk2
 have HG:=Lh hg
 clear hg
 by_cases hsh:l.length<s
 ·clear hk5
  have HR:=Lh (Zax (st:=true) (sg:=false) en hsh)
  have ht:tBs false l s=(0,[],3):=Zi2 hs4.1 hs4.2 hsh
  have hw:∀ W,Ext w W→Calls Tryz.prog 280 #[(.slice A l.length k),.pointer (some ⟨c,0,none⟩)] W (Ret W (Zb7 W (0,[],3))):=fun W e=>by
   have h:=Zgl (.slice A l.length k) (l) c s W (hv.ext (hx.trans e)) (by omega) ((e.cell (p:=⟨c,0,none⟩) hclt).trans hc) (by omega)
   rw [ht] at h
   exact h
  have HW:=Lh hw
  clear hw ht
  go_enter Tryz.func279,Tryz.ntmps279
  go_wp2
  go_region
  all_goals go_wp2_with (go_at_call 280;refine(HW.out _ ((Ext.refl _).drewN _)).mono ?_;rintro e w1 ⟨v1,rfl,⟨b1,rfl,ho1⟩,he1⟩;obtain⟨A2,k2,rfl,-⟩:=ho1.row;have x1:=((Ext.refl w).drewN _).trans he1;have h1:=Lh (HG.out.ext x1);obtain⟨y0,y1,y2,z0,z1,z2⟩:=h1.out.cells)
  all_goals
   go_ret
   rw [HR.out]
   exact⟨rfl,⟨_,h1.out.setEnded true,hv⟩,Zaa (x1.grow _) 2 _⟩
 ·have hne:s≤l.length:=by omega
  obtain⟨b,o,rfl,-⟩:=hk5 (by omega)
  obtain⟨u,hu1,hu2,hu3⟩:=ZbT hv s hne
  obtain⟨Au,ku,rfl,-⟩:=id hu3
  obtain⟨n,hn⟩:∃ n,(l.drop s).length=n:=⟨_,rfl⟩
  rw [hn] at hu1 hu2 hu3
  have hln:l.length=n+s:=by rw [List.length_drop] at hn;omega
  clear hk5
  have HN:=Lh hn
  clear hn
  by_cases h4:l.length<4
  ·have hd:(l.length:Int)-(n:Int)=s:=by omega
   have ht:tBs false l s=(pk s false l,l.drop s,0):=ZkT hs hb hne
   have hw:∀ W,Ext w W→Calls Tryz.prog 280 #[(.slice (some ⟨b,o,none⟩) l.length k),.pointer (some ⟨c,0,none⟩)] W (Ret W (Zb7 W (pk s false l,l.drop s,0))):=fun W e=>by
    have h:=Zgl (.slice (some ⟨b,o,none⟩) l.length k) (l) c s W (hv.ext (hx.trans e)) (by omega) ((e.cell (p:=⟨c,0,none⟩) hclt).trans hc) (by omega)
    rw [ht] at h
    exact h
   have HW:=Lh hw
   clear hw ht
   have HLN:=Lh hln
   clear hln
   cases en
   ·have HR:=Lh (Zbc (st:=true) (sg:=false) hne)
    go_enter Tryz.func279,Tryz.ntmps279
    go_wp2
    go_region
    all_goals go_wp2_with (go_at_call 280;refine(HW.out _ ((Ext.refl _).drewN _)).mono ?_;rintro e w1 ⟨v1,rfl,⟨b1,rfl,ho1⟩,he1⟩;obtain⟨A2,k2,hq,-⟩:=ho1.row;rw [HN.out] at hq;subst hq;have x1:=((Ext.refl w).drewN _).trans he1;have h1:=Lh (HG.out.ext x1);obtain⟨y0,y1,y2,z0,z1,z2⟩:=h1.out.cells)
    all_goals
     go_ret
     rw [HR.out]
     exact⟨rfl,⟨_,h1.out.setRow _,hu3⟩,Zaa (x1.grow _) 0 _⟩
   ·have HR:Hid (rdN true s false (l,true)=(0,l,true)):=Lh (by unfold rdN;rw [if_pos (.inl ⟨rfl,rfl⟩)])
    go_enter Tryz.func279,Tryz.ntmps279
    go_wp2
    go_region
    all_goals go_wp2_with (go_at_call 280;refine(HW.out _ ((Ext.refl _).drewN _)).mono ?_;rintro e w1 ⟨v1,rfl,⟨b1,rfl,ho1⟩,he1⟩;obtain⟨A2,k2,hq,-⟩:=ho1.row;rw [HN.out] at hq;subst hq;have x1:=((Ext.refl w).drewN _).trans he1;have h1:=Lh (HG.out.ext x1);obtain⟨y0,y1,y2,z0,z1,z2⟩:=h1.out.cells)
    all_goals
     go_ret
     rw [HR.out]
     exact⟨rfl,⟨_,h1.out,hv⟩,x1.grow _⟩
  ·obtain⟨m,hm⟩:∃ m,((l.take 4).drop s).length=m:=⟨_,rfl⟩
   have hd:(4:Int)-(m:Int)=s:=by
    rw [List.length_drop,List.length_take] at hm
    omega
   have hv4:=Row.head hv 4 (by omega)
   have hpk:=ZnA (l:=l) hs
   have ht:tBs false (l.take 4) s=(pk s false l,(l.take 4).drop s,0):=by
    rw [← hpk]
    exact ZkT hs (fun c hc=>hb c (List.mem_of_mem_take hc)) (by rw [List.length_take];omega)
   have h40:¬ (l.length:Int)<4:=by omega
   have h41:4≤l.length:=by omega
   clear hpk
   have hw:∀ W,Ext w W→Calls Tryz.prog 280 #[(.slice (some ⟨b,o,none⟩) 4 k),.pointer (some ⟨c,0,none⟩)] W (Ret W (Zb7 W (pk s false l,(l.take 4).drop s,0))):=fun W e=>by
    have h:=Zgl (.slice (some ⟨b,o,none⟩) 4 k) ((l.take 4)) c s W (hv4.ext (hx.trans e)) (by rw [List.length_take];omega) ((e.cell (p:=⟨c,0,none⟩) hclt).trans hc) (by omega)
    rw [ht] at h
    exact h
   have HW:=Lh hw
   clear hw ht
   have HM:=Lh hm
   have HLN:=Lh hln
   clear hm hln
   cases en
   ·have HR:=Lh (Zbc (st:=true) (sg:=false) hne)
    go_enter Tryz.func279,Tryz.ntmps279
    go_wp2
    go_region
    all_goals go_wp2_with (go_at_call 280;refine(HW.out _ ((Ext.refl _).drewN _)).mono ?_;rintro e w1 ⟨v1,rfl,⟨b1,rfl,ho1⟩,he1⟩;obtain⟨A2,k2,hq,-⟩:=ho1.row;rw [HM.out] at hq;subst hq;have x1:=((Ext.refl w).drewN _).trans he1;have h1:=Lh (HG.out.ext x1);obtain⟨y0,y1,y2,z0,z1,z2⟩:=h1.out.cells)
    all_goals
     go_ret
     rw [HR.out]
     exact⟨rfl,⟨_,h1.out.setRow _,hu3⟩,Zaa (x1.grow _) 0 _⟩
   ·have HR:Hid (rdN true s false (l,true)=(0,l,true)):=Lh (by unfold rdN;rw [if_pos (.inl ⟨rfl,rfl⟩)])
    go_enter Tryz.func279,Tryz.ntmps279
    go_wp2
    go_region
    all_goals go_wp2_with (go_at_call 280;refine(HW.out _ ((Ext.refl _).drewN _)).mono ?_;rintro e w1 ⟨v1,rfl,⟨b1,rfl,ho1⟩,he1⟩;obtain⟨A2,k2,hq,-⟩:=ho1.row;rw [HM.out] at hq;subst hq;have x1:=((Ext.refl w).drewN _).trans he1;have h1:=Lh (HG.out.ext x1);obtain⟨y0,y1,y2,z0,z1,z2⟩:=h1.out.cells)
    all_goals
     go_ret
     rw [HR.out]
     exact⟨rfl,⟨_,h1.out,hv⟩,x1.grow _⟩
theorem Ze4 (v:Value) (l:List Int) (c:Nat) (s:Nat) (w:World) (h:Row w .u8 v l) (hl:l.length≤4) (hc:w.cell? ⟨c,0,none⟩=some (.int .i64 s)) (hs:s≤4) :
 Calls Tryz.prog 282 #[v,.pointer (some ⟨c,0,none⟩)] w (Ret w (Zb7 w (tBs true l s))):=by
 go_enter Tryz.func282,Tryz.ntmps282
 go_wp2_with (first
  | (go_at_call 283;refine(Zjc _ l s _ h (by omega) (by omega) (by omega)).mono ?_;rintro e w1 ⟨v1,rfl,⟨b1,rfl,ho1⟩,he1⟩))
 go_ret3
 exact Ret.mk ⟨_,rfl,ho1⟩ he1
theorem ZjM (w0 w:World) (g c:Nat) (l:List Int) (v:Value) (a:Int) (en:Bool) (s:Nat) (hg:PR w g v a en) (hr:Row w0 .u8 v l) (hx:Ext w0 w) (hg0:w0.heap.size≤g)
 (hc:w.cell? ⟨c,0,none⟩=some (.int .i64 s)) (hs:Siz s true) :
 Calls Tryz.prog 279 #[.pointer (some ⟨g,0,none⟩),.func (.func 282) #[] #[.pointer (some ⟨c,0,none⟩)]] w (PRet w0 w g a (rdN true s true (l,en))):=by
 have hb:=Za9 hr
 have hs4:=hs.le
 have hclt:c<w.heap.size:=World.block_lt_of_cell? w ⟨c,0,none⟩ hc
 have hv:=hr
 obtain⟨A,k,rfl,hk1,hk2,hk3,hk4,hk5⟩:=hr
 obtain⟨d0,d1,d2,f0,f1,f2⟩:=hg.cells
 clear hk3 hk4
 unfold maxLen at hk2
 have HG:=Lh hg
 clear hg
 by_cases hsh:l.length<s
 ·clear hk5
  have HR:=Lh (Zax (st:=true) (sg:=true) en hsh)
  have ht:tBs true l s=(0,[],3):=Zi2 hs4.1 hs4.2 hsh
  have hw:∀ W,Ext w W→Calls Tryz.prog 282 #[(.slice A l.length k),.pointer (some ⟨c,0,none⟩)] W (Ret W (Zb7 W (0,[],3))):=fun W e=>by
   have h:=Ze4 (.slice A l.length k) (l) c s W (hv.ext (hx.trans e)) (by omega) ((e.cell (p:=⟨c,0,none⟩) hclt).trans hc) (by omega)
   rw [ht] at h
   exact h
  have HW:=Lh hw
  clear hw ht
  go_enter Tryz.func279,Tryz.ntmps279
  go_wp2
  go_region
  all_goals go_wp2_with (go_at_call 282;refine(HW.out _ ((Ext.refl _).drewN _)).mono ?_;rintro e w1 ⟨v1,rfl,⟨b1,rfl,ho1⟩,he1⟩;obtain⟨A2,k2,rfl,-⟩:=ho1.row;have x1:=((Ext.refl w).drewN _).trans he1;have h1:=Lh (HG.out.ext x1);obtain⟨y0,y1,y2,z0,z1,z2⟩:=h1.out.cells)
  all_goals
   go_ret
   rw [HR.out]
   exact⟨rfl,⟨_,h1.out.setEnded true,hv⟩,Zaa (x1.grow _) 2 _⟩
 ·have hne:s≤l.length:=by omega
  obtain⟨b,o,rfl,-⟩:=hk5 (by omega)
  obtain⟨u,hu1,hu2,hu3⟩:=ZbT hv s hne
  obtain⟨Au,ku,rfl,-⟩:=id hu3
  obtain⟨n,hn⟩:∃ n,(l.drop s).length=n:=⟨_,rfl⟩
  rw [hn] at hu1 hu2 hu3
  have hln:l.length=n+s:=by rw [List.length_drop] at hn;omega
  clear hk5
  have HN:=Lh hn
  clear hn
  by_cases h4:l.length<4
  ·have hd:(l.length:Int)-(n:Int)=s:=by omega
   have ht:tBs true l s=(pk s true l,l.drop s,0):=ZkT hs hb hne
   have hw:∀ W,Ext w W→Calls Tryz.prog 282 #[(.slice (some ⟨b,o,none⟩) l.length k),.pointer (some ⟨c,0,none⟩)] W (Ret W (Zb7 W (pk s true l,l.drop s,0))):=fun W e=>by
    have h:=Ze4 (.slice (some ⟨b,o,none⟩) l.length k) (l) c s W (hv.ext (hx.trans e)) (by omega) ((e.cell (p:=⟨c,0,none⟩) hclt).trans hc) (by omega)
    rw [ht] at h
    exact h
   have HW:=Lh hw
   clear hw ht
   have HLN:=Lh hln
   clear hln
   cases en
   ·have HR:=Lh (Zbc (st:=true) (sg:=true) hne)
    go_enter Tryz.func279,Tryz.ntmps279
    go_wp2
    go_region
    all_goals go_wp2_with (go_at_call 282;refine(HW.out _ ((Ext.refl _).drewN _)).mono ?_;rintro e w1 ⟨v1,rfl,⟨b1,rfl,ho1⟩,he1⟩;obtain⟨A2,k2,hq,-⟩:=ho1.row;rw [HN.out] at hq;subst hq;have x1:=((Ext.refl w).drewN _).trans he1;have h1:=Lh (HG.out.ext x1);obtain⟨y0,y1,y2,z0,z1,z2⟩:=h1.out.cells)
    all_goals
     go_ret
     rw [HR.out]
     exact⟨rfl,⟨_,h1.out.setRow _,hu3⟩,Zaa (x1.grow _) 0 _⟩
   ·have HR:Hid (rdN true s true (l,true)=(0,l,true)):=Lh (by unfold rdN;rw [if_pos (.inl ⟨rfl,rfl⟩)])
    go_enter Tryz.func279,Tryz.ntmps279
    go_wp2
    go_region
    all_goals go_wp2_with (go_at_call 282;refine(HW.out _ ((Ext.refl _).drewN _)).mono ?_;rintro e w1 ⟨v1,rfl,⟨b1,rfl,ho1⟩,he1⟩;obtain⟨A2,k2,hq,-⟩:=ho1.row;rw [HN.out] at hq;subst hq;have x1:=((Ext.refl w).drewN _).trans he1;have h1:=Lh (HG.out.ext x1);obtain⟨y0,y1,y2,z0,z1,z2⟩:=h1.out.cells)
    all_goals
     go_ret
     rw [HR.out]
     exact⟨rfl,⟨_,h1.out,hv⟩,x1.grow _⟩
  ·obtain⟨m,hm⟩:∃ m,((l.take 4).drop s).length=m:=⟨_,rfl⟩
   have hd:(4:Int)-(m:Int)=s:=by
    rw [List.length_drop,List.length_take] at hm
    omega
   have hv4:=Row.head hv 4 (by omega)
   have hpk:=ZnA (l:=l) hs
   have ht:tBs true (l.take 4) s=(pk s true l,(l.take 4).drop s,0):=by
    rw [← hpk]
    exact ZkT hs (fun c hc=>hb c (List.mem_of_mem_take hc)) (by rw [List.length_take];omega)
   have h40:¬ (l.length:Int)<4:=by omega
   have h41:4≤l.length:=by omega
   clear hpk
   have hw:∀ W,Ext w W→Calls Tryz.prog 282 #[(.slice (some ⟨b,o,none⟩) 4 k),.pointer (some ⟨c,0,none⟩)] W (Ret W (Zb7 W (pk s true l,(l.take 4).drop s,0))):=fun W e=>by
    have h:=Ze4 (.slice (some ⟨b,o,none⟩) 4 k) ((l.take 4)) c s W (hv4.ext (hx.trans e)) (by rw [List.length_take];omega) ((e.cell (p:=⟨c,0,none⟩) hclt).trans hc) (by omega)
    rw [ht] at h
    exact h
   have HW:=Lh hw
   clear hw ht
   have HM:=Lh hm
   have HLN:=Lh hln
   clear hm hln
   cases en
   ·have HR:=Lh (Zbc (st:=true) (sg:=true) hne)
    go_enter Tryz.func279,Tryz.ntmps279
    go_wp2
    go_region
    all_goals go_wp2_with (go_at_call 282;refine(HW.out _ ((Ext.refl _).drewN _)).mono ?_;rintro e w1 ⟨v1,rfl,⟨b1,rfl,ho1⟩,he1⟩;obtain⟨A2,k2,hq,-⟩:=ho1.row;rw [HM.out] at hq;subst hq;have x1:=((Ext.refl w).drewN _).trans he1;have h1:=Lh (HG.out.ext x1);obtain⟨y0,y1,y2,z0,z1,z2⟩:=h1.out.cells)
    all_goals
     go_ret
     rw [HR.out]
     exact⟨rfl,⟨_,h1.out.setRow _,hu3⟩,Zaa (x1.grow _) 0 _⟩
   ·have HR:Hid (rdN true s true (l,true)=(0,l,true)):=Lh (by unfold rdN;rw [if_pos (.inl ⟨rfl,rfl⟩)])
    go_enter Tryz.func279,Tryz.ntmps279
    go_wp2
    go_region
    all_goals go_wp2_with (go_at_call 282;refine(HW.out _ ((Ext.refl _).drewN _)).mono ?_;rintro e w1 ⟨v1,rfl,⟨b1,rfl,ho1⟩,he1⟩;obtain⟨A2,k2,hq,-⟩:=ho1.row;rw [HM.out] at hq;subst hq;have x1:=((Ext.refl w).drewN _).trans he1;have h1:=Lh (HG.out.ext x1);obtain⟨y0,y1,y2,z0,z1,z2⟩:=h1.out.cells)
    all_goals
     go_ret
     rw [HR.out]
     exact⟨rfl,⟨_,h1.out,hv⟩,x1.grow _⟩
theorem PRet.back {w0 w:World} {o:Obj} {g:Nat} {a:Int} {r:Int × List Int × Bool} {e:Ending} {w':World} (h:PRet w0 (w.alloc o) g a r e w'):PRet w0 w g a r e w' :=
 ⟨h.1,h.2.1,Zf7 (((Ext.refl w).alloc o).grow _) h.2.2⟩
theorem ZaS {st:Bool} {s:Nat} {sg:Bool} {l:List Int} {en:Bool} (hs:Siz s sg) (hb:∀ c∈l,B8 c):-2147483648≤(rdN st s sg (l,en)).1∧(rdN st s sg (l,en)).1≤2147483647:=by
 unfold rdN
 split
 ·simp
 ·exact Zqx hs hb
theorem Zdb (w0 w:World) (g:Nat) (l:List Int) (v:Value) (a:Int) (en:Bool) (s:Nat) (hg:PR w g v a en) (hr:Row w0 .u8 v l) (hx:Ext w0 w) (hg0:w0.heap.size≤g) (hs:Siz s false) :
 Calls Tryz.prog 263 #[.pointer (some ⟨g,0,none⟩),.int .i64 s] w (PRet w0 w g a (rdN true s false (l,en))):=by
 have HG:=Lh hg
 have HR:=Lh hr
 have hc:(w.alloc (.cells #[.int .i64 s] 3)).cell? ⟨w.heap.size,0,none⟩=some (.int .i64 s):=by
  rw [cell_of_row _ w.heap.size 0 _ _ (0,0) (heap_alloc_new w _)]
  rfl
 have HC:=Lh hc
 clear hg hr hc
 go_enter Tryz.func263,Tryz.ntmps263
 go_wp2_with (go_at_call 279;refine(ZlX w0 _ g w.heap.size l v a en s (HG.out.ext ((Ext.refl w).alloc _)) HR.out (hx.alloc _) hg0 HC.out hs).mono ?_;rintro e w1 h1;obtain⟨rfl,h2,h3⟩:=h1.back)
 go_ret
 exact⟨rfl,h2,h3⟩
theorem ZbS (w0 w:World) (g:Nat) (l:List Int) (v:Value) (a:Int) (en:Bool) (s:Nat) (hg:PR w g v a en) (hr:Row w0 .u8 v l) (hx:Ext w0 w) (hg0:w0.heap.size≤g) (hs:Siz s true) :
 Calls Tryz.prog 264 #[.pointer (some ⟨g,0,none⟩),.int .i64 s] w (PRet w0 w g a (rdN true s true (l,en))):=by
 have HG:=Lh hg
 have HR:=Lh hr
 have hc:(w.alloc (.cells #[.int .i64 s] 3)).cell? ⟨w.heap.size,0,none⟩=some (.int .i64 s):=by
  rw [cell_of_row _ w.heap.size 0 _ _ (0,0) (heap_alloc_new w _)]
  rfl
 have HC:=Lh hc
 clear hg hr hc
 go_enter Tryz.func264,Tryz.ntmps264
 go_wp2_with (go_at_call 279;refine(ZjM w0 _ g w.heap.size l v a en s (HG.out.ext ((Ext.refl w).alloc _)) HR.out (hx.alloc _) hg0 HC.out hs).mono ?_;rintro e w1 h1;obtain⟨rfl,h2,h3⟩:=h1.back)
 go_ret
 exact⟨rfl,h2,h3⟩
theorem Zdj (w0 w:World) (g:Nat) (l:List Int) (v:Value) (a:Int) (en:Bool) (hg:PR w g v a en) (hr:Row w0 .u8 v l) (hx:Ext w0 w) (hg0:w0.heap.size≤g) (ha:0≤a∧a<8192) :
 Calls Tryz.prog 265 #[.pointer (some ⟨g,0,none⟩)] w (PRet w0 w g a (a+(rdN true 2 true (l,en)).1,(rdN true 2 true (l,en)).2)):=by
 have hb:=ZaS (st:=true) (en:=en) (s:=2) (sg:=true) (by unfold Siz;simp) (Za9 hr)
 have hw:=fun n=>ZbS w0 (w.drewN n) g l v a en 2 (hg.drew n) hr (hx.drewN n) hg0 (by unfold Siz;simp)
 obtain⟨d0,d1,d2,f0,f1,f2⟩:=hg.cells
 obtain⟨r,hr2⟩:∃ r,rdN true 2 true (l,en)=r:=⟨_,rfl⟩
 rw [hr2] at hb ⊢
 simp only [hr2] at hw
 obtain⟨x,l',en'⟩:=r
 simp only at hb ⊢
 have HW:=Lh hw
 have hwr:IntKind.i64.wrap (a+x)=a+x:=by rw [IntKind.wrap_i64];omega
 clear hw hr2 hg hr d0 d2 f0 f1 f2
 go_enter Tryz.func265,Tryz.ntmps265
 go_wp2
 go_region_with ((go_at_call 264;refine(HW.out _).mono ?_;rintro e w1 ⟨rfl,⟨v1,hp1,hr1⟩,hg1⟩;have y1:=hp1.cells.2.1))
 all_goals
  go_wp2
  go_ret
  exact⟨rfl,⟨v1,hp1,hr1⟩,Zf7 (((Ext.refl w).drewN _).grow _) hg1⟩
end Go.Proofs.YtclamhhgldkhnaaGreatDoor
