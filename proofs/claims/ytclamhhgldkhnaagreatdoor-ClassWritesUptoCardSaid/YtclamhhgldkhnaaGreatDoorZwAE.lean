/- Several texts of this proof, one behind the other. -/
import Derived.Test.YtclamhhgldkhnaaGreatDoorZwAD
import Derived.Test.YtclamhhgldkhnaaGreatDoorZwW
import Derived.Test.YtclamhhgldkhnaaGreatDoorZwA
namespace Go.Proofs.YtclamhhgldkhnaaGreatDoor
open Go.RowKit
set_option linter.unusedVariables false
set_option maxHeartbeats 16000000
theorem ZmM {a b:Ty} (h:tyD a=tyD b):a=b:=by
 obtain⟨k,s⟩:=a
 obtain⟨k',s'⟩:=b
 unfold tyD at h
 injection h with h1 h2
 simp only at h1 h2
 rw [h1,show s=s' from(show bs s.data.toList=bs s'.data.toList by rw [h2])]
theorem Zgp:∀ {l m:List Ty},l.map tyD=m.map tyD→l=m
 | [],[],_=>rfl
 | [],_ :: _,h=>by cases h
 | _ :: _,[],h=>by cases h
 | a :: l,b :: m,h=>by
  rw [List.map_cons,List.map_cons] at h
  injection h with h1 h2
  rw [ZmM h1,Zgp h2]
theorem Ztl {x y:Me} (h:x.pr=y.pr):x.ret=y.ret∧x.args=y.args:=by
 unfold Me.pr at h
 injection h with h1 h2
 exact⟨ZmM h1,Zgp h2⟩
theorem Zol {x y:Me} (h1:x.st=y.st) (h2:x.ab=y.ab) (h3:x.nm=y.nm) (h4:x.pr=y.pr) (h5:x.sk=y.sk) (h6:x.lo=y.lo) (h7:x.code=y.code) (h8:x.hs=y.hs):x=y:=by
 obtain⟨h4,h4'⟩:=Ztl h4
 obtain⟨a1,a2,a3,a4,a5,a6,a7,a8,a9⟩:=x
 obtain⟨b1,b2,b3,b4,b5,b6,b7,b8,b9⟩:=y
 simp only at h1 h2 h3 h4 h4' h5 h6 h7 h8
 rw [h1,h2,h3,h4,h4',h5,h6,h7,h8]
theorem Ze0 {a b:Bool} (h:¬ a=b):(a==b)=false:=by cases a <;> cases b <;> simp_all
theorem ZkW {a b:Int} (h:¬ a=b):(a==b)=false:=by simpa using h
set_option maxRecDepth 100000 in
theorem ZgC (x y:Me) (va vc vh va' vc' vh':Value) (w:World) (hx:MeAt w x va vc vh) (hy:MeAt w y va' vc' vh') (rx:MeRoom x) (ry:MeRoom y) :
 Calls Tryz.prog 36 #[.agg (x.vals va vc vh),.agg (y.vals va' vc' vh')] w fun e w'=>e=.returned (.bool (decide (x=y)))∧Ext w w':=by
 have HP:=Lh (fun W (e:Ext w W)=>Zj1 x y va va' W (hx.1.ext e) (hy.1.ext e) rx ry)
 have HB:=Lh (fun W (e:Ext w W)=>Zb0 vc vc' x.code y.code W (hx.2.1.ext e) (hy.2.1.ext e))
 have HH:=Lh (fun W (e:Ext w W)=>Zmn vh vh' x.hs y.hs W (hx.2.2.ext e) (hy.2.2.ext e))
 have X0:Hid (∀ o p:Obj,Ext w ((w.alloc o).alloc p)):=Lh (fun o p=>((Ext.refl w).alloc o).alloc p)
 have BX:=Lh (fun W (e:Ext ((w.alloc (.cells (x.vals va vc vh) 47)).alloc (.cells (y.vals va' vc' vh') 47)) W)=>((BK.new w (x.vals va vc vh) 47).ext ((Ext.refl _).alloc (.cells (y.vals va' vc' vh') 47))).ext e)
 have BY:=Lh (fun W (e:Ext ((w.alloc (.cells (x.vals va vc vh) 47)).alloc (.cells (y.vals va' vc' vh') 47)) W)=>(show BK _ (w.heap.size+1) (y.vals va' vc' vh') 47 from by have:=BK.new (w.alloc (.cells (x.vals va vc vh) 47)) (y.vals va' vc' vh') 47;simpa [BK] using this).ext e)
 clear hx hy rx ry
 unfold Me.vals at BX BY ⊢
 by_cases h1:x.st=y.st
 ·by_cases h2:x.ab=y.ab
  ·by_cases h3:x.nm=y.nm
   ·by_cases h4:x.pr=y.pr
    ·by_cases h5:x.sk=y.sk
     ·by_cases h6:x.lo=y.lo
      ·by_cases h7:x.code=y.code
       ·by_cases h8:x.hs=y.hs
        ·have HE:=Lh (show decide (x=y)=true from decide_eq_true (Zol h1 h2 h3 h4 h5 h6 h7 h8))
         simp only [decide_eq_true h4] at HP
         simp only [decide_eq_true h7] at HB
         simp only [decide_eq_true h8] at HH
         have e1:(x.st==y.st)=true:=by rw [h1];simp
         have e2:(x.ab==y.ab)=true:=by rw [h2];simp
         have e3:(x.nm.toList==y.nm.toList)=true:=by rw [h3];simp
         have e5:(x.sk==y.sk)=true:=by rw [h5];simp
         have e6:(x.lo==y.lo)=true:=by rw [h6];simp
         clear h1 h2 h3 h5 h6 h4 h7 h8
         go_enter Tryz.func36,Tryz.ntmps36
         go_wp2_with fail
         refine(HP.out _ (X0.out _ _)).mono ?_
         rintro e w1 ⟨rfl,x1⟩
         have X1:=Lh ((X0.out _ _).trans x1)
         have c6:w1.cell? ⟨w.heap.size,6,none⟩=some (.int .i64 x.sk):=(BX.out w1 x1).cell 6
         have d6:w1.cell? ⟨w.heap.size+1,6,none⟩=some (.int .i64 y.sk):=(BY.out w1 x1).cell 6
         have c7:w1.cell? ⟨w.heap.size,7,none⟩=some (.int .i64 x.lo):=(BX.out w1 x1).cell 7
         have d7:w1.cell? ⟨w.heap.size+1,7,none⟩=some (.int .i64 y.lo):=(BY.out w1 x1).cell 7
         have c8:w1.cell? ⟨w.heap.size,8,none⟩=some (vc):=(BX.out w1 x1).cell 8
         have d8:w1.cell? ⟨w.heap.size+1,8,none⟩=some (vc'):=(BY.out w1 x1).cell 8
         have c9:w1.cell? ⟨w.heap.size,9,none⟩=some (vh):=(BX.out w1 x1).cell 9
         have d9:w1.cell? ⟨w.heap.size+1,9,none⟩=some (vh'):=(BY.out w1 x1).cell 9
         clear x1 BX BY
         go_wp2_with fail
         refine(HB.out w1 X1.out).mono ?_
         rintro e w2 ⟨rfl,rfl⟩
         go_wp2_with fail
         refine(HH.out _ X1.out).mono ?_
         rintro e w3 ⟨rfl,m,rfl⟩
         go_wp2
         go_ret
         exact⟨by rw [HE.out];rfl,X1.out.drewN m⟩
        ·have HE:=Lh (show decide (x=y)=false from decide_eq_false fun e=>h8 (by rw [e]))
         simp only [decide_eq_true h4] at HP
         simp only [decide_eq_true h7] at HB
         simp only [decide_eq_false h8] at HH
         have e1:(x.st==y.st)=true:=by rw [h1];simp
         have e2:(x.ab==y.ab)=true:=by rw [h2];simp
         have e3:(x.nm.toList==y.nm.toList)=true:=by rw [h3];simp
         have e5:(x.sk==y.sk)=true:=by rw [h5];simp
         have e6:(x.lo==y.lo)=true:=by rw [h6];simp
         clear h1 h2 h3 h5 h6 h4 h7 h8
         go_enter Tryz.func36,Tryz.ntmps36
         go_wp2_with fail
         refine(HP.out _ (X0.out _ _)).mono ?_
         rintro e w1 ⟨rfl,x1⟩
         have X1:=Lh ((X0.out _ _).trans x1)
         have c6:w1.cell? ⟨w.heap.size,6,none⟩=some (.int .i64 x.sk):=(BX.out w1 x1).cell 6
         have d6:w1.cell? ⟨w.heap.size+1,6,none⟩=some (.int .i64 y.sk):=(BY.out w1 x1).cell 6
         have c7:w1.cell? ⟨w.heap.size,7,none⟩=some (.int .i64 x.lo):=(BX.out w1 x1).cell 7
         have d7:w1.cell? ⟨w.heap.size+1,7,none⟩=some (.int .i64 y.lo):=(BY.out w1 x1).cell 7
         have c8:w1.cell? ⟨w.heap.size,8,none⟩=some (vc):=(BX.out w1 x1).cell 8
         have d8:w1.cell? ⟨w.heap.size+1,8,none⟩=some (vc'):=(BY.out w1 x1).cell 8
         have c9:w1.cell? ⟨w.heap.size,9,none⟩=some (vh):=(BX.out w1 x1).cell 9
         have d9:w1.cell? ⟨w.heap.size+1,9,none⟩=some (vh'):=(BY.out w1 x1).cell 9
         clear x1 BX BY
         go_wp2_with fail
         refine(HB.out w1 X1.out).mono ?_
         rintro e w2 ⟨rfl,rfl⟩
         go_wp2_with fail
         refine(HH.out _ X1.out).mono ?_
         rintro e w3 ⟨rfl,m,rfl⟩
         go_wp2
         go_ret
         exact⟨by rw [HE.out];rfl,X1.out.drewN m⟩
       ·have HE:=Lh (show decide (x=y)=false from decide_eq_false fun e=>h7 (by rw [e]))
        simp only [decide_eq_true h4] at HP
        simp only [decide_eq_false h7] at HB
        have e1:(x.st==y.st)=true:=by rw [h1];simp
        have e2:(x.ab==y.ab)=true:=by rw [h2];simp
        have e3:(x.nm.toList==y.nm.toList)=true:=by rw [h3];simp
        have e5:(x.sk==y.sk)=true:=by rw [h5];simp
        have e6:(x.lo==y.lo)=true:=by rw [h6];simp
        clear h1 h2 h3 h5 h6 HH h4 h7
        go_enter Tryz.func36,Tryz.ntmps36
        go_wp2_with fail
        refine(HP.out _ (X0.out _ _)).mono ?_
        rintro e w1 ⟨rfl,x1⟩
        have X1:=Lh ((X0.out _ _).trans x1)
        have c6:w1.cell? ⟨w.heap.size,6,none⟩=some (.int .i64 x.sk):=(BX.out w1 x1).cell 6
        have d6:w1.cell? ⟨w.heap.size+1,6,none⟩=some (.int .i64 y.sk):=(BY.out w1 x1).cell 6
        have c7:w1.cell? ⟨w.heap.size,7,none⟩=some (.int .i64 x.lo):=(BX.out w1 x1).cell 7
        have d7:w1.cell? ⟨w.heap.size+1,7,none⟩=some (.int .i64 y.lo):=(BY.out w1 x1).cell 7
        have c8:w1.cell? ⟨w.heap.size,8,none⟩=some (vc):=(BX.out w1 x1).cell 8
        have d8:w1.cell? ⟨w.heap.size+1,8,none⟩=some (vc'):=(BY.out w1 x1).cell 8
        clear x1 BX BY
        go_wp2_with fail
        refine(HB.out w1 X1.out).mono ?_
        rintro e w2 ⟨rfl,rfl⟩
        go_wp2
        go_ret
        exact⟨by rw [HE.out];rfl,X1.out⟩
      ·have HE:=Lh (show decide (x=y)=false from decide_eq_false fun e=>h6 (by rw [e]))
       have e6:=ZkW h6
       simp only [decide_eq_true h4] at HP
       have e1:(x.st==y.st)=true:=by rw [h1];simp
       have e2:(x.ab==y.ab)=true:=by rw [h2];simp
       have e3:(x.nm.toList==y.nm.toList)=true:=by rw [h3];simp
       have e5:(x.sk==y.sk)=true:=by rw [h5];simp
       clear h1 h2 h3 h5 HB HH h4 h6
       go_enter Tryz.func36,Tryz.ntmps36
       go_wp2_with fail
       refine(HP.out _ (X0.out _ _)).mono ?_
       rintro e w1 ⟨rfl,x1⟩
       have X1:=Lh ((X0.out _ _).trans x1)
       have c6:w1.cell? ⟨w.heap.size,6,none⟩=some (.int .i64 x.sk):=(BX.out w1 x1).cell 6
       have d6:w1.cell? ⟨w.heap.size+1,6,none⟩=some (.int .i64 y.sk):=(BY.out w1 x1).cell 6
       have c7:w1.cell? ⟨w.heap.size,7,none⟩=some (.int .i64 x.lo):=(BX.out w1 x1).cell 7
       have d7:w1.cell? ⟨w.heap.size+1,7,none⟩=some (.int .i64 y.lo):=(BY.out w1 x1).cell 7
       clear x1 BX BY
       go_wp2
       go_ret
       exact⟨by rw [HE.out];rfl,X1.out⟩
     ·have HE:=Lh (show decide (x=y)=false from decide_eq_false fun e=>h5 (by rw [e]))
      have e5:=ZkW h5
      simp only [decide_eq_true h4] at HP
      have e1:(x.st==y.st)=true:=by rw [h1];simp
      have e2:(x.ab==y.ab)=true:=by rw [h2];simp
      have e3:(x.nm.toList==y.nm.toList)=true:=by rw [h3];simp
      clear h1 h2 h3 HB HH h4 h5
      go_enter Tryz.func36,Tryz.ntmps36
      go_wp2_with fail
      refine(HP.out _ (X0.out _ _)).mono ?_
      rintro e w1 ⟨rfl,x1⟩
      have X1:=Lh ((X0.out _ _).trans x1)
      have c6:w1.cell? ⟨w.heap.size,6,none⟩=some (.int .i64 x.sk):=(BX.out w1 x1).cell 6
      have d6:w1.cell? ⟨w.heap.size+1,6,none⟩=some (.int .i64 y.sk):=(BY.out w1 x1).cell 6
      clear x1 BX BY
      go_wp2
      go_ret
      exact⟨by rw [HE.out];rfl,X1.out⟩
    ·have HE:=Lh (show decide (x=y)=false from decide_eq_false fun e=>h4 (by rw [e]))
     simp only [decide_eq_false h4] at HP
     have e1:(x.st==y.st)=true:=by rw [h1];simp
     have e2:(x.ab==y.ab)=true:=by rw [h2];simp
     have e3:(x.nm.toList==y.nm.toList)=true:=by rw [h3];simp
     clear h1 h2 h3 HB HH h4
     go_enter Tryz.func36,Tryz.ntmps36
     go_wp2_with fail
     refine(HP.out _ (X0.out _ _)).mono ?_
     rintro e w1 ⟨rfl,x1⟩
     have X1:=Lh ((X0.out _ _).trans x1)
     clear x1 BX BY
     go_wp2
     go_ret
     exact⟨by rw [HE.out];rfl,X1.out⟩
   ·have HE:=Lh (show decide (x=y)=false from decide_eq_false fun e=>h3 (by rw [e]))
    have e3:=Zfa h3
    have e1:(x.st==y.st)=true:=by rw [h1];simp
    have e2:(x.ab==y.ab)=true:=by rw [h2];simp
    clear h1 h2 HP BX BY HB HH h3
    go_enter Tryz.func36,Tryz.ntmps36
    go_wp2
    go_ret
    exact⟨by rw [HE.out];rfl,X0.out _ _⟩
  ·have HE:=Lh (show decide (x=y)=false from decide_eq_false fun e=>h2 (by rw [e]))
   have e2:=Ze0 h2
   have e1:(x.st==y.st)=true:=by rw [h1];simp
   clear h1 HP BX BY HB HH h2
   go_enter Tryz.func36,Tryz.ntmps36
   go_wp2
   go_ret
   exact⟨by rw [HE.out];rfl,X0.out _ _⟩
 ·have HE:=Lh (show decide (x=y)=false from decide_eq_false fun e=>h1 (by rw [e]))
  have e1:=Ze0 h1
  clear HP BX BY HB HH h1
  go_enter Tryz.func36,Tryz.ntmps36
  go_wp2
  go_ret
  exact⟨by rw [HE.out];rfl,X0.out _ _⟩
theorem Zav {α:Type} [BEq α] {a b:α} (h:(a==b)=true):(a != b)=false:=by unfold bne;rw [h];rfl
theorem ZdQ {α:Type} [BEq α] {a b:α} (h:(a==b)=false):(a != b)=true:=by unfold bne;rw [h];rfl
set_option maxRecDepth 100000 in
theorem Ze2 (x y:Me) (va vc vh va' vc' vh':Value) (w:World) (hx:MeAt w x va vc vh) (hy:MeAt w y va' vc' vh') (rx:MeRoom x) (ry:MeRoom y) :
 Calls Tryz.prog 38 #[.agg (x.vals va vc vh),.agg (y.vals va' vc' vh')] w fun e w'=>e=.returned (.bool (decide (x=y)))∧Ext w w':=by
 have HP:=Lh (fun W (e:Ext w W)=>ZgB x y va va' W (hx.1.ext e) (hy.1.ext e) rx ry)
 have HB:=Lh (fun W (e:Ext w W)=>(ZfQ vc vc' x.code y.code W (hx.2.1.ext e) (hy.2.1.ext e)).mono (R':=fun e w'=>e=.returned (.bool (decide (x.code=y.code)))∧Ext W w') (by rintro e w' ⟨rfl,m,rfl⟩;exact⟨rfl,(Ext.refl W).drewN m⟩))
 have HH1:=Lh hx.2.2
 have HH2:=Lh hy.2.2
 obtain⟨Ah,ch,rfl,hc1,hm1,-⟩:=hx.2.2.cut
 obtain⟨Bh,dh,rfl,hc2,hm2,-⟩:=hy.2.2.cut
 unfold maxLen at hm1 hm2
 have X0:Hid (∀ o p:Obj,Ext w ((w.alloc o).alloc p)):=Lh (fun o p=>((Ext.refl w).alloc o).alloc p)
 have BX:=Lh (fun W (e:Ext ((w.alloc (.cells (x.vals va vc (.slice Ah x.hs.length ch)) 47)).alloc (.cells (y.vals va' vc' (.slice Bh y.hs.length dh)) 47)) W)=>((BK.new w (x.vals va vc (.slice Ah x.hs.length ch)) 47).ext ((Ext.refl _).alloc (.cells (y.vals va' vc' (.slice Bh y.hs.length dh)) 47))).ext e)
 have BY:=Lh (fun W (e:Ext ((w.alloc (.cells (x.vals va vc (.slice Ah x.hs.length ch)) 47)).alloc (.cells (y.vals va' vc' (.slice Bh y.hs.length dh)) 47)) W)=>(show BK _ (w.heap.size+1) (y.vals va' vc' (.slice Bh y.hs.length dh)) 47 from by have:=BK.new (w.alloc (.cells (x.vals va vc (.slice Ah x.hs.length ch)) 47)) (y.vals va' vc' (.slice Bh y.hs.length dh)) 47;simpa [BK] using this).ext e)
 clear hx hy rx ry
 unfold Me.vals at BX BY ⊢
 by_cases h1:x.st=y.st
 ·by_cases h2:x.ab=y.ab
  ·by_cases h3:x.nm=y.nm
   ·by_cases h4:x.pr=y.pr
    ·by_cases h5:x.sk=y.sk
     ·by_cases h6:x.lo=y.lo
      ·by_cases h7:x.code=y.code
       ·by_cases h8:x.hs.length=y.hs.length
        ·have HS:=Lh (fun h8=>Zol h1 h2 h3 h4 h5 h6 h7 h8)
         simp only [decide_eq_true h4] at HP
         simp only [decide_eq_true h7] at HB
         have e1:(x.st==y.st)=true:=by rw [h1];simp
         have f1:=Zav e1
         have e2:(x.ab==y.ab)=true:=by rw [h2];simp
         have f2:=Zav e2
         have e3:(x.nm.toList==y.nm.toList)=true:=by rw [h3];simp
         have f3:=Zav e3
         have e5:(x.sk==y.sk)=true:=by rw [h5];simp
         have f5:=Zav e5
         have e6:(x.lo==y.lo)=true:=by rw [h6];simp
         have f6:=Zav e6
         obtain⟨n,hn⟩:∃ n,x.hs.length=n:=⟨_,rfl⟩
         have hn2:y.hs.length=n:=by rw [← h8,hn]
         rw [hn] at HH1 hc1 BX BY ⊢
         rw [hn2] at HH2 hc2 BX BY ⊢
         have Hn:=Lh hn
         have Hn2:=Lh hn2
         clear hn hn2
         clear h1 h2 h3 h5 h6 h4 h7 h8
         go_enter Tryz.func38,Tryz.ntmps38
         go_wp2_with fail
         refine(HP.out _ (X0.out _ _)).mono ?_
         rintro e w1 ⟨rfl,x1⟩
         have X1:=Lh ((X0.out _ _).trans x1)
         have E1:=Lh x1
         have c6:w1.cell? ⟨w.heap.size,6,none⟩=some (.int .i64 x.sk):=(BX.out w1 x1).cell 6
         have d6:w1.cell? ⟨w.heap.size+1,6,none⟩=some (.int .i64 y.sk):=(BY.out w1 x1).cell 6
         have c7:w1.cell? ⟨w.heap.size,7,none⟩=some (.int .i64 x.lo):=(BX.out w1 x1).cell 7
         have d7:w1.cell? ⟨w.heap.size+1,7,none⟩=some (.int .i64 y.lo):=(BY.out w1 x1).cell 7
         have c8:w1.cell? ⟨w.heap.size,8,none⟩=some (vc):=(BX.out w1 x1).cell 8
         have d8:w1.cell? ⟨w.heap.size+1,8,none⟩=some (vc'):=(BY.out w1 x1).cell 8
         clear x1
         go_wp2_with fail
         refine(HB.out w1 X1.out).mono ?_
         rintro e w2 ⟨rfl,x2⟩
         have X2:=Lh (X1.out.trans x2)
         have E2:=Lh (E1.out.trans x2)
         clear x2 c6 d6 c7 d7 c8 d8
         have c9:=(BX.out w2 E2.out).cell 9
         have d9:=(BY.out w2 E2.out).cell 9
         simp at c9 d9
         go_wp2_with fail
         clear c9 d9
         go_loopw [5] (fun i wr=>∃ k:Nat,k≤n∧i=.int .i64 k∧Hid (Ext w2 wr)∧Hid (x.hs.take k=y.hs.take k)) (fun i _=>n-(intOf i).toNat)
         case atStart=>exact⟨0,by omega,rfl,Lh (Ext.refl _),Lh rfl⟩
         case round =>
          obtain⟨k,hk,rfl,HY,Ht⟩:=hrel
          rename World=>wr
          have c9:=(BX.out wr (E2.out.trans HY.out)).cell 9
          have d9:=(BY.out wr (E2.out.trans HY.out)).cell 9
          simp at c9 d9
          by_cases hlt:k<n
          ·obtain⟨b1,o1,rfl,hx1⟩:=Zde HH1.out (by have:=Hn.out;omega)
           obtain⟨b2,o2,rfl,hx2⟩:=Zde HH2.out (by have:=Hn2.out;omega)
           obtain⟨y0,y1,y2,y3⟩:=hx1 wr (X2.out.trans HY.out) k (by have:=Hn.out;omega)
           obtain⟨u0,u1,u2,u3⟩:=hx2 wr (X2.out.trans HY.out) k (by have:=Hn2.out;omega)
           have hne:=fun W=>Zk1 (gh x.hs k) (gh y.hs k) W
           unfold Hd.vals at hne
           have ht1:=Lh (ZfN (l:=x.hs) (j:=k) (by have:=Hn.out;omega))
           have ht2:=Lh (ZfN (l:=y.hs) (j:=k) (by have:=Hn2.out;omega))
           clear hx1 hx2
           by_cases he:gh x.hs k=gh y.hs k
           ·rw [decide_eq_true he] at hne
            have HE:=Lh he
            clear he
            go_wp2_with fail
            go_quiet (fail)
            go_wp2_with fail
            go_roundw
            case rel=>exact⟨k+1,by omega,by go_num,Lh (HY.out.drewN _),Lh (by rw [ht1.out,ht2.out,Ht.out,HE.out])⟩
            case measure=>simp [intOf];omega
           ·rw [decide_eq_false he] at hne
            have HE:=Lh (show decide (x=y)=false from decide_eq_false fun e=>he (by rw [e]))
            clear he
            go_wp2_with fail
            go_quiet (fail)
            go_wp2
            go_ret
            exact⟨ZbM HE.out.symm,(X2.out.trans HY.out).drewN _⟩
          ·obtain rfl:k=n:=by omega
           go_wp2
           go_ret
           refine⟨ZbM ?_,X2.out.trans HY.out⟩
           have:=Ht.out
           have e1:=Hn.out
           have e2:=Hn2.out
           rw [List.take_of_length_le (by omega),List.take_of_length_le (by omega)] at this
           exact(decide_eq_true (HS.out this)).symm
        ·have HE:=Lh (show decide (x=y)=false from decide_eq_false fun e=>h8 (by rw [e]))
         simp only [decide_eq_true h4] at HP
         simp only [decide_eq_true h7] at HB
         have e1:(x.st==y.st)=true:=by rw [h1];simp
         have f1:=Zav e1
         have e2:(x.ab==y.ab)=true:=by rw [h2];simp
         have f2:=Zav e2
         have e3:(x.nm.toList==y.nm.toList)=true:=by rw [h3];simp
         have f3:=Zav e3
         have e5:(x.sk==y.sk)=true:=by rw [h5];simp
         have f5:=Zav e5
         have e6:(x.lo==y.lo)=true:=by rw [h6];simp
         have f6:=Zav e6
         have f8:((x.hs.length:Int) != (y.hs.length:Int))=true:=by simp;omega
         clear h1 h2 h3 h5 h6 HH1 HH2 h4 h7 h8
         go_enter Tryz.func38,Tryz.ntmps38
         go_wp2_with fail
         refine(HP.out _ (X0.out _ _)).mono ?_
         rintro e w1 ⟨rfl,x1⟩
         have X1:=Lh ((X0.out _ _).trans x1)
         have E1:=Lh x1
         have c6:w1.cell? ⟨w.heap.size,6,none⟩=some (.int .i64 x.sk):=(BX.out w1 x1).cell 6
         have d6:w1.cell? ⟨w.heap.size+1,6,none⟩=some (.int .i64 y.sk):=(BY.out w1 x1).cell 6
         have c7:w1.cell? ⟨w.heap.size,7,none⟩=some (.int .i64 x.lo):=(BX.out w1 x1).cell 7
         have d7:w1.cell? ⟨w.heap.size+1,7,none⟩=some (.int .i64 y.lo):=(BY.out w1 x1).cell 7
         have c8:w1.cell? ⟨w.heap.size,8,none⟩=some (vc):=(BX.out w1 x1).cell 8
         have d8:w1.cell? ⟨w.heap.size+1,8,none⟩=some (vc'):=(BY.out w1 x1).cell 8
         clear x1
         go_wp2_with fail
         refine(HB.out w1 X1.out).mono ?_
         rintro e w2 ⟨rfl,x2⟩
         have X2:=Lh (X1.out.trans x2)
         have E2:=Lh (E1.out.trans x2)
         clear x2 c6 d6 c7 d7 c8 d8
         have c9:=(BX.out w2 E2.out).cell 9
         have d9:=(BY.out w2 E2.out).cell 9
         simp at c9 d9
         go_wp2
         go_ret
         exact⟨by rw [HE.out];rfl,X2.out⟩
       ·have HE:=Lh (show decide (x=y)=false from decide_eq_false fun e=>h7 (by rw [e]))
        simp only [decide_eq_true h4] at HP
        simp only [decide_eq_false h7] at HB
        have e1:(x.st==y.st)=true:=by rw [h1];simp
        have f1:=Zav e1
        have e2:(x.ab==y.ab)=true:=by rw [h2];simp
        have f2:=Zav e2
        have e3:(x.nm.toList==y.nm.toList)=true:=by rw [h3];simp
        have f3:=Zav e3
        have e5:(x.sk==y.sk)=true:=by rw [h5];simp
        have f5:=Zav e5
        have e6:(x.lo==y.lo)=true:=by rw [h6];simp
        have f6:=Zav e6
        clear h1 h2 h3 h5 h6 HH1 HH2 h4 h7
        go_enter Tryz.func38,Tryz.ntmps38
        go_wp2_with fail
        refine(HP.out _ (X0.out _ _)).mono ?_
        rintro e w1 ⟨rfl,x1⟩
        have X1:=Lh ((X0.out _ _).trans x1)
        have E1:=Lh x1
        have c6:w1.cell? ⟨w.heap.size,6,none⟩=some (.int .i64 x.sk):=(BX.out w1 x1).cell 6
        have d6:w1.cell? ⟨w.heap.size+1,6,none⟩=some (.int .i64 y.sk):=(BY.out w1 x1).cell 6
        have c7:w1.cell? ⟨w.heap.size,7,none⟩=some (.int .i64 x.lo):=(BX.out w1 x1).cell 7
        have d7:w1.cell? ⟨w.heap.size+1,7,none⟩=some (.int .i64 y.lo):=(BY.out w1 x1).cell 7
        have c8:w1.cell? ⟨w.heap.size,8,none⟩=some (vc):=(BX.out w1 x1).cell 8
        have d8:w1.cell? ⟨w.heap.size+1,8,none⟩=some (vc'):=(BY.out w1 x1).cell 8
        clear x1
        go_wp2_with fail
        refine(HB.out w1 X1.out).mono ?_
        rintro e w2 ⟨rfl,x2⟩
        have X2:=Lh (X1.out.trans x2)
        have E2:=Lh (E1.out.trans x2)
        clear x2 c6 d6 c7 d7 c8 d8
        go_wp2
        go_ret
        exact⟨by rw [HE.out];rfl,X2.out⟩
      ·have HE:=Lh (show decide (x=y)=false from decide_eq_false fun e=>h6 (by rw [e]))
       have e6:=ZkW h6
       have f6:=ZdQ e6
       simp only [decide_eq_true h4] at HP
       have e1:(x.st==y.st)=true:=by rw [h1];simp
       have f1:=Zav e1
       have e2:(x.ab==y.ab)=true:=by rw [h2];simp
       have f2:=Zav e2
       have e3:(x.nm.toList==y.nm.toList)=true:=by rw [h3];simp
       have f3:=Zav e3
       have e5:(x.sk==y.sk)=true:=by rw [h5];simp
       have f5:=Zav e5
       clear h1 h2 h3 h5 HB HH1 HH2 h4 h6
       go_enter Tryz.func38,Tryz.ntmps38
       go_wp2_with fail
       refine(HP.out _ (X0.out _ _)).mono ?_
       rintro e w1 ⟨rfl,x1⟩
       have X1:=Lh ((X0.out _ _).trans x1)
       have E1:=Lh x1
       have c6:w1.cell? ⟨w.heap.size,6,none⟩=some (.int .i64 x.sk):=(BX.out w1 x1).cell 6
       have d6:w1.cell? ⟨w.heap.size+1,6,none⟩=some (.int .i64 y.sk):=(BY.out w1 x1).cell 6
       have c7:w1.cell? ⟨w.heap.size,7,none⟩=some (.int .i64 x.lo):=(BX.out w1 x1).cell 7
       have d7:w1.cell? ⟨w.heap.size+1,7,none⟩=some (.int .i64 y.lo):=(BY.out w1 x1).cell 7
       clear x1
       go_wp2
       go_ret
       exact⟨by rw [HE.out];rfl,X1.out⟩
     ·have HE:=Lh (show decide (x=y)=false from decide_eq_false fun e=>h5 (by rw [e]))
      have e5:=ZkW h5
      have f5:=ZdQ e5
      simp only [decide_eq_true h4] at HP
      have e1:(x.st==y.st)=true:=by rw [h1];simp
      have f1:=Zav e1
      have e2:(x.ab==y.ab)=true:=by rw [h2];simp
      have f2:=Zav e2
      have e3:(x.nm.toList==y.nm.toList)=true:=by rw [h3];simp
      have f3:=Zav e3
      clear h1 h2 h3 HB HH1 HH2 h4 h5
      go_enter Tryz.func38,Tryz.ntmps38
      go_wp2_with fail
      refine(HP.out _ (X0.out _ _)).mono ?_
      rintro e w1 ⟨rfl,x1⟩
      have X1:=Lh ((X0.out _ _).trans x1)
      have E1:=Lh x1
      have c6:w1.cell? ⟨w.heap.size,6,none⟩=some (.int .i64 x.sk):=(BX.out w1 x1).cell 6
      have d6:w1.cell? ⟨w.heap.size+1,6,none⟩=some (.int .i64 y.sk):=(BY.out w1 x1).cell 6
      clear x1
      go_wp2
      go_ret
      exact⟨by rw [HE.out];rfl,X1.out⟩
    ·have HE:=Lh (show decide (x=y)=false from decide_eq_false fun e=>h4 (by rw [e]))
     simp only [decide_eq_false h4] at HP
     have e1:(x.st==y.st)=true:=by rw [h1];simp
     have f1:=Zav e1
     have e2:(x.ab==y.ab)=true:=by rw [h2];simp
     have f2:=Zav e2
     have e3:(x.nm.toList==y.nm.toList)=true:=by rw [h3];simp
     have f3:=Zav e3
     clear h1 h2 h3 HB HH1 HH2 h4
     go_enter Tryz.func38,Tryz.ntmps38
     go_wp2_with fail
     refine(HP.out _ (X0.out _ _)).mono ?_
     rintro e w1 ⟨rfl,x1⟩
     have X1:=Lh ((X0.out _ _).trans x1)
     have E1:=Lh x1
     clear x1
     go_wp2
     go_ret
     exact⟨by rw [HE.out];rfl,X1.out⟩
   ·have HE:=Lh (show decide (x=y)=false from decide_eq_false fun e=>h3 (by rw [e]))
    have e3:=Zfa h3
    have f3:=ZdQ e3
    have e1:(x.st==y.st)=true:=by rw [h1];simp
    have f1:=Zav e1
    have e2:(x.ab==y.ab)=true:=by rw [h2];simp
    have f2:=Zav e2
    clear h1 h2 HP BX BY HB HH1 HH2 h3
    go_enter Tryz.func38,Tryz.ntmps38
    go_wp2
    go_ret
    exact⟨by rw [HE.out];rfl,X0.out _ _⟩
  ·have HE:=Lh (show decide (x=y)=false from decide_eq_false fun e=>h2 (by rw [e]))
   have e2:=Ze0 h2
   have f2:=ZdQ e2
   have e1:(x.st==y.st)=true:=by rw [h1];simp
   have f1:=Zav e1
   clear h1 HP BX BY HB HH1 HH2 h2
   go_enter Tryz.func38,Tryz.ntmps38
   go_wp2
   go_ret
   exact⟨by rw [HE.out];rfl,X0.out _ _⟩
 ·have HE:=Lh (show decide (x=y)=false from decide_eq_false fun e=>h1 (by rw [e]))
  have e1:=Ze0 h1
  have f1:=ZdQ e1
  clear HP BX BY HB HH1 HH2 h1
  go_enter Tryz.func38,Tryz.ntmps38
  go_wp2
  go_ret
  exact⟨by rw [HE.out];rfl,X0.out _ _⟩
theorem Zdm {l:List Me} {j:Nat} (h:j<l.length):l.take (j+1)=l.take j++[gm l j]:=by
 rw [ZqM h,List.take_append_getElem h]
set_option maxRecDepth 100000 in
theorem Zl7 (v1 v2:Value) (l1 l2:List Me) (w:World) (h1:RowM w v1 l1) (h2:RowM w v2 l2) (r1:∀ m∈l1,MeRoom m) (r2:∀ m∈l2,MeRoom m) :
 Calls Tryz.prog 35 #[v1,v2,.func (.func 36) #[] #[]] w fun e w'=>e=.returned (.bool (decide (l1=l2)))∧Ext w w':=by
 have H1:=Lh h1
 have H2:=Lh h2
 have R1:=Lh r1
 have R2:=Lh r2
 obtain⟨A1,c1,rfl,hc1,hm1,-⟩:=h1.cut
 obtain⟨A2,c2,rfl,hc2,hm2,-⟩:=h2.cut
 clear h1 h2 r1 r2
 unfold maxLen at hm1 hm2
 by_cases hl:l1.length=l2.length
 ·obtain⟨n,hn⟩:∃ n,n=l1.length:=⟨_,rfl⟩
  rw [← hn] at hc1 H1 ⊢
  rw [← hl,← hn] at hc2 H2 ⊢
  have Hn:=Lh hn
  have Hl:=Lh hl
  clear hn hl
  go_enter Tryz.func35,Tryz.ntmps35
  go_wp2
  go_loopw [17] (fun i wr=>∃ k:Nat,k≤n∧i=.int .i64 k∧Hid (Ext w wr)∧Hid (l1.take k=l2.take k)) (fun i _=>n-(intOf i).toNat)
  case atStart=>exact⟨0,by omega,rfl,Lh (Ext.refl w),Lh rfl⟩
  case round =>
   obtain⟨k,hk,rfl,HX,Ht⟩:=hrel
   rename World=>wo
   by_cases hlt:k<n
   ·obtain⟨b1,o1,rfl,hx1⟩:=H1.out.at (by have:=Hn.out;omega)
    obtain⟨b2,o2,rfl,hx2⟩:=H2.out.at (by have:=Hn.out;have:=Hl.out;omega)
    have hk1:k<l1.length:=by have:=Hn.out;omega
    have hk2:k<l2.length:=by have:=Hn.out;have:=Hl.out;omega
    obtain⟨va,vc,vh,hx1⟩:=hx1 k hk1
    obtain⟨va',vc',vh',hx2⟩:=hx2 k hk2
    have ht1:=Zdm hk1
    have ht2:=Zdm hk2
    have rx:=R1.out _ (Zc8 hk1)
    have ry:=R2.out _ (Zc8 hk2)
    have hne:¬ gm l1 k=gm l2 k→decide (l1=l2)=false:=fun he=>decide_eq_false fun e=>he (by rw [e])
    obtain⟨x,hx⟩:∃ x,gm l1 k=x:=⟨_,rfl⟩
    obtain⟨y,hy⟩:∃ x,gm l2 k=x:=⟨_,rfl⟩
    rw [hx] at hx1 ht1 rx hne
    rw [hy] at hx2 ht2 ry hne
    have m1:=(hx1 _ (Ext.refl w)).2
    have m2:=(hx2 _ (Ext.refl w)).2
    obtain⟨Va,ca,rfl,-⟩:=(show ShT.Row w va x.args from m1.1).cut
    obtain⟨Vc,cc,rfl,-⟩:=id (show Row w .u8 vc x.code from m1.2.1)
    obtain⟨Vh,ch,rfl,-⟩:=(show ShH.Row w vh x.hs from m1.2.2).cut
    obtain⟨Va',ca',rfl,-⟩:=(show ShT.Row w va' y.args from m2.1).cut
    obtain⟨Vc',cc',rfl,-⟩:=id (show Row w .u8 vc' y.code from m2.2.1)
    obtain⟨Vh',ch',rfl,-⟩:=(show ShH.Row w vh' y.hs from m2.2.2).cut
    obtain⟨⟨y0,y1,y2,y3,y4,y5,y6,y7,y8,y9⟩,-⟩:=hx1 _ HX.out
    obtain⟨⟨u0,u1,u2,u3,u4,u5,u6,u7,u8,u9⟩,-⟩:=hx2 _ (HX.out.alloc (.cells #[.bool x.st,.bool x.ab,.string x.nm,.int .i64 x.ret.k,.string x.ret.s,.slice Va x.args.length ca,.int .i64 x.sk,.int .i64 x.lo,.slice Vc x.code.length cc,.slice Vh x.hs.length ch] 47))
    have HS:=Lh (fun W (e:Ext w W)=>ZgC x y _ _ _ _ _ _ W (m1.ext e) (m2.ext e) rx ry)
    have XX:=Lh (fun p q:Obj=>(HX.out.alloc p).alloc q)
    have HT1:=Lh ht1
    have HT2:=Lh ht2
    have HNE:=Lh hne
    unfold Me.vals at HS
    clear hx1 hx2 hx hy ht1 ht2 rx ry m1 m2 hk1 hk2 hne
    go_wp2_with fail
    refine(HS.out _ (XX.out _ _)).mono ?_
    rintro e w3 ⟨rfl,x3⟩
    have X3:=Lh ((XX.out _ _).trans x3)
    clear x3 y0 y1 y2 y3 y4 y5 y6 y7 y8 y9 u0 u1 u2 u3 u4 u5 u6 u7 u8 u9
    by_cases he:x=y
    ·rw [decide_eq_true he]
     have HE:=Lh he
     clear he
     go_wp2_with fail
     go_roundw
     case rel=>exact⟨k+1,by omega,by go_num,X3,Lh (by rw [HT1.out,HT2.out,Ht.out,HE.out])⟩
     case measure=>simp [intOf];omega
    ·rw [decide_eq_false he]
     have HE:=Lh (HNE.out he)
     clear he
     go_wp2
     go_ret
     exact⟨ZbM HE.out.symm,X3.out⟩
   ·obtain rfl:k=n:=by omega
    go_wp2
    go_ret
    refine⟨ZbM ?_,HX.out⟩
    have:=Ht.out
    rw [Hn.out] at this
    rw [List.take_length,Hl.out,List.take_length] at this
    exact(decide_eq_true this).symm
 ·have hb:((l1.length:Int) != (l2.length:Int))=true:=by simp;omega
  have HE:=Lh (show decide (l1=l2)=false by rw [decide_eq_false_iff_not];exact fun e=>hl (by rw [e]))
  rw [HE.out]
  clear hl H1 H2 R1 R2
  go_enter Tryz.func35,Tryz.ntmps35
  go_wp2
  go_ret
  exact⟨rfl,Ext.refl w⟩
theorem Zne {x y:Cl} (h1:x.nm=y.nm) (h2:x.sup=y.sup) (h3:x.inf=y.inf) (h4:x.pool=y.pool) (h5:x.ifs=y.ifs) (h6:x.fds=y.fds) (h7:x.mts=y.mts):x=y:=by
 obtain⟨a1,a2,a3,a4,a5,a6,a7⟩:=x
 obtain⟨b1,b2,b3,b4,b5,b6,b7⟩:=y
 simp only at h1 h2 h3 h4 h5 h6 h7
 rw [h1,h2,h3,h4,h5,h6,h7]
set_option maxRecDepth 100000 in
theorem Zhn (c d:Cl) (vp vi vf vm vp' vi' vf' vm':Value) (w:World) (hc:ClAt w c vp vi vf vm) (hd:ClAt w d vp' vi' vf' vm') (rc:ClRoom c) (rd:ClRoom d) :
 Calls Tryz.prog 12 #[.agg (c.vals vp vi vf vm),.agg (d.vals vp' vi' vf' vm')] w fun e w'=>e=.returned (.bool (decide (c=d)))∧Ext w w':=by
 have H4:=Lh (fun W (e:Ext w W)=>(Zmk vp vp' c.pool d.pool W (hc.1.ext e) (hd.1.ext e)).mono (R':=fun e w'=>e=.returned (.bool (decide (c.pool=d.pool)))∧Ext W w') (by rintro e w' ⟨rfl,m,rfl⟩;exact⟨rfl,(Ext.refl W).drewN m⟩))
 have H5:=Lh (fun W (e:Ext w W)=>(ZlJ vi vi' c.ifs d.ifs W (hc.2.1.ext e) (hd.2.1.ext e)).mono (R':=fun e w'=>e=.returned (.bool (decide (c.ifs=d.ifs)))∧Ext W w') (by rintro e w' ⟨rfl,m,rfl⟩;exact⟨rfl,(Ext.refl W).drewN m⟩))
 have H6:=Lh (fun W (e:Ext w W)=>(ZlG vf vf' c.fds d.fds W (hc.2.2.1.ext e) (hd.2.2.1.ext e)).mono (R':=fun e w'=>e=.returned (.bool (decide (c.fds=d.fds)))∧Ext W w') (by rintro e w' ⟨rfl,m,rfl⟩;exact⟨rfl,(Ext.refl W).drewN m⟩))
 have H7:=Lh (fun W (e:Ext w W)=>Zl7 vm vm' c.mts d.mts W (hc.2.2.2.ext e) (hd.2.2.2.ext e) rc.mts rd.mts)
 have X0:Hid (∀ o p:Obj,Ext w ((w.alloc o).alloc p)):=Lh (fun o p=>((Ext.refl w).alloc o).alloc p)
 have BX:=Lh (fun W (e:Ext ((w.alloc (.cells (c.vals vp vi vf vm) 27)).alloc (.cells (d.vals vp' vi' vf' vm') 27)) W)=>((BK.new w (c.vals vp vi vf vm) 27).ext ((Ext.refl _).alloc (.cells (d.vals vp' vi' vf' vm') 27))).ext e)
 have BY:=Lh (fun W (e:Ext ((w.alloc (.cells (c.vals vp vi vf vm) 27)).alloc (.cells (d.vals vp' vi' vf' vm') 27)) W)=>(show BK _ (w.heap.size+1) (d.vals vp' vi' vf' vm') 27 from by have:=BK.new (w.alloc (.cells (c.vals vp vi vf vm) 27)) (d.vals vp' vi' vf' vm') 27;simpa [BK] using this).ext e)
 clear hc hd rc rd
 unfold Cl.vals at BX BY ⊢
 by_cases h1:c.nm=d.nm
 ·by_cases h2:c.sup=d.sup
  ·by_cases h3:c.inf=d.inf
   ·by_cases h4:c.pool=d.pool
    ·by_cases h5:c.ifs=d.ifs
     ·by_cases h6:c.fds=d.fds
      ·by_cases h7:c.mts=d.mts
       ·have HE:=Lh (show decide (c=d)=true from decide_eq_true (Zne h1 h2 h3 h4 h5 h6 h7))
        simp only [decide_eq_true h4] at H4
        simp only [decide_eq_true h5] at H5
        simp only [decide_eq_true h6] at H6
        simp only [decide_eq_true h7] at H7
        have e1:(c.nm.toList==d.nm.toList)=true:=by rw [h1];simp
        have e2:(c.sup.toList==d.sup.toList)=true:=by rw [h2];simp
        have e3:(c.inf==d.inf)=true:=by rw [h3];simp
        clear h1 h2 h3 h4 h5 h6 h7
        go_enter Tryz.func12,Tryz.ntmps12
        go_wp2_with fail
        refine(H4.out _ (X0.out _ _)).mono ?_
        rintro e w4 ⟨rfl,x4⟩
        have E4:=Lh x4
        have X4:=Lh ((X0.out _ _).trans x4)
        clear x4
        have c5:w4.cell? ⟨w.heap.size,4,none⟩=some (vi):=(BX.out w4 E4.out).cell 4
        have d5:w4.cell? ⟨w.heap.size+1,4,none⟩=some (vi'):=(BY.out w4 E4.out).cell 4
        go_wp2_with fail
        refine(H5.out _ X4.out).mono ?_
        rintro e w5 ⟨rfl,x5⟩
        have E5:=Lh (E4.out.trans x5)
        have X5:=Lh (X4.out.trans x5)
        clear x5 c5 d5
        have c6:w5.cell? ⟨w.heap.size,5,none⟩=some (vf):=(BX.out w5 E5.out).cell 5
        have d6:w5.cell? ⟨w.heap.size+1,5,none⟩=some (vf'):=(BY.out w5 E5.out).cell 5
        go_wp2_with fail
        refine(H6.out _ X5.out).mono ?_
        rintro e w6 ⟨rfl,x6⟩
        have E6:=Lh (E5.out.trans x6)
        have X6:=Lh (X5.out.trans x6)
        clear x6 c6 d6
        have c7:w6.cell? ⟨w.heap.size,6,none⟩=some (vm):=(BX.out w6 E6.out).cell 6
        have d7:w6.cell? ⟨w.heap.size+1,6,none⟩=some (vm'):=(BY.out w6 E6.out).cell 6
        go_wp2_with fail
        refine(H7.out _ X6.out).mono ?_
        rintro e w7 ⟨rfl,x7⟩
        have E7:=Lh (E6.out.trans x7)
        have X7:=Lh (X6.out.trans x7)
        clear x7 c7 d7
        go_wp2
        go_ret
        exact⟨by rw [HE.out];rfl,X7.out⟩
       ·have HE:=Lh (show decide (c=d)=false from decide_eq_false fun e=>h7 (by rw [e]))
        simp only [decide_eq_true h4] at H4
        simp only [decide_eq_true h5] at H5
        simp only [decide_eq_true h6] at H6
        simp only [decide_eq_false h7] at H7
        have e1:(c.nm.toList==d.nm.toList)=true:=by rw [h1];simp
        have e2:(c.sup.toList==d.sup.toList)=true:=by rw [h2];simp
        have e3:(c.inf==d.inf)=true:=by rw [h3];simp
        clear h1 h2 h3 h4 h5 h6 h7
        go_enter Tryz.func12,Tryz.ntmps12
        go_wp2_with fail
        refine(H4.out _ (X0.out _ _)).mono ?_
        rintro e w4 ⟨rfl,x4⟩
        have E4:=Lh x4
        have X4:=Lh ((X0.out _ _).trans x4)
        clear x4
        have c5:w4.cell? ⟨w.heap.size,4,none⟩=some (vi):=(BX.out w4 E4.out).cell 4
        have d5:w4.cell? ⟨w.heap.size+1,4,none⟩=some (vi'):=(BY.out w4 E4.out).cell 4
        go_wp2_with fail
        refine(H5.out _ X4.out).mono ?_
        rintro e w5 ⟨rfl,x5⟩
        have E5:=Lh (E4.out.trans x5)
        have X5:=Lh (X4.out.trans x5)
        clear x5 c5 d5
        have c6:w5.cell? ⟨w.heap.size,5,none⟩=some (vf):=(BX.out w5 E5.out).cell 5
        have d6:w5.cell? ⟨w.heap.size+1,5,none⟩=some (vf'):=(BY.out w5 E5.out).cell 5
        go_wp2_with fail
        refine(H6.out _ X5.out).mono ?_
        rintro e w6 ⟨rfl,x6⟩
        have E6:=Lh (E5.out.trans x6)
        have X6:=Lh (X5.out.trans x6)
        clear x6 c6 d6
        have c7:w6.cell? ⟨w.heap.size,6,none⟩=some (vm):=(BX.out w6 E6.out).cell 6
        have d7:w6.cell? ⟨w.heap.size+1,6,none⟩=some (vm'):=(BY.out w6 E6.out).cell 6
        go_wp2_with fail
        refine(H7.out _ X6.out).mono ?_
        rintro e w7 ⟨rfl,x7⟩
        have E7:=Lh (E6.out.trans x7)
        have X7:=Lh (X6.out.trans x7)
        clear x7 c7 d7
        go_wp2
        go_ret
        exact⟨by rw [HE.out];rfl,X7.out⟩
      ·have HE:=Lh (show decide (c=d)=false from decide_eq_false fun e=>h6 (by rw [e]))
       simp only [decide_eq_true h4] at H4
       simp only [decide_eq_true h5] at H5
       simp only [decide_eq_false h6] at H6
       have e1:(c.nm.toList==d.nm.toList)=true:=by rw [h1];simp
       have e2:(c.sup.toList==d.sup.toList)=true:=by rw [h2];simp
       have e3:(c.inf==d.inf)=true:=by rw [h3];simp
       clear h1 h2 h3 h4 h5 h6 H7
       go_enter Tryz.func12,Tryz.ntmps12
       go_wp2_with fail
       refine(H4.out _ (X0.out _ _)).mono ?_
       rintro e w4 ⟨rfl,x4⟩
       have E4:=Lh x4
       have X4:=Lh ((X0.out _ _).trans x4)
       clear x4
       have c5:w4.cell? ⟨w.heap.size,4,none⟩=some (vi):=(BX.out w4 E4.out).cell 4
       have d5:w4.cell? ⟨w.heap.size+1,4,none⟩=some (vi'):=(BY.out w4 E4.out).cell 4
       go_wp2_with fail
       refine(H5.out _ X4.out).mono ?_
       rintro e w5 ⟨rfl,x5⟩
       have E5:=Lh (E4.out.trans x5)
       have X5:=Lh (X4.out.trans x5)
       clear x5 c5 d5
       have c6:w5.cell? ⟨w.heap.size,5,none⟩=some (vf):=(BX.out w5 E5.out).cell 5
       have d6:w5.cell? ⟨w.heap.size+1,5,none⟩=some (vf'):=(BY.out w5 E5.out).cell 5
       go_wp2_with fail
       refine(H6.out _ X5.out).mono ?_
       rintro e w6 ⟨rfl,x6⟩
       have E6:=Lh (E5.out.trans x6)
       have X6:=Lh (X5.out.trans x6)
       clear x6 c6 d6
       go_wp2
       go_ret
       exact⟨by rw [HE.out];rfl,X6.out⟩
     ·have HE:=Lh (show decide (c=d)=false from decide_eq_false fun e=>h5 (by rw [e]))
      simp only [decide_eq_true h4] at H4
      simp only [decide_eq_false h5] at H5
      have e1:(c.nm.toList==d.nm.toList)=true:=by rw [h1];simp
      have e2:(c.sup.toList==d.sup.toList)=true:=by rw [h2];simp
      have e3:(c.inf==d.inf)=true:=by rw [h3];simp
      clear h1 h2 h3 h4 h5 H6 H7
      go_enter Tryz.func12,Tryz.ntmps12
      go_wp2_with fail
      refine(H4.out _ (X0.out _ _)).mono ?_
      rintro e w4 ⟨rfl,x4⟩
      have E4:=Lh x4
      have X4:=Lh ((X0.out _ _).trans x4)
      clear x4
      have c5:w4.cell? ⟨w.heap.size,4,none⟩=some (vi):=(BX.out w4 E4.out).cell 4
      have d5:w4.cell? ⟨w.heap.size+1,4,none⟩=some (vi'):=(BY.out w4 E4.out).cell 4
      go_wp2_with fail
      refine(H5.out _ X4.out).mono ?_
      rintro e w5 ⟨rfl,x5⟩
      have E5:=Lh (E4.out.trans x5)
      have X5:=Lh (X4.out.trans x5)
      clear x5 c5 d5
      go_wp2
      go_ret
      exact⟨by rw [HE.out];rfl,X5.out⟩
    ·have HE:=Lh (show decide (c=d)=false from decide_eq_false fun e=>h4 (by rw [e]))
     simp only [decide_eq_false h4] at H4
     have e1:(c.nm.toList==d.nm.toList)=true:=by rw [h1];simp
     have e2:(c.sup.toList==d.sup.toList)=true:=by rw [h2];simp
     have e3:(c.inf==d.inf)=true:=by rw [h3];simp
     clear h1 h2 h3 h4 H5 H6 H7
     go_enter Tryz.func12,Tryz.ntmps12
     go_wp2_with fail
     refine(H4.out _ (X0.out _ _)).mono ?_
     rintro e w4 ⟨rfl,x4⟩
     have E4:=Lh x4
     have X4:=Lh ((X0.out _ _).trans x4)
     clear x4
     go_wp2
     go_ret
     exact⟨by rw [HE.out];rfl,X4.out⟩
   ·have HE:=Lh (show decide (c=d)=false from decide_eq_false fun e=>h3 (by rw [e]))
    have e3:=Ze0 h3
    have e1:(c.nm.toList==d.nm.toList)=true:=by rw [h1];simp
    have e2:(c.sup.toList==d.sup.toList)=true:=by rw [h2];simp
    clear h1 h2 h3 H4 H5 H6 H7 BX BY
    go_enter Tryz.func12,Tryz.ntmps12
    go_wp2
    go_ret
    exact⟨by rw [HE.out];rfl,X0.out _ _⟩
  ·have HE:=Lh (show decide (c=d)=false from decide_eq_false fun e=>h2 (by rw [e]))
   have e2:=Zfa h2
   have e1:(c.nm.toList==d.nm.toList)=true:=by rw [h1];simp
   clear h1 h2 H4 H5 H6 H7 BX BY
   go_enter Tryz.func12,Tryz.ntmps12
   go_wp2
   go_ret
   exact⟨by rw [HE.out];rfl,X0.out _ _⟩
 ·have HE:=Lh (show decide (c=d)=false from decide_eq_false fun e=>h1 (by rw [e]))
  have e1:=Zfa h1
  clear h1 H4 H5 H6 H7 BX BY
  go_enter Tryz.func12,Tryz.ntmps12
  go_wp2
  go_ret
  exact⟨by rw [HE.out];rfl,X0.out _ _⟩
end Go.Proofs.YtclamhhgldkhnaaGreatDoor
