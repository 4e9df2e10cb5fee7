/- Several texts of this proof, one behind the other. -/
import Derived.Test.YtclamhhgldkhnaaGreatDoorZwAI
namespace Go.Proofs.YtclamhhgldkhnaaGreatDoor
open Go.RowKit
set_option linter.unusedVariables false
set_option maxHeartbeats 16000000
structure MI (T:TypeId) (Z:Array Value) (w0 w W:World) (g b:Nat) (s:RSt) (cs:Array Value):Prop where
 rk:RK w0 W g s
 bk:BK W b cs T
 rz:BK W w.heap.size Z T
 gr:w.grownBy W (some g)
 lg:g<w.heap.size
 lb:w.heap.size<b
 l0:w0.heap.size≤w.heap.size
section
variable {T : TypeId} {Z : Array Value} {w0 w W W' : World} {g b : Nat} {s s' : RSt} {cs : Array Value}
theorem MI.call (h:MI T Z w0 w W g b s cs) (hr:RK w0 W' g s') (hg:W.grownBy W' (some g)):MI T Z w0 w W' g b s' cs :=
 ⟨hr,h.bk.kept hg (by have:=h.lg;have:=h.lb;omega),h.rz.kept hg (by have:=h.lg;omega),Zae h.gr hg,h.lg,h.lb,h.l0⟩
theorem MI.ext (h:MI T Z w0 w W g b s cs) (e:Ext W W'):MI T Z w0 w W' g b s cs :=
 ⟨h.rk.ext e,h.bk.ext e,h.rz.ext e,Zbl h.gr e,h.lg,h.lb,h.l0⟩
theorem MI.put (h:MI T Z w0 w W g b s cs) (i:Nat) (u:Value):MI T Z w0 w (W.setCell ⟨b,i,none⟩ u) g b s (cs.setIfInBounds i u):=by
 have h1:=h.lg
 have h2:=h.lb
 have h3:=h.l0
 exact⟨h.rk.setO (by omega) (by omega) i u,h.bk.put i u,h.rz.other (p:=⟨b,i,none⟩) (by show ¬ b=w.heap.size;omega) u,ZaG h.gr (by omega) i u,h1,h2,h3⟩
end
def RKG (w0 w W:World) (g:Nat) (s:RSt):Prop:=RK w0 W g s∧w.grownBy W (some g)∧g<w.heap.size∧w0.heap.size≤w.heap.size
theorem RKG.set {w0 w W:World} {g:Nat} {s:RSt} (h:RKG w0 w W g s) (j:Nat) (u:Value):RKG w0 w (W.setCell ⟨w.heap.size,j,none⟩ u) g s :=
 ⟨h.1.setO h.2.2.2 (by have:=h.2.2.1;omega) j u,ZaG h.2.1 (Nat.le_refl _) j u,h.2.2⟩
theorem MI.rkg {T:TypeId} {Z:Array Value} {w0 w W:World} {g b:Nat} {s:RSt} {cs:Array Value} (h:MI T Z w0 w W g b s cs):RKG w0 w W g s:=⟨h.rk,h.gr,h.lg,h.l0⟩
def sets10 (W:World) (r:Nat) (a0 a1 a2 a3 a4 a5 a6 a7 a8 a9:Value):World :=
 (((((((((W.setCell ⟨r,0,none⟩ a0).setCell ⟨r,1,none⟩ a1).setCell ⟨r,2,none⟩ a2).setCell ⟨r,3,none⟩ a3).setCell ⟨r,4,none⟩ a4).setCell ⟨r,5,none⟩ a5).setCell ⟨r,6,none⟩ a6).setCell ⟨r,7,none⟩ a7).setCell ⟨r,8,none⟩ a8).setCell ⟨r,9,none⟩ a9
theorem Zi5 (W:World) (r:Nat) (a0 a1 a2 a3 a4 a5 a6 a7 a8 a9:Value):W.grownBy (sets10 W r a0 a1 a2 a3 a4 a5 a6 a7 a8 a9) (some r) :=
 Zaa (Zaa (Zaa (Zaa (Zaa (Zaa (Zaa (Zaa (Zaa (Zaa (World.grownBy.refl W (some r)) 0 a0) 1 a1) 2 a2) 3 a3) 4 a4) 5 a5) 6 a6) 7 a7) 8 a8) 9 a9
theorem RKG.sets10 {w0 w W:World} {g:Nat} {s:RSt} (h:RKG w0 w W g s) (a0 a1 a2 a3 a4 a5 a6 a7 a8 a9:Value):RKG w0 w (sets10 W w.heap.size a0 a1 a2 a3 a4 a5 a6 a7 a8 a9) g s :=
 (((((((((h.set 0 a0).set 1 a1).set 2 a2).set 3 a3).set 4 a4).set 5 a5).set 6 a6).set 7 a7).set 8 a8).set 9 a9
theorem Zge {w0 w W:World} {g:Nat} {s:RSt} {x:Me} {va vc vh:Value} {B:Nat} (h:RKG w0 w W g s) (ho:NestMO B W (x,va,vc,vh)) (hB:w.heap.size<B) (a0 a1 a2 a3 a4 a5 a6 a7 a8 a9:Value) :
 KRet w0 w g s (.agg (x.vals va vc vh)) (.returned (.agg (x.vals va vc vh))) (sets10 W w.heap.size a0 a1 a2 a3 a4 a5 a6 a7 a8 a9)∧NestMO w.heap.size (sets10 W w.heap.size a0 a1 a2 a3 a4 a5 a6 a7 a8 a9) (x,va,vc,vh) :=
 ⟨⟨rfl,(h.sets10 a0 a1 a2 a3 a4 a5 a6 a7 a8 a9).1,(h.sets10 a0 a1 a2 a3 a4 a5 a6 a7 a8 a9).2.1⟩,(ho.keptU (Zi5 W w.heap.size a0 a1 a2 a3 a4 a5 a6 a7 a8 a9) hB).base (Nat.le_of_lt hB)⟩
theorem ZqS (s:RSt):(gHd s).2.1.length≤s.1.length:=by
 have h1:=ZeB s
 have h2:=ZeB (gU s).2
 have h3:=ZeB (gU (gU s).2).2
 have h4:=ZeB (gU (gU (gU s).2).2).2
 unfold gHd
 simp only
 omega
theorem ZrQ {α:Type} {one:RSt→α × RSt} (hle:∀ s,(one s).2.1.length≤s.1.length):∀ (n:Nat) (acc:List α) (s:RSt),(gIt one n acc s).2.1.length≤s.1.length:=by
 intro n
 induction n with
 | zero=>intro acc s;exact Nat.le_refl _
 | succ n ih =>
  intro acc s
  unfold gIt
  split
  ·exact Nat.le_refl _
  ·exact Nat.le_trans (ih _ _) (hle s)
theorem Zn8 {α:Type} {k:Int} {one:RSt→α × RSt} (hle:∀ s,(one s).2.1.length≤s.1.length) (s:RSt):(gLs k one s).2.1.length≤s.1.length:=Nat.le_trans (ZrQ hle _ _ _) (ZbA k s)
theorem Ztk (s:RSt):(gMe s).2.1.length≤s.1.length:=by
 have h1:=ZbA 2 s
 have h2:=(ZbH (gUp 2 s).2).1
 have h3:(gPr (gTx (gUp 2 s).2).2).2.1.length≤(gTx (gUp 2 s).2).2.1.length:=(ZbH _).1
 unfold gMe
 simp only
 split
 ·simp only
  omega
 ·unfold gMt
  simp only
  generalize gPr (gTx (gUp 2 s).2).2=p at h3 ⊢
  have h4:=ZeB p.2
  have h5:=ZeB (gU p.2).2
  have h6:=ZeB (gU (gU p.2).2).2
  have h7:=(Zjq (gU (gU (gU p.2).2).2).1 (gU (gU (gU p.2).2).2).2).1
  have h8:=Zn8 (k:=256) ZqS (gB (gU (gU (gU p.2).2).2).1 (gU (gU (gU p.2).2).2).2).2
  omega
set_option maxRecDepth 100000 in
theorem ZjO (w0 w:World) (g:Nat) (s:RSt) (h:RK w0 w g s) (hM:Most w0) (hl:s.1.length≤140737488351232) :
 Calls Tryz.prog 93 #[.pointer (some ⟨g,0,none⟩)] w fun x w'=>∃ va vc vh,KRet w0 w g (gMe s).2 (.agg ((gMe s).1.vals va vc vh)) x w'∧NestMO w.heap.size w' ((gMe s).1,va,vc,vh):=by
 have hlt:=h.lt
 have hb0':w0.heap.size≤w.heap.size:=h.ext0.size
 have hcl0:∀ s3,s3=(gPr (gTx (gUp 2 s).2).2).2→(gB (gU (gU (gU s3).2).2).1 (gU (gU (gU s3).2).2).2).1.length≤140737488355328:=by
  rintro s3 rfl
  have q7:=ZbA 2 s
  have q6:=(ZbH (gUp 2 s).2).1
  have q5:(gPr (gTx (gUp 2 s).2).2).2.1.length≤(gTx (gUp 2 s).2).2.1.length:=(ZbH _).1
  generalize (gPr (gTx (gUp 2 s).2).2).2=s3 at q5 ⊢
  have q1:=ZeB s3
  have q2:=ZeB (gU s3).2
  have q3:=ZeB (gU (gU s3).2).2
  have q4:=(Zjq (gU (gU (gU s3).2).2).1 (gU (gU (gU s3).2).2).2).2
  omega
 have hf1:=Zn0 (k:=2) h.fit
 have hf2:=ZmT hf1
 have hf3:=Zrx hf2
 have C1:=Lh (Zb1 w0 _ g s 2 (h.ext ((Ext.refl w).alloc (.cells #[.bool false,.bool false,.string ⟨#[]⟩,.int .i64 0,.string ⟨#[]⟩,.slice none 0 0,.int .i64 0,.int .i64 0,.slice none 0 0,.slice none 0 0] 47))))
 have C2:=Lh (fun W (hW:RK w0 W g (gUp 2 s).2)=>Zbz w0 W g _ hW)
 have C3:=Lh (fun W (hW:RK w0 W g (gTx (gUp 2 s).2).2)=>Zmm w0 W g _ hW (by have:=(ZbH (gUp 2 s).2).1;have:=ZbA 2 s;omega))
 have hG:gMe s=if (gUp 2 s).1=2 then (⟨decide ((gUp 2 s).1=1),decide ((gUp 2 s).1=2),(gTx (gUp 2 s).2).1,tyO (gPr (gTx (gUp 2 s).2).2).1.ret,(gPr (gTx (gUp 2 s).2).2).1.args.map tyO,0,0,[],[]⟩,(gPr (gTx (gUp 2 s).2).2).2) else gMt ⟨decide ((gUp 2 s).1=1),decide ((gUp 2 s).1=2),(gTx (gUp 2 s).2).1,tyO (gPr (gTx (gUp 2 s).2).2).1.ret,(gPr (gTx (gUp 2 s).2).2).1.args.map tyO,0,0,[],[]⟩ (gPr (gTx (gUp 2 s).2).2).2:=rfl
 obtain⟨G,hGG⟩:∃ G,gMe s=G:=⟨_,rfl⟩
 rw [hGG] at hG ⊢
 obtain⟨X3,hX3⟩:∃ X,gPr (gTx (gUp 2 s).2).2=X:=⟨_,rfl⟩
 rw [hX3] at C3 hG hf3
 obtain⟨X2,hX2⟩:∃ X,gTx (gUp 2 s).2=X:=⟨_,rfl⟩
 rw [hX2] at C2 C3 hG
 obtain⟨X1,hX1⟩:∃ X,gUp 2 s=X:=⟨_,rfl⟩
 rw [hX1] at C1 C2 hG
 obtain⟨k1,s1⟩:=X1
 obtain⟨t,s2⟩:=X2
 obtain⟨p,s3⟩:=X3
 simp only at C1 C2 C3 hG hf3
 obtain⟨ars,hars⟩:∃ y,p.args.map tyO=y:=⟨_,rfl⟩
 obtain⟨rt,hrt⟩:∃ y,tyO p.ret=y:=⟨_,rfl⟩
 rw [hars,hrt] at C3 hG
 obtain⟨rk,rs⟩:=rt
 simp only at C3
 obtain⟨b1,hb1⟩:∃ b:Bool,(k1==1)=b:=⟨_,rfl⟩
 obtain⟨b2,hb2⟩:∃ b:Bool,(k1==2)=b:=⟨_,rfl⟩
 have hd1:decide (k1=1)=b1:=by rw [← hb1];by_cases e:k1=1 <;> simp [e]
 have hd2:decide (k1=2)=b2:=by rw [← hb2];by_cases e:k1=2 <;> simp [e]
 have hd3:(k1=2)↔b2=true:=by rw [← hd2];simp
 rw [hd1,hd2] at hG
 simp only [hd3] at hG
 -- what a method with code has behind
 have C4:=Lh (fun W (hW:RK w0 W g s3)=>ZbB w0 W g _ hW)
 have C5:=Lh (fun W (hW:RK w0 W g (gU s3).2)=>ZbB w0 W g _ hW)
 have C6:=Lh (fun W (hW:RK w0 W g (gU (gU s3).2).2)=>ZbB w0 W g _ hW)
 have C7:=Lh (fun W (hW:RK w0 W g (gU (gU (gU s3).2).2).2)=>ZbX w0 W g _ (gU (gU (gU s3).2).2).1 (Zrc (ZgP (ZgP hf3))).1 hW)
 have C8:=Lh (fun W (hW:RK w0 W g (gB (gU (gU (gU s3).2).2).1 (gU (gU (gU s3).2).2).2).2)=>ZlE w0 W g _ 146 gHd 3 (by decide) 3 rfl 256 rfl hW (hM.ext hW.ext0) (fun args W=>Tryz.call146 args W) ZqS (fun W2 s2 h2 _=>Zjj w0 W2 g s2 h2))
 have hcl:=hcl0 s3 (by rw [hX3])
 have hMt:gMt ⟨b1,b2,t,⟨rk,rs⟩,ars,0,0,[],[]⟩ s3=(⟨b1,b2,t,⟨rk,rs⟩,ars,(gU s3).1,(gU (gU s3).2).1,(gB (gU (gU (gU s3).2).2).1 (gU (gU (gU s3).2).2).2).1,(gLs 256 gHd (gB (gU (gU (gU s3).2).2).1 (gU (gU (gU s3).2).2).2).2).1⟩,(gLs 256 gHd (gB (gU (gU (gU s3).2).2).1 (gU (gU (gU s3).2).2).2).2).2):=rfl
 rw [hMt] at hG
 obtain⟨Y8,hY8⟩:∃ X,gLs 256 gHd (gB (gU (gU (gU s3).2).2).1 (gU (gU (gU s3).2).2).2).2=X:=⟨_,rfl⟩
 rw [hY8] at C8 hG
 obtain⟨Y7,hY7⟩:∃ X,gB (gU (gU (gU s3).2).2).1 (gU (gU (gU s3).2).2).2=X:=⟨_,rfl⟩
 rw [hY7] at C7 C8 hG hcl
 obtain⟨Y6,hY6⟩:∃ X,gU (gU (gU s3).2).2=X:=⟨_,rfl⟩
 rw [hY6] at C6 C7
 obtain⟨Y5,hY5⟩:∃ X,gU (gU s3).2=X:=⟨_,rfl⟩
 rw [hY5] at C5 C6 hG
 obtain⟨Y4,hY4⟩:∃ X,gU s3=X:=⟨_,rfl⟩
 rw [hY4] at C4 C5 hG
 obtain⟨n4,s4⟩:=Y4
 obtain⟨n5,s5⟩:=Y5
 obtain⟨n6,s6⟩:=Y6
 obtain⟨cb,s7⟩:=Y7
 obtain⟨hh,s8⟩:=Y8
 simp only at C4 C5 C6 C7 C8 hG hcl
 have HG:=Lh hG
 clear hcl0 h hl hG hGG hX1 hX2 hX3 hars hrt hd1 hd2 hd3 hf1 hf2 hf3 hMt hY4 hY5 hY6 hY7 hY8 hM
 go_enter Tryz.func93,Tryz.ntmps93
 go_wp2_with fail
 refine C1.out.mono ?_
 rintro x w1 ⟨rfl,h1,g1⟩
 have R1:=(BK.new w #[.bool false,.bool false,.string ⟨#[]⟩,.int .i64 0,.string ⟨#[]⟩,.slice none 0 0,.int .i64 0,.int .i64 0,.slice none 0 0,.slice none 0 0] 47).kept g1 (by omega)
 have M2:=Lh (show MI 47 #[.bool false,.bool false,.string ⟨#[]⟩,.int .i64 0,.string ⟨#[]⟩,.slice none 0 0,.int .i64 0,.int .i64 0,.slice none 0 0,.slice none 0 0] w0 w (w1.alloc (.cells #[.bool b1,.bool b2,.string ⟨#[]⟩,.int .i64 0,.string ⟨#[]⟩,.slice none 0 0,.int .i64 0,.int .i64 0,.slice none 0 0,.slice none 0 0] 47)) g w1.heap.size s1 _ from
  ⟨h1.ext ((Ext.refl w1).alloc _),BK.new w1 _ _,R1.ext ((Ext.refl w1).alloc _),Zbl (Zae (ZaB ((Ext.refl w).alloc _) (some g)) g1) ((Ext.refl w1).alloc _),hlt,R1.lt,hb0'⟩)
 clear h1 g1 R1
 go_wp2_with fail
 refine(C2.out _ M2.out.rk).mono ?_
 rintro x w2 ⟨rfl,h2,g2⟩
 have M3:=Lh (M2.out.call h2 g2)
 have f2:=M3.out.bk.free 2
 have c2:w2.cell? ⟨w1.heap.size,2,none⟩=some (.string ⟨#[]⟩):=M3.out.bk.cell 2
 have l2:=M3.out.bk.lt
 have M4:Hid (MI 47 #[.bool false,.bool false,.string ⟨#[]⟩,.int .i64 0,.string ⟨#[]⟩,.slice none 0 0,.int .i64 0,.int .i64 0,.slice none 0 0,.slice none 0 0] w0 w (w2.setCell ⟨w1.heap.size,2,none⟩ (Value.string t)) g w1.heap.size s2 #[Value.bool b1,Value.bool b2,Value.string t,Value.int .i64 0,Value.string ⟨#[]⟩,Value.slice none 0 0,Value.int .i64 0,Value.int .i64 0,Value.slice none 0 0,Value.slice none 0 0]):=Lh (M3.out.put 2 (Value.string t))
 clear h2 g2
 go_wp2_with fail
 refine(C3.out _ M4.out.rk).mono ?_
 rintro x w3 ⟨v3,⟨rfl,h3,g3⟩,ho3⟩
 obtain⟨A3,c3,rfl,-⟩:=ho3.slice
 have M5:=Lh (M4.out.call h3 g3)
 have l3:=M5.out.bk.lt
 have lb:=M5.out.lb
 have M6:Hid (MI 47 #[.bool false,.bool false,.string ⟨#[]⟩,.int .i64 0,.string ⟨#[]⟩,.slice none 0 0,.int .i64 0,.int .i64 0,.slice none 0 0,.slice none 0 0] w0 w (w3.setCell ⟨w1.heap.size,3,none⟩ (Value.int .i64 rk)) g w1.heap.size s3 #[Value.bool b1,Value.bool b2,Value.string t,Value.int .i64 rk,Value.string ⟨#[]⟩,Value.slice none 0 0,Value.int .i64 0,Value.int .i64 0,Value.slice none 0 0,Value.slice none 0 0]):=Lh (M5.out.put 3 (Value.int .i64 rk))
 have M7:Hid (MI 47 #[.bool false,.bool false,.string ⟨#[]⟩,.int .i64 0,.string ⟨#[]⟩,.slice none 0 0,.int .i64 0,.int .i64 0,.slice none 0 0,.slice none 0 0] w0 w ((w3.setCell ⟨w1.heap.size,3,none⟩ (Value.int .i64 rk)).setCell ⟨w1.heap.size,4,none⟩ (Value.string rs)) g w1.heap.size s3 #[Value.bool b1,Value.bool b2,Value.string t,Value.int .i64 rk,Value.string rs,Value.slice none 0 0,Value.int .i64 0,Value.int .i64 0,Value.slice none 0 0,Value.slice none 0 0]):=Lh (M6.out.put 4 (Value.string rs))
 have M8:Hid (MI 47 #[.bool false,.bool false,.string ⟨#[]⟩,.int .i64 0,.string ⟨#[]⟩,.slice none 0 0,.int .i64 0,.int .i64 0,.slice none 0 0,.slice none 0 0] w0 w (((w3.setCell ⟨w1.heap.size,3,none⟩ (Value.int .i64 rk)).setCell ⟨w1.heap.size,4,none⟩ (Value.string rs)).setCell ⟨w1.heap.size,5,none⟩ (Value.slice A3 ars.length c3)) g w1.heap.size s3 #[Value.bool b1,Value.bool b2,Value.string t,Value.int .i64 rk,Value.string rs,Value.slice A3 ars.length c3,Value.int .i64 0,Value.int .i64 0,Value.slice none 0 0,Value.slice none 0 0]):=Lh (M7.out.put 5 (Value.slice A3 ars.length c3))
 clear M6 M7
 have O3:=Lh (((ho3.baseF (B':=w1.heap.size+1) (by simp [World.setCell];omega) (fun _ h=>h)).keptU (Zac _ w1.heap.size 3 (.int .i64 rk)) (by omega) (fun _ h=>h)).keptU (Zac _ w1.heap.size 4 (.string rs)) (by omega) (fun _ h=>h) |>.keptU (Zac _ w1.heap.size 5 (.slice A3 ars.length c3)) (by omega) (fun _ h=>h))
 clear h3 g3 ho3 f2 c2
 have n1:¬ w.heap.size=w1.heap.size:=by omega
 have n2:¬ w1.heap.size=w.heap.size:=by omega
 obtain⟨na,hna⟩:∃ n,ars.length=n:=⟨_,rfl⟩
 rw [hna] at M8 O3 ⊢
 have c0:w3.cell? ⟨w1.heap.size,0,none⟩=some (Value.bool b1):=M5.out.bk.cell 0
 have c1:w3.cell? ⟨w1.heap.size,1,none⟩=some (Value.bool b2):=M5.out.bk.cell 1
 have c2:w3.cell? ⟨w1.heap.size,2,none⟩=some (Value.string t):=M5.out.bk.cell 2
 have c3':w3.cell? ⟨w1.heap.size,3,none⟩=some (Value.int .i64 0):=M5.out.bk.cell 3
 have c4:w3.cell? ⟨w1.heap.size,4,none⟩=some (Value.string ⟨#[]⟩):=M5.out.bk.cell 4
 have c5:w3.cell? ⟨w1.heap.size,5,none⟩=some (Value.slice none 0 0):=M5.out.bk.cell 5
 have c6:w3.cell? ⟨w1.heap.size,6,none⟩=some (Value.int .i64 0):=M5.out.bk.cell 6
 have c7:w3.cell? ⟨w1.heap.size,7,none⟩=some (Value.int .i64 0):=M5.out.bk.cell 7
 have c8:w3.cell? ⟨w1.heap.size,8,none⟩=some (Value.slice none 0 0):=M5.out.bk.cell 8
 have c9:w3.cell? ⟨w1.heap.size,9,none⟩=some (Value.slice none 0 0):=M5.out.bk.cell 9
 have f3:=M5.out.bk.free 3
 have f4:=M5.out.bk.free 4
 have f5:=M5.out.bk.free 5
 cases b2
 case true =>
  have HE:=Lh (HG.out.trans (if_pos rfl))
  have z0:w3.cell? ⟨w.heap.size,0,none⟩=some (.bool false):=M5.out.rz.cell 0
  have z1:w3.cell? ⟨w.heap.size,1,none⟩=some (.bool false):=M5.out.rz.cell 1
  have z2:w3.cell? ⟨w.heap.size,2,none⟩=some (.string ⟨#[]⟩):=M5.out.rz.cell 2
  have z3:w3.cell? ⟨w.heap.size,3,none⟩=some (.int .i64 0):=M5.out.rz.cell 3
  have z4:w3.cell? ⟨w.heap.size,4,none⟩=some (.string ⟨#[]⟩):=M5.out.rz.cell 4
  have z5:w3.cell? ⟨w.heap.size,5,none⟩=some (.slice none 0 0):=M5.out.rz.cell 5
  have z6:w3.cell? ⟨w.heap.size,6,none⟩=some (.int .i64 0):=M5.out.rz.cell 6
  have z7:w3.cell? ⟨w.heap.size,7,none⟩=some (.int .i64 0):=M5.out.rz.cell 7
  have z8:w3.cell? ⟨w.heap.size,8,none⟩=some (.slice none 0 0):=M5.out.rz.cell 8
  have z9:w3.cell? ⟨w.heap.size,9,none⟩=some (.slice none 0 0):=M5.out.rz.cell 9
  have g0:=M5.out.rz.free 0
  have g1:=M5.out.rz.free 1
  have g2:=M5.out.rz.free 2
  have g3:=M5.out.rz.free 3
  have g4:=M5.out.rz.free 4
  have g5:=M5.out.rz.free 5
  have g6:=M5.out.rz.free 6
  have g7:=M5.out.rz.free 7
  have g8:=M5.out.rz.free 8
  have g9:=M5.out.rz.free 9
  go_wp2
  refine bodyPost_ret (v:=.agg #[Value.bool b1,Value.bool true,Value.string t,Value.int .i64 rk,Value.string rs,Value.slice A3 na c3,Value.int .i64 0,Value.int .i64 0,Value.slice none 0 0,Value.slice none 0 0])
   (by simp [results,Tryz.results93,go_sem,z0,z1,z2,z3,z4,z5,z6,z7,z8,z9];try first | exact⟨rfl,rfl⟩ | rfl) rfl ?_
  rw [HE.out]
  exact⟨_,_,_,Zge (x:=⟨b1,true,t,⟨rk,rs⟩,ars,0,0,[],[]⟩) (va:=.slice A3 na c3) (vc:=.slice none 0 0) (vh:=.slice none 0 0) (B:=w1.heap.size+1) M8.out.rkg ⟨O3.out,Own.nil _ _ _ _,Shp.Own.nil _ _ _⟩ (by omega) _ _ _ _ _ _ _ _ _ _⟩
 case false =>
  have HE:=Lh (HG.out.trans (if_neg (by decide)))
  go_wp2_with fail
  refine(C4.out _ M8.out.rk).mono ?_
  rintro x w4 ⟨rfl,h4,g4⟩
  have M9:=Lh (M8.out.call h4 g4)
  have O4:=Lh (O3.out.keptU g4 (by omega) (fun _ h=>h))
  clear h4 g4 c0 c1 c2 c3' c4 c5 c6 c7 c8 c9 f3 f4 f5
  go_wp2_with fail
  refine(C5.out _ M9.out.rk).mono ?_
  rintro x w5 ⟨rfl,h5,g5⟩
  have M10:=Lh (M9.out.call h5 g5)
  have O5:=Lh (O4.out.keptU g5 (by omega) (fun _ h=>h))
  clear h5 g5
  have c6:w5.cell? ⟨w1.heap.size,6,none⟩=some (.int .i64 0):=M10.out.bk.cell 6
  have c7:w5.cell? ⟨w1.heap.size,7,none⟩=some (.int .i64 0):=M10.out.bk.cell 7
  have f6:=M10.out.bk.free 6
  have f7:=M10.out.bk.free 7
  have M11:Hid (MI 47 #[.bool false,.bool false,.string ⟨#[]⟩,.int .i64 0,.string ⟨#[]⟩,.slice none 0 0,.int .i64 0,.int .i64 0,.slice none 0 0,.slice none 0 0] w0 w (w5.setCell ⟨w1.heap.size,6,none⟩ (Value.int .i64 n4)) g w1.heap.size s5 #[Value.bool b1,Value.bool false,Value.string t,Value.int .i64 rk,Value.string rs,Value.slice A3 na c3,Value.int .i64 n4,Value.int .i64 0,Value.slice none 0 0,Value.slice none 0 0]):=Lh (M10.out.put 6 (Value.int .i64 n4))
  have M12:Hid (MI 47 #[.bool false,.bool false,.string ⟨#[]⟩,.int .i64 0,.string ⟨#[]⟩,.slice none 0 0,.int .i64 0,.int .i64 0,.slice none 0 0,.slice none 0 0] w0 w ((w5.setCell ⟨w1.heap.size,6,none⟩ (Value.int .i64 n4)).setCell ⟨w1.heap.size,7,none⟩ (Value.int .i64 n5)) g w1.heap.size s5 #[Value.bool b1,Value.bool false,Value.string t,Value.int .i64 rk,Value.string rs,Value.slice A3 na c3,Value.int .i64 n4,Value.int .i64 n5,Value.slice none 0 0,Value.slice none 0 0]):=Lh (M11.out.put 7 (Value.int .i64 n5))
  clear M11
  have O7:=Lh ((O5.out.keptU (Zac _ w1.heap.size 6 (.int .i64 n4)) (by omega) (fun _ h=>h)).keptU (Zac _ w1.heap.size 7 (.int .i64 n5)) (by omega) (fun _ h=>h))
  go_wp2_with fail
  refine(C6.out _ M12.out.rk).mono ?_
  rintro x w6 ⟨rfl,h6,g6⟩
  have M13:=Lh (M12.out.call h6 g6)
  have O8:=Lh (O7.out.keptU g6 (by omega) (fun _ h=>h))
  clear h6 g6 c6 c7 f6 f7
  go_wp2_with fail
  refine(C7.out _ M13.out.rk).mono ?_
  rintro x w7 ⟨v7,⟨rfl,h7,g7⟩,r7⟩
  have M14:=Lh (M13.out.call h7 g7)
  have O9:=Lh (O8.out.keptU g7 (by omega) (fun _ h=>h))
  have HC:=Lh (ZcI v7 cb w7 (r7.ext h7.ext0) hcl)
  clear h7 g7
  obtain⟨A7,c7,rfl,-⟩:=r7
  go_wp2_with fail
  refine HC.out.mono ?_
  rintro x w8 ⟨v8,rfl,ho8,x8⟩
  obtain⟨A8,n8,c8,rfl⟩:=ho8.slice
  have M15:=Lh (M14.out.ext x8)
  have c8':w8.cell? ⟨w1.heap.size,8,none⟩=some (.slice none 0 0):=M15.out.bk.cell 8
  have f8:=M15.out.bk.free 8
  have l8:=M14.out.bk.lt
  have l9:=M15.out.bk.lt
  have M16:Hid (MI 47 #[.bool false,.bool false,.string ⟨#[]⟩,.int .i64 0,.string ⟨#[]⟩,.slice none 0 0,.int .i64 0,.int .i64 0,.slice none 0 0,.slice none 0 0] w0 w (w8.setCell ⟨w1.heap.size,8,none⟩ (Value.slice A8 n8 c8)) g w1.heap.size s7 #[Value.bool b1,Value.bool false,Value.string t,Value.int .i64 rk,Value.string rs,Value.slice A3 na c3,Value.int .i64 n4,Value.int .i64 n5,Value.slice A8 n8 c8,Value.slice none 0 0]):=Lh (M15.out.put 8 (Value.slice A8 n8 c8))
  have O10:=Lh ((O9.out.ext x8).keptU (Zac _ w1.heap.size 8 (.slice A8 n8 c8)) (by omega) (fun _ h=>h))
  have P10:=Lh ((ho8.base (show w1.heap.size+1≤w7.heap.size by omega)).keptU (Zac _ w1.heap.size 8 (.slice A8 n8 c8)) (by omega))
  clear x8 ho8
  go_wp2_with fail
  refine(C8.out _ M16.out.rk).mono ?_
  rintro x w9 ⟨v9,⟨rfl,h9,g9⟩,ho9⟩
  obtain⟨A9,c9,rfl,-⟩:=ho9.slice
  have M17:=Lh (M16.out.call h9 g9)
  have O11:=Lh (O10.out.keptU g9 (by omega) (fun _ h=>h))
  have P11:=Lh (P10.out.keptU g9 (by omega))
  have Q11:=Lh (ho9.baseF (B':=w1.heap.size+1) (by simp [World.setCell];omega) (fun _ h=>h))
  obtain⟨nh,hnh⟩:∃ n,hh.length=n:=⟨_,rfl⟩
  rw [hnh] at Q11 ⊢
  clear h9 g9 ho9 c8' f8
  have l10:=M17.out.bk.lt
  have M18:Hid (MI 47 #[.bool false,.bool false,.string ⟨#[]⟩,.int .i64 0,.string ⟨#[]⟩,.slice none 0 0,.int .i64 0,.int .i64 0,.slice none 0 0,.slice none 0 0] w0 w (w9.setCell ⟨w1.heap.size,9,none⟩ (Value.slice A9 nh c9)) g w1.heap.size s8 #[Value.bool b1,Value.bool false,Value.string t,Value.int .i64 rk,Value.string rs,Value.slice A3 na c3,Value.int .i64 n4,Value.int .i64 n5,Value.slice A8 n8 c8,Value.slice A9 nh c9]):=Lh (M17.out.put 9 (Value.slice A9 nh c9))
  have f9:=M17.out.bk.free 9
  have y0:w9.cell? ⟨w1.heap.size,0,none⟩=some (Value.bool b1):=M17.out.bk.cell 0
  have y1:w9.cell? ⟨w1.heap.size,1,none⟩=some (Value.bool false):=M17.out.bk.cell 1
  have y2:w9.cell? ⟨w1.heap.size,2,none⟩=some (Value.string t):=M17.out.bk.cell 2
  have y3:w9.cell? ⟨w1.heap.size,3,none⟩=some (Value.int .i64 rk):=M17.out.bk.cell 3
  have y4:w9.cell? ⟨w1.heap.size,4,none⟩=some (Value.string rs):=M17.out.bk.cell 4
  have y5:w9.cell? ⟨w1.heap.size,5,none⟩=some (Value.slice A3 na c3):=M17.out.bk.cell 5
  have y6:w9.cell? ⟨w1.heap.size,6,none⟩=some (Value.int .i64 n4):=M17.out.bk.cell 6
  have y7:w9.cell? ⟨w1.heap.size,7,none⟩=some (Value.int .i64 n5):=M17.out.bk.cell 7
  have y8:w9.cell? ⟨w1.heap.size,8,none⟩=some (Value.slice A8 n8 c8):=M17.out.bk.cell 8
  have y9:w9.cell? ⟨w1.heap.size,9,none⟩=some (Value.slice none 0 0):=M17.out.bk.cell 9
  have z0:w9.cell? ⟨w.heap.size,0,none⟩=some (.bool false):=M17.out.rz.cell 0
  have z1:w9.cell? ⟨w.heap.size,1,none⟩=some (.bool false):=M17.out.rz.cell 1
  have z2:w9.cell? ⟨w.heap.size,2,none⟩=some (.string ⟨#[]⟩):=M17.out.rz.cell 2
  have z3:w9.cell? ⟨w.heap.size,3,none⟩=some (.int .i64 0):=M17.out.rz.cell 3
  have z4:w9.cell? ⟨w.heap.size,4,none⟩=some (.string ⟨#[]⟩):=M17.out.rz.cell 4
  have z5:w9.cell? ⟨w.heap.size,5,none⟩=some (.slice none 0 0):=M17.out.rz.cell 5
  have z6:w9.cell? ⟨w.heap.size,6,none⟩=some (.int .i64 0):=M17.out.rz.cell 6
  have z7:w9.cell? ⟨w.heap.size,7,none⟩=some (.int .i64 0):=M17.out.rz.cell 7
  have z8:w9.cell? ⟨w.heap.size,8,none⟩=some (.slice none 0 0):=M17.out.rz.cell 8
  have z9:w9.cell? ⟨w.heap.size,9,none⟩=some (.slice none 0 0):=M17.out.rz.cell 9
  have g0:=M17.out.rz.free 0
  have g1:=M17.out.rz.free 1
  have g2:=M17.out.rz.free 2
  have g3:=M17.out.rz.free 3
  have g4:=M17.out.rz.free 4
  have g5:=M17.out.rz.free 5
  have g6:=M17.out.rz.free 6
  have g7:=M17.out.rz.free 7
  have g8:=M17.out.rz.free 8
  have g9:=M17.out.rz.free 9
  go_wp2
  refine bodyPost_ret (v:=.agg #[Value.bool b1,Value.bool false,Value.string t,Value.int .i64 rk,Value.string rs,Value.slice A3 na c3,Value.int .i64 n4,Value.int .i64 n5,Value.slice A8 n8 c8,Value.slice A9 nh c9])
   (by simp [results,Tryz.results93,go_sem,z0,z1,z2,z3,z4,z5,z6,z7,z8,z9];try first | exact⟨rfl,rfl⟩ | rfl) rfl ?_
  rw [HE.out]
  have O12:=O11.out.keptU (Zac w9 w1.heap.size 9 (.slice A9 nh c9)) (by omega) (fun _ h=>h)
  have P12:=P11.out.keptU (Zac w9 w1.heap.size 9 (.slice A9 nh c9)) (by omega)
  have Q12:=Q11.out.keptU (Zac w9 w1.heap.size 9 (.slice A9 nh c9)) (by omega) (fun _ h=>h)
  exact⟨_,_,_,Zge (x:=⟨b1,false,t,⟨rk,rs⟩,ars,n4,n5,cb,hh⟩) (va:=.slice A3 na c3) (vc:=.slice A8 n8 c8) (vh:=.slice A9 nh c9) (B:=w1.heap.size+1) M18.out.rkg ⟨O12,P12,Q12⟩ (by omega) _ _ _ _ _ _ _ _ _ _⟩
end Go.Proofs.YtclamhhgldkhnaaGreatDoor
