/- Several texts of this proof, one behind the other. -/
import Derived.Test.YtclamhhgldkhnaaGreatDoorZwS
namespace Go.Proofs.YtclamhhgldkhnaaGreatDoor
open Go.RowKit
set_option linter.unusedVariables false
set_option maxHeartbeats 16000000
theorem ZnH (w:World) (g:Nat) (L r:List UInt8) (b:Bool) (h:RD w g L b) (e73:ZaL 73 L=(r,true)) :
 Calls Tryz.prog 246 #[.pointer (some ⟨g,0,none⟩)] w (RRet w g (.agg (TyD.vals ⟨1,[]⟩)) r b):=by
 have hlt:=h.lt
 have hne:w.heap.size≠g:=by omega
 have h1:=h.ext ((Ext.refl w).alloc (.cells #[.int .i64 0,.string ⟨#[]⟩] 41))
 have hb1:=Blk.new w
 have hg1:w.grownBy (w.alloc (.cells #[.int .i64 0,.string ⟨#[]⟩] 41)) (some g):=Za7 ((Ext.refl w).alloc _) _
 obtain⟨w1,hw1⟩:∃ w1,w1=w.alloc (.cells #[.int .i64 0,.string ⟨#[]⟩] 41):=⟨_,rfl⟩
 rw [← hw1] at h1 hb1 hg1
 have H1:=Lh h1
 have HB1:=Lh hb1
 have HG1:=Lh hg1
 clear h1 hb1 hg1 h
 have k73:=fun W (h:RD W g L b)=>ZaR 73 W g L b h
 rw [e73] at k73
 have K73:=Lh k73
 clear k73 e73
 go_enter Tryz.func246,Tryz.ntmps246
 go_wp2_with fail
 rw [← hw1]
 refine(K73.out _ H1.out).mono ?_
 rintro e w2 ⟨rfl,h2,g2⟩
 have H2:=Lh h2
 have HG2:=Lh (Zaf HG1.out g2)
 have HB2:=Lh (HB1.out.kept g2 (fun k hk=>by injection hk with hk;omega))
 clear h2 g2
 obtain⟨d0,d1,f0,f1⟩:=HB2.out.cells
 unfold TyD.vals
 go_wp2
 refine bodyPost_ret (v:=.agg (TyD.vals ⟨1,[]⟩)) (by unfold TyD.vals;simp [results,Tryz.results246,go_sem,d0,d1];try first | exact⟨rfl,rfl⟩ | rfl) rfl ⟨rfl,?_⟩
 have:=fin H2.out HG2.out (Nat.le_refl _) hne (.int .i64 1) (.string ⟨#[]⟩)
 simpa using this
theorem Zno (w:World) (g:Nat) (L r:List UInt8) (b:Bool) (h:RD w g L b) (e73:ZaL 73 L=(L,false)) (e74:ZaL 74 L=(r,true)) :
 Calls Tryz.prog 246 #[.pointer (some ⟨g,0,none⟩)] w (RRet w g (.agg (TyD.vals ⟨2,[]⟩)) r b):=by
 have hlt:=h.lt
 have hne:w.heap.size≠g:=by omega
 have h1:=h.ext ((Ext.refl w).alloc (.cells #[.int .i64 0,.string ⟨#[]⟩] 41))
 have hb1:=Blk.new w
 have hg1:w.grownBy (w.alloc (.cells #[.int .i64 0,.string ⟨#[]⟩] 41)) (some g):=Za7 ((Ext.refl w).alloc _) _
 obtain⟨w1,hw1⟩:∃ w1,w1=w.alloc (.cells #[.int .i64 0,.string ⟨#[]⟩] 41):=⟨_,rfl⟩
 rw [← hw1] at h1 hb1 hg1
 have H1:=Lh h1
 have HB1:=Lh hb1
 have HG1:=Lh hg1
 clear h1 hb1 hg1 h
 have k73:=fun W (h:RD W g L b)=>ZaR 73 W g L b h
 rw [e73] at k73
 have K73:=Lh k73
 clear k73 e73
 have k74:=fun W (h:RD W g L b)=>ZaR 74 W g L b h
 rw [e74] at k74
 have K74:=Lh k74
 clear k74 e74
 go_enter Tryz.func246,Tryz.ntmps246
 go_wp2_with fail
 rw [← hw1]
 refine(K73.out _ H1.out).mono ?_
 rintro e w2 ⟨rfl,h2,g2⟩
 have H2:=Lh h2
 have HG2:=Lh (Zaf HG1.out g2)
 have HB2:=Lh (HB1.out.kept g2 (fun k hk=>by injection hk with hk;omega))
 clear h2 g2
 go_wp2_with fail
 refine(K74.out _ H2.out).mono ?_
 rintro e w3 ⟨rfl,h3,g3⟩
 have H3:=Lh h3
 have HG3:=Lh (Zaf HG2.out g3)
 have HB3:=Lh (HB2.out.kept g3 (fun k hk=>by injection hk with hk;omega))
 clear h3 g3
 obtain⟨d0,d1,f0,f1⟩:=HB3.out.cells
 unfold TyD.vals
 go_wp2
 refine bodyPost_ret (v:=.agg (TyD.vals ⟨2,[]⟩)) (by unfold TyD.vals;simp [results,Tryz.results246,go_sem,d0,d1];try first | exact⟨rfl,rfl⟩ | rfl) rfl ⟨rfl,?_⟩
 have:=fin H3.out HG3.out (Nat.le_refl _) hne (.int .i64 2) (.string ⟨#[]⟩)
 simpa using this
theorem ZmJ (w:World) (g:Nat) (L r:List UInt8) (b:Bool) (h:RD w g L b) (e73:ZaL 73 L=(L,false)) (e74:ZaL 74 L=(L,false)) (e76:ZaL 76 L=(r,true)) (hr:r.length≤140737488351232) :
 Calls Tryz.prog 246 #[.pointer (some ⟨g,0,none⟩)] w (RRet w g (.agg (TyD.vals (refZ r).1)) (refZ r).2.1 (b || !(refZ r).2.2)):=by
 have hlt:=h.lt
 have hne:w.heap.size≠g:=by omega
 have h1:=h.ext ((Ext.refl w).alloc (.cells #[.int .i64 0,.string ⟨#[]⟩] 41))
 have hb1:=Blk.new w
 have hg1:w.grownBy (w.alloc (.cells #[.int .i64 0,.string ⟨#[]⟩] 41)) (some g):=Za7 ((Ext.refl w).alloc _) _
 obtain⟨w1,hw1⟩:∃ w1,w1=w.alloc (.cells #[.int .i64 0,.string ⟨#[]⟩] 41):=⟨_,rfl⟩
 rw [← hw1] at h1 hb1 hg1
 have H1:=Lh h1
 have HB1:=Lh hb1
 have HG1:=Lh hg1
 clear h1 hb1 hg1 h
 have k73:=fun W (h:RD W g L b)=>ZaR 73 W g L b h
 rw [e73] at k73
 have K73:=Lh k73
 clear k73 e73
 have k74:=fun W (h:RD W g L b)=>ZaR 74 W g L b h
 rw [e74] at k74
 have K74:=Lh k74
 clear k74 e74
 have k76:=fun W (h:RD W g L b)=>ZaR 76 W g L b h
 rw [e76] at k76
 have K76:=Lh k76
 clear k76 e76
 have HF:=Lh (fun W (h:RD W g r b)=>Zo8 W g r b hr h)
 obtain⟨X,hX⟩:∃ X,X=refZ r:=⟨_,rfl⟩
 rw [← hX] at HF ⊢
 clear hX hr
 go_enter Tryz.func246,Tryz.ntmps246
 go_wp2_with fail
 rw [← hw1]
 refine(K73.out _ H1.out).mono ?_
 rintro e w2 ⟨rfl,h2,g2⟩
 have H2:=Lh h2
 have HG2:=Lh (Zaf HG1.out g2)
 have HB2:=Lh (HB1.out.kept g2 (fun k hk=>by injection hk with hk;omega))
 clear h2 g2
 go_wp2_with fail
 refine(K74.out _ H2.out).mono ?_
 rintro e w3 ⟨rfl,h3,g3⟩
 have H3:=Lh h3
 have HG3:=Lh (Zaf HG2.out g3)
 have HB3:=Lh (HB2.out.kept g3 (fun k hk=>by injection hk with hk;omega))
 clear h3 g3
 go_wp2_with fail
 refine(K76.out _ H3.out).mono ?_
 rintro e w4 ⟨rfl,h4,g4⟩
 have H4:=Lh h4
 have HG4:=Lh (Zaf HG3.out g4)
 have HB4:=Lh (HB3.out.kept g4 (fun k hk=>by injection hk with hk;omega))
 clear h4 g4
 go_wp2_with fail
 refine(HF.out _ H4.out).mono ?_
 rintro e w5 ⟨rfl,h5,g5⟩
 have H5:=Lh h5
 have HG5:=Lh (Zaf HG4.out g5)
 have HB5:=Lh (HB4.out.kept g5 (fun k hk=>by injection hk with hk;omega))
 clear h5 g5
 obtain⟨d0,d1,f0,f1⟩:=HB5.out.cells
 unfold TyD.vals
 go_wp2
 refine bodyPost_ret (v:=.agg (TyD.vals X.1)) (by unfold TyD.vals;simp [results,Tryz.results246,go_sem,d0,d1];try first | exact⟨rfl,rfl⟩ | rfl) rfl ⟨rfl,?_⟩
 have:=fin H5.out HG5.out (Nat.le_refl _) hne (.int .i64 X.1.k) (.string (bs X.1.s))
 simpa using this
theorem Zi9 (w:World) (g:Nat) (L r:List UInt8) (b:Bool) (h:RD w g L b) (e73:ZaL 73 L=(L,false)) (e74:ZaL 74 L=(L,false)) (e76:ZaL 76 L=(L,false)) :
 Calls Tryz.prog 246 #[.pointer (some ⟨g,0,none⟩)] w (RRet w g (.agg (TyD.vals t0D)) L true):=by
 have hlt:=h.lt
 have hne:w.heap.size≠g:=by omega
 have h1:=h.ext ((Ext.refl w).alloc (.cells #[.int .i64 0,.string ⟨#[]⟩] 41))
 have hb1:=Blk.new w
 have hg1:w.grownBy (w.alloc (.cells #[.int .i64 0,.string ⟨#[]⟩] 41)) (some g):=Za7 ((Ext.refl w).alloc _) _
 obtain⟨w1,hw1⟩:∃ w1,w1=w.alloc (.cells #[.int .i64 0,.string ⟨#[]⟩] 41):=⟨_,rfl⟩
 rw [← hw1] at h1 hb1 hg1
 have H1:=Lh h1
 have HB1:=Lh hb1
 have HG1:=Lh hg1
 clear h1 hb1 hg1 h
 have k73:=fun W (h:RD W g L b)=>ZaR 73 W g L b h
 rw [e73] at k73
 have K73:=Lh k73
 clear k73 e73
 have k74:=fun W (h:RD W g L b)=>ZaR 74 W g L b h
 rw [e74] at k74
 have K74:=Lh k74
 clear k74 e74
 have k76:=fun W (h:RD W g L b)=>ZaR 76 W g L b h
 rw [e76] at k76
 have K76:=Lh k76
 clear k76 e76
 go_enter Tryz.func246,Tryz.ntmps246
 go_wp2_with fail
 rw [← hw1]
 refine(K73.out _ H1.out).mono ?_
 rintro e w2 ⟨rfl,h2,g2⟩
 have H2:=Lh h2
 have HG2:=Lh (Zaf HG1.out g2)
 have HB2:=Lh (HB1.out.kept g2 (fun k hk=>by injection hk with hk;omega))
 clear h2 g2
 go_wp2_with fail
 refine(K74.out _ H2.out).mono ?_
 rintro e w3 ⟨rfl,h3,g3⟩
 have H3:=Lh h3
 have HG3:=Lh (Zaf HG2.out g3)
 have HB3:=Lh (HB2.out.kept g3 (fun k hk=>by injection hk with hk;omega))
 clear h3 g3
 go_wp2_with fail
 refine(K76.out _ H3.out).mono ?_
 rintro e w4 ⟨rfl,h4,g4⟩
 have H4:=Lh h4
 have HG4:=Lh (Zaf HG3.out g4)
 have HB4:=Lh (HB3.out.kept g4 (fun k hk=>by injection hk with hk;omega))
 clear h4 g4
 go_wp2_with fail
 refine(ZcA _ g _ _ H4.out).mono ?_
 rintro e w5 ⟨rfl,h5,g5⟩
 have H5:=Lh h5
 have HG5:=Lh (Zaf HG4.out g5)
 have HB5:=Lh (HB4.out.kept g5 (fun k hk=>by injection hk with hk;omega))
 clear h5 g5
 obtain⟨d0,d1,f0,f1⟩:=HB5.out.cells
 unfold TyD.vals t0D
 go_wp2
 refine bodyPost_ret (v:=.agg (TyD.vals t0D)) (by unfold TyD.vals;simp [results,Tryz.results246,go_sem,d0,d1];try first | exact⟨rfl,rfl⟩ | rfl) rfl ⟨rfl,?_⟩
 have:=fin H5.out HG5.out (Nat.le_refl _) hne (.int .i64 0) (.string (bs []))
 simpa using this
theorem Zbq (m:UInt8) (r:List UInt8):ZaL m (m :: r)=(r,true):=by rw [ZaL,if_pos rfl]
theorem Zbm {m c:UInt8} (h:¬ c=m) (r:List UInt8):ZaL m (c :: r)=(c :: r,false):=by rw [ZaL,if_neg h]
theorem ZgR (w:World) (g:Nat) (L:List UInt8) (b:Bool) (hl:L.length≤140737488351232) (h:RD w g L b) :
 Calls Tryz.prog 246 #[.pointer (some ⟨g,0,none⟩)] w (RRet w g (.agg (TyD.vals (ZaF L).1)) (ZaF L).2.1 (b || !(ZaF L).2.2)):=by
 match L,hl,h with
 | [],_,h =>
  have:=Zi9 w g [] [] b h rfl rfl rfl
  simpa [ZaF] using this
 | c :: r,hl,h =>
  have hr:r.length≤140737488351232:=by simp only [List.length_cons] at hl;omega
  rw [ZaF]
  by_cases h1:c=73
  ·subst h1
   rw [if_pos rfl]
   have:=ZnH w g _ r b h (Zbq _ _)
   simpa using this
  rw [if_neg h1]
  by_cases h2:c=74
  ·subst h2
   rw [if_pos rfl]
   have:=Zno w g _ r b h (Zbm h1 _) (Zbq _ _)
   simpa using this
  rw [if_neg h2]
  by_cases h3:c=76
  ·subst h3
   rw [if_pos rfl]
   exact ZmJ w g _ r b h (Zbm h1 _) (Zbm h2 _) (Zbq _ _) hr
  ·rw [if_neg h3]
   have:=Zi9 w g _ [] b h (Zbm h1 _) (Zbm h2 _) (Zbm h3 _)
   simpa using this
theorem Zq7 (w:World) (g:Nat) (L:List UInt8) (b:Bool) (h:RD w g L b) (e91:ZaL 91 L=(L,false)) (hl:L.length≤140737488351232) :
 Calls Tryz.prog 219 #[.pointer (some ⟨g,0,none⟩)] w (RRet w g (.agg (TyD.vals (ZaF L).1)) (ZaF L).2.1 (b || !(ZaF L).2.2)):=by
 have hlt:=h.lt
 have hne:w.heap.size≠g:=by omega
 have h1:=h.ext ((Ext.refl w).alloc (.cells #[.int .i64 0,.string ⟨#[]⟩] 41))
 have hb1:=Blk.new w
 have hg1:w.grownBy (w.alloc (.cells #[.int .i64 0,.string ⟨#[]⟩] 41)) (some g):=Za7 ((Ext.refl w).alloc _) _
 obtain⟨w1,hw1⟩:∃ w1,w1=w.alloc (.cells #[.int .i64 0,.string ⟨#[]⟩] 41):=⟨_,rfl⟩
 rw [← hw1] at h1 hb1 hg1
 have H1:=Lh h1
 have HB1:=Lh hb1
 have HG1:=Lh hg1
 clear h1 hb1 hg1 h
 have k91:=fun W (h:RD W g L b)=>ZaR 91 W g L b h
 rw [e91] at k91
 have K91:=Lh k91
 clear k91 e91
 have HF:=Lh (fun W (h:RD W g L b)=>ZgR W g L b hl h)
 obtain⟨X,hX⟩:∃ X,X=ZaF L:=⟨_,rfl⟩
 rw [← hX] at HF ⊢
 clear hX hl
 go_enter Tryz.func219,Tryz.ntmps219
 go_wp2_with fail
 rw [← hw1]
 refine(K91.out _ H1.out).mono ?_
 rintro e w2 ⟨rfl,h2,g2⟩
 have H2:=Lh h2
 have HG2:=Lh (Zaf HG1.out g2)
 have HB2:=Lh (HB1.out.kept g2 (fun k hk=>by injection hk with hk;omega))
 clear h2 g2
 go_wp2_with fail
 refine(HF.out _ H2.out).mono ?_
 rintro e w3 ⟨rfl,h3,g3⟩
 have H3:=Lh h3
 have HG3:=Lh (Zaf HG2.out g3)
 have HB3:=Lh (HB2.out.kept g3 (fun k hk=>by injection hk with hk;omega))
 clear h3 g3
 obtain⟨d0,d1,f0,f1⟩:=HB3.out.cells
 unfold TyD.vals
 go_wp2
 refine bodyPost_ret (v:=.agg (TyD.vals X.1)) (by unfold TyD.vals;simp [results,Tryz.results219,go_sem,d0,d1];try first | exact⟨rfl,rfl⟩ | rfl) rfl ⟨rfl,?_⟩
 have:=fin H3.out HG3.out (Nat.le_refl _) hne (.int .i64 X.1.k) (.string (bs X.1.s))
 simpa using this
theorem Zte (w:World) (g:Nat) (L r:List UInt8) (b:Bool) (h:RD w g L b) (e91:ZaL 91 L=(r,true)) (hr:r.length≤140737488351232) :
 Calls Tryz.prog 219 #[.pointer (some ⟨g,0,none⟩)] w (RRet w g (.agg (TyD.vals (Zc9 (ZaF r).1).1)) (ZaF r).2.1 (b || !(ZaF r).2.2)):=by
 have hlt:=h.lt
 have hne:w.heap.size≠g:=by omega
 have h1:=h.ext ((Ext.refl w).alloc (.cells #[.int .i64 0,.string ⟨#[]⟩] 41))
 have hb1:=Blk.new w
 have hg1:w.grownBy (w.alloc (.cells #[.int .i64 0,.string ⟨#[]⟩] 41)) (some g):=Za7 ((Ext.refl w).alloc _) _
 obtain⟨w1,hw1⟩:∃ w1,w1=w.alloc (.cells #[.int .i64 0,.string ⟨#[]⟩] 41):=⟨_,rfl⟩
 rw [← hw1] at h1 hb1 hg1
 have H1:=Lh h1
 have HB1:=Lh hb1
 have HG1:=Lh hg1
 clear h1 hb1 hg1 h
 have k91:=fun W (h:RD W g L b)=>ZaR 91 W g L b h
 rw [e91] at k91
 have K91:=Lh k91
 clear k91 e91
 have HF:=Lh (fun W (h:RD W g r b)=>ZgR W g r b hr h)
 have hx:=ZeK r
 obtain⟨X,hX⟩:∃ X,X=ZaF r:=⟨_,rfl⟩
 rw [← hX] at HF hx ⊢
 have ho:=fun W=>Zpm X.1 W (by omega)
 unfold TyD.vals at ho
 obtain⟨Z,hZ⟩:∃ Z,Z=Zc9 X.1:=⟨_,rfl⟩
 rw [← hZ] at ho ⊢
 have HO:=Lh ho
 clear hX hr hx ho hZ
 go_enter Tryz.func219,Tryz.ntmps219
 go_wp2_with fail
 rw [← hw1]
 refine(K91.out _ H1.out).mono ?_
 rintro e w2 ⟨rfl,h2,g2⟩
 have H2:=Lh h2
 have HG2:=Lh (Zaf HG1.out g2)
 have HB2:=Lh (HB1.out.kept g2 (fun k hk=>by injection hk with hk;omega))
 clear h2 g2
 go_wp2_with fail
 refine(HF.out _ H2.out).mono ?_
 rintro e w3 ⟨rfl,h3,g3⟩
 have H3:=Lh h3
 have HG3:=Lh (Zaf HG2.out g3)
 have HB3:=Lh (HB2.out.kept g3 (fun k hk=>by injection hk with hk;omega))
 clear h3 g3
 unfold TyD.vals
 go_wp2_with fail
 refine(HO.out _).mono ?_
 rintro e w4 ⟨rfl,x4⟩
 have H4:=Lh (H3.out.ext x4)
 have HG4:=Lh (Za3 HG3.out x4)
 have HB4:=Lh (HB3.out.ext x4)
 clear x4
 obtain⟨d0,d1,f0,f1⟩:=HB4.out.cells
 have hlt4:w.heap.size<w4.heap.size:=Zab HB4.out
 have hne4:¬ w.heap.size=w4.heap.size:=by omega
 go_wp2
 have hf:=fin H4.out HG4.out (Nat.le_refl _) hne (.int .i64 Z.1.k) (.string (bs Z.1.s))
 refine bodyPost_ret (v:=.agg (TyD.vals Z.1)) (by unfold TyD.vals;simp [results,Tryz.results219,go_sem,d0,d1,hlt4];try first | exact⟨rfl,rfl⟩ | rfl) rfl ⟨rfl,?_,?_⟩
 ·exact hf.1.ext ((Ext.refl _).alloc _)
 ·exact Za3 hf.2 ((Ext.refl _).alloc _)
theorem ZeU (w:World) (g:Nat) (L:List UInt8) (b:Bool) (hl:L.length≤140737488351232) (h:RD w g L b) :
 Calls Tryz.prog 219 #[.pointer (some ⟨g,0,none⟩)] w (RRet w g (.agg (TyD.vals (typZ L).1)) (typZ L).2.1 (b || !(typZ L).2.2)):=by
 match L,hl,h with
 | [],hl,h=>exact Zq7 w g [] b h rfl hl
 | c :: r,hl,h =>
  have hr:r.length≤140737488351232:=by simp only [List.length_cons] at hl;omega
  rw [typZ]
  by_cases h1:c=91
  ·subst h1
   rw [if_pos rfl]
   exact Zte w g _ r b h (Zbq _ _) hr
  ·rw [if_neg h1]
   exact Zq7 w g _ b h (Zbm h1 _) hl
theorem ZqC (w:World) (g:Nat) (L:List UInt8) (b:Bool) (h:RD w g L b) (e86:ZaL 86 L=(L,false)) (hl:L.length≤140737488351232) :
 Calls Tryz.prog 222 #[.pointer (some ⟨g,0,none⟩)] w (RRet w g (.agg (TyD.vals (typZ L).1)) (typZ L).2.1 (b || !(typZ L).2.2)):=by
 have hlt:=h.lt
 have hne:w.heap.size≠g:=by omega
 have h1:=h.ext ((Ext.refl w).alloc (.cells #[.int .i64 0,.string ⟨#[]⟩] 41))
 have hb1:=Blk.new w
 have hg1:w.grownBy (w.alloc (.cells #[.int .i64 0,.string ⟨#[]⟩] 41)) (some g):=Za7 ((Ext.refl w).alloc _) _
 obtain⟨w1,hw1⟩:∃ w1,w1=w.alloc (.cells #[.int .i64 0,.string ⟨#[]⟩] 41):=⟨_,rfl⟩
 rw [← hw1] at h1 hb1 hg1
 have H1:=Lh h1
 have HB1:=Lh hb1
 have HG1:=Lh hg1
 clear h1 hb1 hg1 h
 have k86:=fun W (h:RD W g L b)=>ZaR 86 W g L b h
 rw [e86] at k86
 have K86:=Lh k86
 clear k86 e86
 have HF:=Lh (fun W (h:RD W g L b)=>ZeU W g L b hl h)
 obtain⟨X,hX⟩:∃ X,X=typZ L:=⟨_,rfl⟩
 rw [← hX] at HF ⊢
 clear hX hl
 go_enter Tryz.func222,Tryz.ntmps222
 go_wp2_with fail
 rw [← hw1]
 refine(K86.out _ H1.out).mono ?_
 rintro e w2 ⟨rfl,h2,g2⟩
 have H2:=Lh h2
 have HG2:=Lh (Zaf HG1.out g2)
 have HB2:=Lh (HB1.out.kept g2 (fun k hk=>by injection hk with hk;omega))
 clear h2 g2
 go_wp2_with fail
 refine(HF.out _ H2.out).mono ?_
 rintro e w3 ⟨rfl,h3,g3⟩
 have H3:=Lh h3
 have HG3:=Lh (Zaf HG2.out g3)
 have HB3:=Lh (HB2.out.kept g3 (fun k hk=>by injection hk with hk;omega))
 clear h3 g3
 obtain⟨d0,d1,f0,f1⟩:=HB3.out.cells
 unfold TyD.vals
 go_wp2
 refine bodyPost_ret (v:=.agg (TyD.vals X.1)) (by unfold TyD.vals;simp [results,Tryz.results222,go_sem,d0,d1];try first | exact⟨rfl,rfl⟩ | rfl) rfl ⟨rfl,?_⟩
 have:=fin H3.out HG3.out (Nat.le_refl _) hne (.int .i64 X.1.k) (.string (bs X.1.s))
 simpa using this
theorem Ztt (w:World) (g:Nat) (L r:List UInt8) (b:Bool) (h:RD w g L b) (e86:ZaL 86 L=(r,true)) :
 Calls Tryz.prog 222 #[.pointer (some ⟨g,0,none⟩)] w (RRet w g (.agg (TyD.vals t0D)) r b):=by
 have hlt:=h.lt
 have hne:w.heap.size≠g:=by omega
 have h1:=h.ext ((Ext.refl w).alloc (.cells #[.int .i64 0,.string ⟨#[]⟩] 41))
 have hb1:=Blk.new w
 have hg1:w.grownBy (w.alloc (.cells #[.int .i64 0,.string ⟨#[]⟩] 41)) (some g):=Za7 ((Ext.refl w).alloc _) _
 obtain⟨w1,hw1⟩:∃ w1,w1=w.alloc (.cells #[.int .i64 0,.string ⟨#[]⟩] 41):=⟨_,rfl⟩
 rw [← hw1] at h1 hb1 hg1
 have H1:=Lh h1
 have HB1:=Lh hb1
 have HG1:=Lh hg1
 clear h1 hb1 hg1 h
 have k86:=fun W (h:RD W g L b)=>ZaR 86 W g L b h
 rw [e86] at k86
 have K86:=Lh k86
 clear k86 e86
 go_enter Tryz.func222,Tryz.ntmps222
 go_wp2_with fail
 rw [← hw1]
 refine(K86.out _ H1.out).mono ?_
 rintro e w2 ⟨rfl,h2,g2⟩
 have H2:=Lh h2
 have HG2:=Lh (Zaf HG1.out g2)
 have HB2:=Lh (HB1.out.kept g2 (fun k hk=>by injection hk with hk;omega))
 clear h2 g2
 obtain⟨d0,d1,f0,f1⟩:=HB2.out.cells
 unfold TyD.vals t0D
 go_wp2
 refine bodyPost_ret (v:=.agg (TyD.vals t0D)) (by unfold TyD.vals;simp [results,Tryz.results222,go_sem,d0,d1];try first | exact⟨rfl,rfl⟩ | rfl) rfl ⟨rfl,?_⟩
 have:=fin H2.out HG2.out (Nat.le_refl _) hne (.int .i64 0) (.string ⟨#[]⟩)
 simpa using this
theorem Zsa (w:World) (g:Nat) (L:List UInt8) (b:Bool) (hl:L.length≤140737488351232) (h:RD w g L b) :
 Calls Tryz.prog 222 #[.pointer (some ⟨g,0,none⟩)] w (RRet w g (.agg (TyD.vals (retZ L).1)) (retZ L).2.1 (b || !(retZ L).2.2)):=by
 match L,hl,h with
 | [],hl,h=>exact ZqC w g [] b h rfl hl
 | c :: r,hl,h =>
  rw [retZ]
  by_cases h1:c=86
  ·subst h1
   rw [if_pos rfl]
   have:=Ztt w g _ r b h (Zbq _ _)
   simpa using this
  ·rw [if_neg h1]
   exact ZqC w g _ b h (Zbm h1 _) hl
theorem ZqE:(Tryz.prog.info? 41).map (fun i=>(i.zero,i.size,i.bytes))=some (some (.agg t0D.vals),2,24):=by kernel_rfl
theorem Ztr (l:List UInt8):0≤(refZ l).1.k∧(refZ l).1.k≤3:=by
 unfold refZ
 split <;> simp [t0D]
theorem ZiO (l:List UInt8):0≤(ZaF l).1.k∧(ZaF l).1.k≤3:=by
 match l with
 | []=>exact⟨Int.le_refl _,by decide⟩
 | c :: r =>
  have:=Ztr r
  rw [ZaF]
  repeat' split
  all_goals first | exact this | simp [t0D]
theorem ZsU (l:List UInt8):0≤(typZ l).1.k∧(typZ l).1.k≤6:=by
 match l with
 | []=>exact⟨Int.le_refl _,by decide⟩
 | c :: r =>
  have h1:=ZiO r
  have h2:=ZiO (c :: r)
  rw [typZ]
  split
  ·unfold Zc9
   split
   ·simp only
    omega
   ·simp [t0D]
  ·omega
theorem Zoo (l:List UInt8):(typZ l).1.ok:=by
 have h1:=ZsU l
 have h2:=Zj4 l
 exact⟨⟨by omega,by omega⟩,by omega⟩
def ZeI:List UInt8→Option (List TyD × List UInt8)
 | []=>none
 | c :: r=>if c=40 then prs 16 r else none
def Ziw (ts:List TyD) (x:Option (List TyD × List UInt8)):Option (List TyD × List UInt8):=x.map fun y=>(ts++y.1,y.2)
theorem ZoF (x:Option (List TyD × List UInt8)):Ziw [] x=x:=by cases x <;> rfl
theorem Zrq (f:Nat) (r:List UInt8):prs f (41 :: r)=some ([],r):=by
 cases f <;> rw [prs,if_pos rfl]
theorem Zlg {l:List UInt8} (h:ZaL 41 l=(l,false)):prs 0 l=none:=by
 match l with
 | []=>rw [prs]
 | c :: r =>
  rw [prs,if_neg]
  rintro rfl
  rw [Zbq] at h
  cases h
theorem Zre {f:Nat} {l:List UInt8} (h:ZaL 41 l=(l,false)) (h2:(Zbw l).2=0):prs f l=none:=by
 match f,l with
 | 0,l=>exact Zlg h
 | f+1,[]=>rw [prs]
 | f+1,c :: r =>
  rw [prs,if_neg,if_pos h2]
  rintro rfl
  rw [Zbq] at h
  cases h
theorem ZrJ {f:Nat} {l:List UInt8} (h:ZaL 41 l=(l,false)) (h2:(Zbw l).2≠0):prs (f+1) l=Ziw [(Zbw l).1] (prs f (l.drop (Zbw l).2)):=by
 match l with
 | []=>exact absurd rfl h2
 | c :: r =>
  rw [prs,if_neg,if_neg h2]
  ·rfl
  ·rintro rfl
   rw [Zbq] at h
   cases h
theorem Zj8 (a b:List TyD) (x:Option (List TyD × List UInt8)):Ziw a (Ziw b x)=Ziw (a++b) x:=by
 cases x <;> simp [Ziw]
def ComeD (L:List UInt8) (ts:List TyD) (l:List UInt8) (b:Bool):Prop :=
 (b=false∧ts.length≤16∧ZeI L=Ziw ts (prs (16-ts.length) l))∨(b=true∧ts.length≤17∧ZeI L=none)
theorem ComeD.start {L r:List UInt8} (h:ZaL 40 L=(r,true)):ComeD L [] r false:=by
 refine .inl ⟨rfl,Nat.zero_le _,?_⟩
 match L with
 | []=>cases h
 | c :: s =>
  rw [ZaL] at h
  rw [ZeI]
  by_cases hc:c=40
  ·rw [if_pos hc] at h ⊢
   injection h with h
   subst h
   rw [ZoF]
   rfl
  ·rw [if_neg hc] at h
   cases h
theorem ComeD.not {L:List UInt8} (h:ZaL 40 L=(L,false)) (l:List UInt8):ComeD L [] l true:=by
 refine .inr ⟨rfl,Nat.zero_le _,?_⟩
 match L with
 | []=>rfl
 | c :: s =>
  rw [ZeI,if_neg]
  rintro rfl
  rw [Zbq] at h
  cases h
theorem ComeD.full {L l:List UInt8} {ts:List TyD} (h:ComeD L ts l false) (hs:ZaL 41 l=(l,false)) (hn:ts.length=16) (l':List UInt8):ComeD L ts l' true:=by
 rcases h with⟨_,h1,h2⟩ | ⟨h,_⟩
 ·refine .inr ⟨rfl,by omega,?_⟩
  rw [h2,hn,Zlg hs]
  rfl
 ·cases h
theorem ComeD.next {L l:List UInt8} {ts:List TyD} (h:ComeD L ts l false) (hs:ZaL 41 l=(l,false)) (hn:¬ ts.length=16):ComeD L (ts++[(typZ l).1]) (typZ l).2.1 (!(typZ l).2.2):=by
 rcases h with⟨_,h1,h2⟩ | ⟨h,_⟩
 ·rcases Zie l with⟨g1,g2⟩ | ⟨g1,g2⟩
  ·refine .inr ⟨by rw [g2];rfl,by simp;omega,?_⟩
   rw [h2,Zre hs g1]
   rfl
  ·refine .inl ⟨by rw [g2];rfl,by simp;omega,?_⟩
   rw [h2,show 16-ts.length=(16-(ts.length+1))+1 by omega,ZrJ hs g1,Zj8,g2,List.length_append]
   rfl
 ·cases h
theorem ComeD.done {L l r:List UInt8} {ts:List TyD} (h:ComeD L ts l false) (hs:ZaL 41 l=(r,true)):ZeI L=some (ts,r):=by
 rcases h with⟨_,h1,h2⟩ | ⟨h,_⟩
 ·match l with
  | []=>cases hs
  | c :: s =>
   rw [ZaL] at hs
   by_cases hc:c=41
   ·subst hc
    rw [if_pos rfl] at hs
    injection hs with hs
    subst hs
    rw [h2,Zrq]
    simp [Ziw]
   ·rw [if_neg hc] at hs
    cases hs
 ·cases h
theorem ComeD.wrong {L l:List UInt8} {ts:List TyD} (h:ComeD L ts l true):ZeI L=none:=by
 rcases h with⟨h,_⟩ | ⟨_,_,h⟩
 ·cases h
 ·exact h
theorem ComeD.len {L l:List UInt8} {ts:List TyD} {b:Bool} (h:ComeD L ts l b):ts.length≤17:=by
 rcases h with⟨_,h,_⟩ | ⟨_,h,_⟩ <;> omega
theorem ComeD.len16 {L l:List UInt8} {ts:List TyD} (h:ComeD L ts l false):ts.length≤16:=by
 rcases h with⟨_,h,_⟩ | ⟨h,_⟩
 ·exact h
 ·cases h
def Zfx:Value→Nat
 | .slice _ n _=>n
 | _=>0
theorem Zjl {w w1 w2 w3:World} {g:Nat} {v:Value} (h:w.grownBy w1 (some g)) (e:Ext w1 w2) (h2:w2.grownBy w3 v.ownBlock) (hl:∀ k,v.ownBlock=some k→w.heap.size≤k):w.grownBy w3 (some g):=by
 have h1:=Za3 h e
 refine⟨h2.os.trans h1.os,h2.tape.trans h1.tape,h2.output.trans h1.output,Nat.le_trans h1.size h2.size,fun i hi hne=>?_⟩
 rw [h2.block i (Nat.lt_of_lt_of_le hi h1.size) (fun e=>by have:=hl i e.symm;omega)]
 exact h1.block i hi hne
def Zri (w:World) (g:Nat) (L:List UInt8) (e:Ending) (w':World):Prop :=
 ∃ v l b ts,e=.returned v∧RD w' g l b∧w.grownBy w' (some g)∧l.length≤L.length∧OwnT w.heap.size w' 41 v ts∧((b=true∧ZeI L=none)∨(b=false∧ZeI L=some (ts,l)))
theorem ZpT (w:World) (g:Nat) (L:List UInt8) (hl:L.length≤140737488351232) (h:RD w g L false) :
 Calls Tryz.prog 221 #[.pointer (some ⟨g,0,none⟩)] w (Zri w g L):=by
 have hlt:=h.lt
 have K40:=Lh (ZaR 40 w g L false h)
 -- the way in: what the loop begins with
 have H:=Lh h
 clear h
 cases h40:(ZaL 40 L).2
 ·have e:=ZfB h40
  have HC:=Lh (fun l=>ComeD.not e l)
  have hk:=K40.out
  rw [e] at hk
  have K:=Lh hk
  clear h40 e hk K40
  go_enter Tryz.func221,Tryz.ntmps221
  go_wp2_with fail
  refine K.out.mono ?_
  rintro e w1 ⟨rfl,h1,g1⟩
  have H1:=Lh h1
  have HG1:=Lh g1
  clear h1 g1
  go_wp2_with fail
  refine(ZcA _ g _ _ H1.out).mono ?_
  rintro e w2 ⟨rfl,h2,g2⟩
  have H2:=Lh h2
  have HG2:=Lh (Zaf HG1.out g2)
  clear h2 g2
  have HCC:=Lh (HC.out L)
  go_wp2
  go_loopw [3] (fun v wr=>∃ ts l b,Hid (OwnT w.heap.size wr 41 v ts)∧Hid (RD wr g l b)∧Hid (w.grownBy wr (some g))∧l.length≤L.length∧Hid (ComeD L ts l b)) (fun v _=>18-Zfx v)
  case atStart=>exact⟨[],_,_,Lh (OwnT.nil _ _ _),H2,HG2,Nat.le_refl _,HCC⟩
  case round =>
   obtain⟨ts,l,b,Ho,Hr,Hg,hle,Hc⟩:=hrel
   have hlen:=Hc.out.len
   obtain⟨A,c,hv,hcn,hcm,-⟩:=Ho.out.row
   subst hv
   obtain⟨n,hn⟩:∃ n,n=ts.length:=⟨_,rfl⟩
   rw [← hn] at hlen hcn Ho ⊢
   have Hn:=Lh hn
   clear hn
   obtain⟨a0,a1,f0,f1⟩:=Hr.out.cells
   cases b
   ·have K41:=Lh (ZaR 41 _ g l false Hr.out)
    cases h41:(ZaL 41 l).2
    ·have e:=ZfB h41
     have hk:=K41.out
     rw [e] at hk
     have K:=Lh hk
     have E:=Lh e
     clear h41 e hk K41
     by_cases h16:n=16
     ·have hb16:((n:Int)==16)=true:=by rw [beq_iff_eq];omega
      have HF:=Lh (fun l'=>Hc.out.full E.out (by rw [← Hn.out];exact h16) l')
      clear h16
      go_wp2_with fail
      refine K.out.mono ?_
      rintro e w5 ⟨rfl,h5,g5⟩
      have H5:=Lh h5
      have HG5:=Lh (Zaf Hg.out g5)
      have HO5:=Lh (Ho.out.kept g5 (fun k hk e=>by injection e with e;have:=Ho.out.low k hk;omega))
      clear h5 g5 a0 a1 f0 f1
      go_wp2_with fail
      refine(ZcA _ g _ _ H5.out).mono ?_
      rintro e w6 ⟨rfl,h6,g6⟩
      have H6:=Lh h6
      have HG6:=Lh (Zaf HG5.out g6)
      have HO6:=Lh (HO5.out.kept g6 (fun k hk e=>by injection e with e;have:=HO5.out.low k hk;omega))
      clear h6 g6
      go_wp2
      go_ret
      exact⟨_,_,_,_,rfl,H6.out,HG6.out,hle,HO6.out,.inl ⟨rfl,(HF.out l).wrong⟩⟩
     ·have hb16:((n:Int)==16)=false:=by rw [beq_eq_false_iff_ne];omega
      have hn16:n≤16:=by rw [Hn.out];exact Hc.out.len16
      have HN:=Lh (Hc.out.next E.out (by rw [← Hn.out];exact h16))
      have HT:=Lh (fun W (h:RD W g l false)=>ZeU W g l false (by omega) h)
      have hle2:=(Zj4 l).1
      have hok:=Lh (Zoo l)
      obtain⟨X,hX⟩:∃ X,X=typZ l:=⟨_,rfl⟩
      rw [← hX] at HN HT hle2 hok
      unfold TyD.vals at HT
      clear hX h16
      go_wp2_with fail
      refine K.out.mono ?_
      rintro e w5 ⟨rfl,h5,g5⟩
      have H5:=Lh h5
      have HG5:=Lh (Zaf Hg.out g5)
      have HO5:=Lh (Ho.out.kept g5 (fun k hk e=>by injection e with e;have:=Ho.out.low k hk;omega))
      clear h5 g5 a0 a1 f0 f1
      go_wp2_with fail
      refine(HT.out _ H5.out).mono ?_
      rintro e w6 ⟨rfl,h6,g6⟩
      have hs6:=HG5.out.size
      have hs6':=g6.size
      have H6:=Lh h6
      have HG6:=Lh (Zaf HG5.out g6)
      have HO6:=Lh (HO5.out.kept g6 (fun k hk e=>by injection e with e;have:=HO5.out.low k hk;omega))
      clear h6 g6
      go_wp2_with (at_builtin;go_loud (refine ZfM _ rfl _ _ w.heap.size 42 41 _ 24 rfl Tryz.underlying42 ZqE rfl (by omega) _ ts rfl (HO6.out.ext ((Ext.refl _).alloc _)) _ [X.1] rfl (RowT.one (T:=41) (heap_alloc_new _ _) hok.out) (by rw [← Hn.out];simp only [List.length_cons,List.length_nil];omega) (by simp;omega) ?_);intro v7 w7 ho7 hg7 hb7)
      have H7:=Lh ((H6.out.ext ((Ext.refl _).alloc _)).kept hg7 (fun k hk=>by have:=HO6.out.low k hk;omega))
      have HG7:=Lh (Zjl HG6.out ((Ext.refl _).alloc _) hg7 HO6.out.low)
      have HO7:=Lh ho7
      obtain⟨A7,c7,hv7,-⟩:=ho7.row
      have e7:Zfx v7=n+1:=by rw [hv7,Hn.out,List.length_append];rfl
      have E7:=Lh e7
      clear hg7 hb7 ho7 hv7 e7
      go_wp2
      refine⟨⟨ts++[X.1],X.2.1,_,HO7,H7,HG7,by omega,Lh ?_⟩,?_⟩
      ·simpa using HN.out
      ·rw [E7.out]
       show 18-(n+1)<18-n
       omega
    ·obtain⟨r,hr,e⟩:=ZeF h41
     have HD:=Lh (Hc.out.done e)
     have hk:=K41.out
     rw [e] at hk
     have K:=Lh hk
     have hrl:r.length≤L.length:=by
      rw [hr] at hle
      simp only [List.length_cons] at hle
      omega
     clear h41 hr e hk K41
     go_wp2_with fail
     refine K.out.mono ?_
     rintro e w5 ⟨rfl,h5,g5⟩
     have H5:=Lh h5
     have HG5:=Lh (Zaf Hg.out g5)
     have HO5:=Lh (Ho.out.kept g5 (fun k hk e=>by injection e with e;have:=Ho.out.low k hk;omega))
     clear h5 g5 a0 a1 f0 f1
     go_wp2
     go_ret
     exact⟨_,_,_,_,rfl,H5.out,HG5.out,hrl,HO5.out,.inr ⟨rfl,HD.out⟩⟩
   ·go_wp2
    go_ret
    exact⟨_,_,_,_,rfl,Hr.out,Hg.out,hle,Ho.out,.inl ⟨rfl,Hc.out.wrong⟩⟩
 ·obtain⟨r,hr,e⟩:=ZeF h40
  have HC:=Lh (ComeD.start e)
  have hk:=K40.out
  rw [e] at hk
  have K:=Lh hk
  clear h40 e hk K40
  go_enter Tryz.func221,Tryz.ntmps221
  go_wp2_with fail
  refine K.out.mono ?_
  rintro e w1 ⟨rfl,h1,g1⟩
  have H1:=Lh h1
  have HG1:=Lh g1
  clear h1 g1
  go_wp2
  have hrl:r.length≤L.length:=by rw [hr];simp
  clear hr
  go_loopw [3] (fun v wr=>∃ ts l b,Hid (OwnT w.heap.size wr 41 v ts)∧Hid (RD wr g l b)∧Hid (w.grownBy wr (some g))∧l.length≤L.length∧Hid (ComeD L ts l b)) (fun v _=>18-Zfx v)
  case atStart=>exact⟨[],_,_,Lh (OwnT.nil _ _ _),H1,HG1,hrl,HC⟩
  case round =>
   obtain⟨ts,l,b,Ho,Hr,Hg,hle,Hc⟩:=hrel
   have hlen:=Hc.out.len
   obtain⟨A,c,hv,hcn,hcm,-⟩:=Ho.out.row
   subst hv
   obtain⟨n,hn⟩:∃ n,n=ts.length:=⟨_,rfl⟩
   rw [← hn] at hlen hcn Ho ⊢
   have Hn:=Lh hn
   clear hn
   obtain⟨a0,a1,f0,f1⟩:=Hr.out.cells
   cases b
   ·have K41:=Lh (ZaR 41 _ g l false Hr.out)
    cases h41:(ZaL 41 l).2
    ·have e:=ZfB h41
     have hk:=K41.out
     rw [e] at hk
     have K:=Lh hk
     have E:=Lh e
     clear h41 e hk K41
     by_cases h16:n=16
     ·have hb16:((n:Int)==16)=true:=by rw [beq_iff_eq];omega
      have HF:=Lh (fun l'=>Hc.out.full E.out (by rw [← Hn.out];exact h16) l')
      clear h16
      go_wp2_with fail
      refine K.out.mono ?_
      rintro e w5 ⟨rfl,h5,g5⟩
      have H5:=Lh h5
      have HG5:=Lh (Zaf Hg.out g5)
      have HO5:=Lh (Ho.out.kept g5 (fun k hk e=>by injection e with e;have:=Ho.out.low k hk;omega))
      clear h5 g5 a0 a1 f0 f1
      go_wp2_with fail
      refine(ZcA _ g _ _ H5.out).mono ?_
      rintro e w6 ⟨rfl,h6,g6⟩
      have H6:=Lh h6
      have HG6:=Lh (Zaf HG5.out g6)
      have HO6:=Lh (HO5.out.kept g6 (fun k hk e=>by injection e with e;have:=HO5.out.low k hk;omega))
      clear h6 g6
      go_wp2
      go_ret
      exact⟨_,_,_,_,rfl,H6.out,HG6.out,hle,HO6.out,.inl ⟨rfl,(HF.out l).wrong⟩⟩
     ·have hb16:((n:Int)==16)=false:=by rw [beq_eq_false_iff_ne];omega
      have hn16:n≤16:=by rw [Hn.out];exact Hc.out.len16
      have HN:=Lh (Hc.out.next E.out (by rw [← Hn.out];exact h16))
      have HT:=Lh (fun W (h:RD W g l false)=>ZeU W g l false (by omega) h)
      have hle2:=(Zj4 l).1
      have hok:=Lh (Zoo l)
      obtain⟨X,hX⟩:∃ X,X=typZ l:=⟨_,rfl⟩
      rw [← hX] at HN HT hle2 hok
      unfold TyD.vals at HT
      clear hX h16
      go_wp2_with fail
      refine K.out.mono ?_
      rintro e w5 ⟨rfl,h5,g5⟩
      have H5:=Lh h5
      have HG5:=Lh (Zaf Hg.out g5)
      have HO5:=Lh (Ho.out.kept g5 (fun k hk e=>by injection e with e;have:=Ho.out.low k hk;omega))
      clear h5 g5 a0 a1 f0 f1
      go_wp2_with fail
      refine(HT.out _ H5.out).mono ?_
      rintro e w6 ⟨rfl,h6,g6⟩
      have hs6:=HG5.out.size
      have hs6':=g6.size
      have H6:=Lh h6
      have HG6:=Lh (Zaf HG5.out g6)
      have HO6:=Lh (HO5.out.kept g6 (fun k hk e=>by injection e with e;have:=HO5.out.low k hk;omega))
      clear h6 g6
      go_wp2_with (at_builtin;go_loud (refine ZfM _ rfl _ _ w.heap.size 42 41 _ 24 rfl Tryz.underlying42 ZqE rfl (by omega) _ ts rfl (HO6.out.ext ((Ext.refl _).alloc _)) _ [X.1] rfl (RowT.one (T:=41) (heap_alloc_new _ _) hok.out) (by rw [← Hn.out];simp only [List.length_cons,List.length_nil];omega) (by simp;omega) ?_);intro v7 w7 ho7 hg7 hb7)
      have H7:=Lh ((H6.out.ext ((Ext.refl _).alloc _)).kept hg7 (fun k hk=>by have:=HO6.out.low k hk;omega))
      have HG7:=Lh (Zjl HG6.out ((Ext.refl _).alloc _) hg7 HO6.out.low)
      have HO7:=Lh ho7
      obtain⟨A7,c7,hv7,-⟩:=ho7.row
      have e7:Zfx v7=n+1:=by rw [hv7,Hn.out,List.length_append];rfl
      have E7:=Lh e7
      clear hg7 hb7 ho7 hv7 e7
      go_wp2
      refine⟨⟨ts++[X.1],X.2.1,_,HO7,H7,HG7,by omega,Lh ?_⟩,?_⟩
      ·simpa using HN.out
      ·rw [E7.out]
       show 18-(n+1)<18-n
       omega
    ·obtain⟨r,hr,e⟩:=ZeF h41
     have HD:=Lh (Hc.out.done e)
     have hk:=K41.out
     rw [e] at hk
     have K:=Lh hk
     have hrl:r.length≤L.length:=by
      rw [hr] at hle
      simp only [List.length_cons] at hle
      omega
     clear h41 hr e hk K41
     go_wp2_with fail
     refine K.out.mono ?_
     rintro e w5 ⟨rfl,h5,g5⟩
     have H5:=Lh h5
     have HG5:=Lh (Zaf Hg.out g5)
     have HO5:=Lh (Ho.out.kept g5 (fun k hk e=>by injection e with e;have:=Ho.out.low k hk;omega))
     clear h5 g5 a0 a1 f0 f1
     go_wp2
     go_ret
     exact⟨_,_,_,_,rfl,H5.out,HG5.out,hrl,HO5.out,.inr ⟨rfl,HD.out⟩⟩
   ·go_wp2
    go_ret
    exact⟨_,_,_,_,rfl,Hr.out,Hg.out,hle,Ho.out,.inl ⟨rfl,Hc.out.wrong⟩⟩
theorem ZkU (l:List UInt8):Zcb l=if (typZ l).2.2=true∧(typZ l).2.1=[] then ((typZ l).1,0) else (t0D,50):=by
 unfold Zcb
 rcases Zie l with⟨h1,h2⟩ | ⟨h1,h2⟩
 ·rw [if_pos (.inl h1),if_neg]
  rw [h2]
  simp
 ·rw [h2]
  by_cases hd:(Zbw l).2<l.length
  ·rw [if_pos (.inr hd),if_neg]
   rintro ⟨_,h⟩
   have:=List.drop_eq_nil_iff.1 h
   omega
  ·rw [if_neg (by omega),if_pos]
   exact⟨rfl,List.drop_eq_nil_iff.2 (by omega)⟩
theorem ZjN {l:List UInt8} (h:ZeI l=none):ZaP l=(⟨t0D,[]⟩,50):=by
 match l with
 | []=>rfl
 | c :: r =>
  rw [ZeI] at h
  unfold ZaP
  simp only
  by_cases hc:c=40
  ·rw [if_pos hc] at h ⊢
   rw [h]
  ·rw [if_neg hc]
theorem Zd3 {l q:List UInt8} {ts:List TyD} (h:ZeI l=some (ts,q)):ZaP l=if (retZ q).2.2=true∧(retZ q).2.1=[] then (⟨(retZ q).1,ts⟩,0) else (⟨t0D,[]⟩,50):=by
 match l with
 | []=>cases h
 | c :: r =>
  rw [ZeI] at h
  unfold ZaP
  simp only
  by_cases hc:c=40
  ·rw [if_pos hc] at h ⊢
   rw [h]
   simp only
   match q with
   | []=>rfl
   | d :: s =>
    rw [retZ]
    by_cases hd:d=86
    ·subst hd
     rw [if_pos rfl]
     match s with
     | []=>rfl
     | x :: s=>rfl
    ·have h86:¬ d :: s=[86]:=by
      intro e
      injection e with e
      exact hd e
     rw [if_neg hd,if_neg h86,ZkU]
     by_cases hx:(typZ (d :: s)).2.2=true∧(typZ (d :: s)).2.1=[]
     ·rw [if_pos hx,if_pos hx]
      rfl
     ·rw [if_neg hx,if_neg hx]
      rfl
  ·rw [if_neg hc] at h
   cases h
def BlkP (w:World) (R:Nat):Prop:=w.heap[R]?=some (.cells #[.int .i64 0,.string ⟨#[]⟩,.slice none 0 0] 44 (0,0))
theorem BlkP.new (w:World):BlkP (w.alloc (.cells #[.int .i64 0,.string ⟨#[]⟩,.slice none 0 0] 44)) w.heap.size:=heap_alloc_new _ _
theorem BlkP.ext {w w':World} {R:Nat} (h:BlkP w R) (he:Ext w w'):BlkP w' R:=(he.block R (Zab h)).trans h
theorem BlkP.kept {w w':World} {R:Nat} {r:Option Nat} (h:BlkP w R) (hw:w.grownBy w' r) (hr:∀ k,r=some k→k≠R):BlkP w' R:=(hw.block R (Zab h) (fun e=>hr R e.symm rfl)).trans h
theorem BlkP.cells {w:World} {R:Nat} (h:BlkP w R):w.cell? ⟨R,0,none⟩=some (.int .i64 0)∧w.cell? ⟨R,1,none⟩=some (.string ⟨#[]⟩)∧w.cell? ⟨R,2,none⟩=some (.slice none 0 0)∧w.frozen? ⟨R,0,none⟩=false∧w.frozen? ⟨R,1,none⟩=false∧w.frozen? ⟨R,2,none⟩=false :=
 ⟨by rw [cell_of_row w R 0 _ _ (0,0) h];rfl,by rw [cell_of_row w R 1 _ _ (0,0) h];rfl,by rw [cell_of_row w R 2 _ _ (0,0) h];rfl,by simp [World.frozen?,show w.heap[R]?=_ from h],by simp [World.frozen?,show w.heap[R]?=_ from h],by simp [World.frozen?,show w.heap[R]?=_ from h]⟩
theorem made (w:World) (l:List UInt8) (o:Obj):RD ((w.alloc o).alloc (.cells #[.string (bs l),.bool false] 244)) (w.heap.size+1) l false:=by
 have:=heap_alloc_new (w.alloc o) (.cells #[.string (bs l),.bool false] 244)
 unfold RD
 simpa using this
theorem Zrk (l:List UInt8) (hl:l.length≤140737488351232) (w:World) (p1:(typZ l).2.2=false) :
 Calls Tryz.prog 179 #[.string (bs l)] w fun e w'=>e=.returned (.tuple #[.agg (TyD.vals t0D),.int .i64 50])∧Ext w w':=by
 obtain⟨w1,hw1⟩:∃ w1,w1=(w.alloc (.cells #[.int .i64 0,.string ⟨#[]⟩] 41)).alloc (.cells #[.string (bs l),.bool false] 244):=⟨_,rfl⟩
 have h1:=made w l (.cells #[.int .i64 0,.string ⟨#[]⟩] 41)
 have hb1:=(Blk.new w).ext ((Ext.refl _).alloc (.cells #[.string (bs l),.bool false] 244))
 have x1:Ext w w1:=by rw [hw1];exact((Ext.refl w).alloc _).alloc _
 rw [← hw1] at h1 hb1
 have hT:=ZeU w1 (w.heap.size+1) l false hl h1
 obtain⟨X,hX⟩:∃ X,X=typZ l:=⟨_,rfl⟩
 rw [← hX] at hT p1
 rw [p1] at hT
 unfold TyD.vals at hT
 have HT:=Lh hT
 have HB1:=Lh hb1
 have X1:=Lh x1
 have P2:=Lh p1
 clear hX hT h1 hb1 x1 p1
 go_enter Tryz.func179,Tryz.ntmps179
 go_wp2_with fail
 rw [← hw1]
 clear hw1
 refine HT.out.mono ?_
 rintro e w2 ⟨rfl,h2,g2⟩
 have hb2:=HB1.out.kept g2 (fun k hk=>by injection hk with hk;omega)
 have x2:Ext w w2:=X1.out.grown g2 (fun k hk=>by injection hk with hk;omega)
 obtain⟨a0,a1,-,-⟩:=h2.cells
 obtain⟨d0,d1,f0,f1⟩:=hb2.cells
 have hltg:w.heap.size+1<w2.heap.size:=h2.lt
 have hltR:w.heap.size<w2.heap.size:=by omega
 have hneR:¬ w.heap.size=w2.heap.size:=by omega
 have hneg:¬ w.heap.size+1=w2.heap.size:=by omega
 have H2:=Lh h2
 have X2:=Lh x2
 clear h2 g2 hb2 x2
 go_wp2
 refine bodyPost_ret (v:=.tuple #[.agg (TyD.vals t0D),.int .i64 50]) (by unfold TyD.vals;simp [results,Tryz.results179,go_sem,d0,d1,hltR];try first | exact⟨rfl,rfl⟩ | rfl) rfl ⟨rfl,?_⟩
 exact Ext.alloc (Ext.set_ (Ext.set_ X2.out (Nat.le_refl _) _) (Nat.le_refl _) _) _
theorem Zrp (l:List UInt8) (hl:l.length≤140737488351232) (w:World) (p1:(typZ l).2.2=true) (p2:(typZ l).2.1=[]) :
 Calls Tryz.prog 179 #[.string (bs l)] w fun e w'=>e=.returned (.tuple #[.agg (TyD.vals (typZ l).1),.int .i64 0])∧Ext w w':=by
 obtain⟨w1,hw1⟩:∃ w1,w1=(w.alloc (.cells #[.int .i64 0,.string ⟨#[]⟩] 41)).alloc (.cells #[.string (bs l),.bool false] 244):=⟨_,rfl⟩
 have h1:=made w l (.cells #[.int .i64 0,.string ⟨#[]⟩] 41)
 have hb1:=(Blk.new w).ext ((Ext.refl _).alloc (.cells #[.string (bs l),.bool false] 244))
 have x1:Ext w w1:=by rw [hw1];exact((Ext.refl w).alloc _).alloc _
 rw [← hw1] at h1 hb1
 have hT:=ZeU w1 (w.heap.size+1) l false hl h1
 obtain⟨X,hX⟩:∃ X,X=typZ l:=⟨_,rfl⟩
 rw [← hX] at hT p1 p2 ⊢
 rw [p1] at hT
 unfold TyD.vals at hT
 have HT:=Lh hT
 have HB1:=Lh hb1
 have X1:=Lh x1
 have P2:=Lh p1
 clear hX hT h1 hb1 x1 p1
 go_enter Tryz.func179,Tryz.ntmps179
 go_wp2_with fail
 rw [← hw1]
 clear hw1
 refine HT.out.mono ?_
 rintro e w2 ⟨rfl,h2,g2⟩
 have hb2:=HB1.out.kept g2 (fun k hk=>by injection hk with hk;omega)
 have x2:Ext w w2:=X1.out.grown g2 (fun k hk=>by injection hk with hk;omega)
 obtain⟨a0,a1,-,-⟩:=h2.cells
 obtain⟨d0,d1,f0,f1⟩:=hb2.cells
 have hltg:w.heap.size+1<w2.heap.size:=h2.lt
 have hltR:w.heap.size<w2.heap.size:=by omega
 have hneR:¬ w.heap.size=w2.heap.size:=by omega
 have hneg:¬ w.heap.size+1=w2.heap.size:=by omega
 have H2:=Lh h2
 have X2:=Lh x2
 clear h2 g2 hb2 x2
 have HE:=Lh (ZfG _ _ _ _ (H2.out.ext ((Ext.refl _).alloc (.cells #[.int .i64 X.1.k,.string (bs X.1.s)] 41))))
 rw [show decide (X.2.1=[])=true from decide_eq_true p2] at HE
 go_wp2_with fail
 refine HE.out.mono ?_
 rintro e w3 ⟨rfl,rfl⟩
 go_wp2
 refine bodyPost_ret (v:=.tuple #[.agg (TyD.vals X.1),.int .i64 0]) (by unfold TyD.vals;simp [results,Tryz.results179,go_sem,d0,d1,hltR];try first | exact⟨rfl,rfl⟩ | rfl) rfl ⟨rfl,?_⟩
 exact Ext.alloc (Ext.set_ (Ext.set_ X2.out (Nat.le_refl _) _) (Nat.le_refl _) _) _
theorem Zrj (l:List UInt8) (hl:l.length≤140737488351232) (w:World) (p1:(typZ l).2.2=true) (p2:¬ (typZ l).2.1=[]) :
 Calls Tryz.prog 179 #[.string (bs l)] w fun e w'=>e=.returned (.tuple #[.agg (TyD.vals t0D),.int .i64 50])∧Ext w w':=by
 obtain⟨w1,hw1⟩:∃ w1,w1=(w.alloc (.cells #[.int .i64 0,.string ⟨#[]⟩] 41)).alloc (.cells #[.string (bs l),.bool false] 244):=⟨_,rfl⟩
 have h1:=made w l (.cells #[.int .i64 0,.string ⟨#[]⟩] 41)
 have hb1:=(Blk.new w).ext ((Ext.refl _).alloc (.cells #[.string (bs l),.bool false] 244))
 have x1:Ext w w1:=by rw [hw1];exact((Ext.refl w).alloc _).alloc _
 rw [← hw1] at h1 hb1
 have hT:=ZeU w1 (w.heap.size+1) l false hl h1
 obtain⟨X,hX⟩:∃ X,X=typZ l:=⟨_,rfl⟩
 rw [← hX] at hT p1 p2
 rw [p1] at hT
 unfold TyD.vals at hT
 have HT:=Lh hT
 have HB1:=Lh hb1
 have X1:=Lh x1
 have P2:=Lh p1
 clear hX hT h1 hb1 x1 p1
 go_enter Tryz.func179,Tryz.ntmps179
 go_wp2_with fail
 rw [← hw1]
 clear hw1
 refine HT.out.mono ?_
 rintro e w2 ⟨rfl,h2,g2⟩
 have hb2:=HB1.out.kept g2 (fun k hk=>by injection hk with hk;omega)
 have x2:Ext w w2:=X1.out.grown g2 (fun k hk=>by injection hk with hk;omega)
 obtain⟨a0,a1,-,-⟩:=h2.cells
 obtain⟨d0,d1,f0,f1⟩:=hb2.cells
 have hltg:w.heap.size+1<w2.heap.size:=h2.lt
 have hltR:w.heap.size<w2.heap.size:=by omega
 have hneR:¬ w.heap.size=w2.heap.size:=by omega
 have hneg:¬ w.heap.size+1=w2.heap.size:=by omega
 have H2:=Lh h2
 have X2:=Lh x2
 clear h2 g2 hb2 x2
 have HE:=Lh (ZfG _ _ _ _ (H2.out.ext ((Ext.refl _).alloc (.cells #[.int .i64 X.1.k,.string (bs X.1.s)] 41))))
 rw [show decide (X.2.1=[])=false from decide_eq_false p2] at HE
 go_wp2_with fail
 refine HE.out.mono ?_
 rintro e w3 ⟨rfl,rfl⟩
 go_wp2
 refine bodyPost_ret (v:=.tuple #[.agg (TyD.vals t0D),.int .i64 50]) (by unfold TyD.vals;simp [results,Tryz.results179,go_sem,d0,d1,hltR];try first | exact⟨rfl,rfl⟩ | rfl) rfl ⟨rfl,?_⟩
 exact Ext.alloc (Ext.set_ (Ext.set_ X2.out (Nat.le_refl _) _) (Nat.le_refl _) _) _
theorem ZoV (l:List UInt8) (hl:l.length≤140737488351232) (w:World) :
 Calls Tryz.prog 179 #[.string (bs l)] w fun e w'=>e=.returned (.tuple #[.agg (TyD.vals (Zcb l).1),.int .i64 (Zcb l).2])∧Ext w w':=by
 rw [ZkU]
 cases p1:(typZ l).2.2
 ·rw [if_neg (by simp)]
  exact Zrk l hl w p1
 ·by_cases p2:(typZ l).2.1=[]
  ·rw [if_pos ⟨rfl,p2⟩]
   exact Zrp l hl w p1 p2
  ·rw [if_neg (fun h=>p2 h.2)]
   exact Zrj l hl w p1 p2
end Go.Proofs.YtclamhhgldkhnaaGreatDoor
