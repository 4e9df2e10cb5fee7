/- Several texts of this proof, one behind the other. -/
import Derived.Test.YtclamhhgldkhnaaGreatDoorZwQ
import Derived.Laws.RangeAny
import Derived.Lib.OthersKept
namespace Go.Proofs.YtclamhhgldkhnaaGreatDoor
open Go.RowKit
set_option linter.unusedVariables false
set_option maxHeartbeats 16000000
theorem Zga (s:ByteArray) (w:World) (hs:s.size≤140737488351232) :
 Calls Tryz.prog 251 #[.string s] w fun e w'=>e=.returned (.string s)∧Ext w w':=by
 go_enter Tryz.func251,Tryz.ntmps251
 go_wp2_with fail
 refine(Tryz.stringslite_Clone s _ (by omega)).mono ?_
 rintro e w1 ⟨rfl,h1⟩
 go_wp2
 go_ret
 exact⟨rfl,h1⟩
def begZ (r:Int):Bool:=(decide (97≤r)&&decide (r≤122)) || (decide (65≤r)&&decide (r≤90)) || decide (r=95) || decide (r=36)
def digZ (r:Int):Bool:=decide (48≤r)&&decide (r≤57)
theorem ZgI (r:Int) (w:World):Calls Tryz.prog 123 #[.int .i32 r] w fun e w'=>e=.returned (.bool (begZ r))∧w'=w:=by
 have hb:begZ r=true↔(97≤r∧r≤122)∨(65≤r∧r≤90)∨r=95∨r=36:=by simp [begZ,or_assoc]
 have H:(begZ r=true∧65≤r∧r≤90)∨(begZ r=true∧90<r∧97≤r∧r≤122)∨(begZ r=true∧r=95)∨(begZ r=true∧r=36) ∨
  (begZ r=false∧(r==95)=false∧(r==36)=false∧(r<65∨(¬ r≤90∧90<r∧r<97)∨(¬ r≤90∧¬ r≤122∧122<r))):=by
  cases h:begZ r
  ·rw [← Bool.not_eq_true,hb] at h
   right;right;right;right
   refine⟨rfl,by rw [beq_eq_false_iff_ne];omega,by rw [beq_eq_false_iff_ne];omega,by omega⟩
  ·have:=hb.1 h
   simp only [true_and]
   omega
 clear hb
 rcases H with⟨h,h1,h2⟩ | ⟨h,h0,h1,h2⟩ | ⟨h,rfl⟩ | ⟨h,rfl⟩ | ⟨h,h1,h2,h3 | ⟨h3,h4,h5⟩ | ⟨h3,h4,h5⟩⟩
 all_goals
  rw [h]
  clear h
  go_enter Tryz.func123,Tryz.ntmps123
  go_wp2
  go_ret
  exact⟨rfl,rfl⟩
theorem Zj6 (r:Int) (w:World):Calls Tryz.prog 124 #[.int .i32 r] w fun e w'=>e=.returned (.bool (digZ r))∧w'=w:=by
 have H:(digZ r=true∧48≤r∧r≤57)∨(digZ r=false∧r<48)∨(digZ r=false∧48≤r∧¬ r≤57):=by
  have hb:digZ r=true↔(48≤r∧r≤57):=by simp [digZ]
  cases h:digZ r
  ·rw [← Bool.not_eq_true,hb] at h
   simp
   omega
  ·have:=hb.1 h
   simp only [true_and]
   omega
 rcases H with⟨h,h1,h2⟩ | ⟨h,h1⟩ | ⟨h,h1,h2⟩
 all_goals
  rw [h]
  clear h
  go_enter Tryz.func124,Tryz.ntmps124
  go_wp2
  go_ret
  exact⟨rfl,rfl⟩
theorem Zix (c:UInt8):begZ (c.toNat:Int)=Zdr c:=by
 unfold begZ Zdr
 congr 1
 ·congr 1
  ·congr 1
   ·congr 1 <;> exact decide_eq_decide.2 (by omega)
   ·congr 1 <;> exact decide_eq_decide.2 (by omega)
  ·exact decide_eq_decide.2 (by omega)
 ·exact decide_eq_decide.2 (by omega)
theorem Ziy (c:UInt8):digZ (c.toNat:Int)=Zgw c:=by
 unfold digZ Zgw
 congr 1 <;> exact decide_eq_decide.2 (by omega)
theorem Zih {r:Nat} (h:128≤r):begZ r=false∧digZ r=false:=by
 simp only [begZ,digZ,Bool.or_eq_false_iff,Bool.and_eq_false_iff,decide_eq_false_iff_not]
 omega
theorem Zm7 {c:UInt8} (h:128≤c.toNat) (k:Nat):okAt c k=false:=by
 have h1:=Zih h
 rw [Zix,Ziy] at h1
 simp [okAt,h1]
theorem ZrK {l:List UInt8} {k:Nat} (h:k<l.length) {c:UInt8} (hc:l[k]=c) :
 ∃ r m,Utf8.decode (bs l) k=(r,m)∧1≤m∧((begZ r=true∧okAt c k=true∧m=1)∨(begZ r=false∧digZ r=true∧okAt c k=decide (0<k)∧m=1)∨(begZ r=false∧digZ r=false∧okAt c k=false)):=by
 have hs:k<(bs l).size:=h
 have hg:(bs l)[k]'hs=c:=hc
 by_cases ha:c.toNat<128
 ·refine⟨c.toNat,1,by rw [decode_ascii (bs l) k hs (by rw [hg];exact ha),hg],Nat.le_refl _,?_⟩
  rw [Zix,Ziy]
  cases h1:Zdr c
  ·cases h2:Zgw c
   ·right;right
    exact⟨rfl,rfl,by simp [okAt,h1,h2]⟩
   ·right;left
    exact⟨rfl,rfl,by simp [okAt,h1,h2],rfl⟩
  ·left
   exact⟨rfl,by simp [okAt,h1],rfl⟩
 ·have h1:=decode_high (bs l) k hs (by rw [hg];omega)
  obtain⟨b1,b2⟩:=Zih h1.1
  exact⟨_,_,rfl,h1.2,.inr (.inr ⟨b1,b2,Zm7 (by omega) k⟩)⟩
theorem ZbU (l:List UInt8) (w:World) (hl:l.length≤140737488351232) :
 Calls Tryz.prog 71 #[.string (bs l)] w fun e w'=>e=.returned (.bool (ZbL l))∧Ext w w':=by
 have hsz:(bs l).size=l.length:=rfl
 have hbs:=Zdd l
 by_cases h0:l=[]
 ·subst h0
  go_enter Tryz.func71,Tryz.ntmps71
  go_wp2
  go_ret
  exact⟨rfl,Ext.refl w⟩
 have he:l.isEmpty=false:=by cases l with | nil=>exact absurd rfl h0 | cons=>rfl
 have he2:(l==[])=false:=by simpa using h0
 have hp:0<l.length:=List.length_pos_iff.2 h0
 have Hp:=Lh hp
 clear h0 hp
 by_cases h64:64<l.length
 ·rw [Zg7 h64]
  go_enter Tryz.func71,Tryz.ntmps71
  go_wp2
  go_ret
  exact⟨rfl,Ext.refl w⟩
 go_enter Tryz.func71,Tryz.ntmps71
 go_wp2
 go_loopw [] (fun wr=>∃ k:Nat,k≤l.length∧wr.heap[w.heap.size]?=some (.stringIter (bs l) k)∧Ext w wr∧Hid (∀ j (h:j<l.length),j<k→okAt l[j] j=true)) (fun wr=>l.length-wr.iterPos w.heap.size)
 case atStart =>
  refine⟨0,by omega,?_,Ext.alloc (Ext.refl w) (.stringIter (bs l) 0),Lh (fun j _ h=>absurd h (Nat.not_lt_zero _))⟩
  have:=World.iter_heap w (bs l) 0
  simpa using this
 case round =>
  obtain⟨k,hk,hit,hx,Ht⟩:=hrel
  have hszr:w.heap.size<wr.heap.size:=Zab hit
  by_cases hlt:k<l.length
  ·obtain⟨c,hc⟩:∃ c,l[k]=c:=⟨_,rfl⟩
   obtain⟨r,m,hdec,hm,hr⟩:=ZrK hlt hc
   have hnx:∀ ty,(Instr.next (.pointer (some ⟨w.heap.size,0,none⟩)) true ty).run Tryz.prog wr=_:=fun ty=>Lib.run_next_any_at wr w.heap.size (bs l) k ty hit hlt
   simp only [hdec] at hnx
   have hit2:=Lib.iterAt_heap wr w.heap.size (bs l) k (k+m) hit
   have hx2:Ext w (wr.iterAt w.heap.size (bs l) (k+m)):=Lib.below_iterAt hx (Nat.le_refl _) (bs l) (k+m)
   have Next:=Lh (show okAt c k=true→m=1→k+m≤l.length∧∀ j (h:j<l.length),j<k+m→okAt l[j] j=true from by
    rintro ho rfl
    refine⟨by omega,fun j h hj=>?_⟩
    by_cases hjk:j<k
    ·exact Ht.out j h hjk
    ·obtain rfl:j=k:=by omega
     rw [hc]
     exact ho)
   have Bad:=Lh (fun hb=>ZiJ hlt hc hb)
   clear hdec hc
   have CB:=Lh (fun W=>ZgI r W)
   have CD:=Lh (fun W=>Zj6 r W)
   rcases hr with⟨hb,ho,rfl⟩ | ⟨hb,hd,ho,rfl⟩ | ⟨hb,hd,ho⟩
   ·rw [hb] at CB
    obtain⟨n1,n2⟩:=Next.out ho rfl
    have N2:=Lh n2
    clear hb ho n2
    go_wp2_with fail
    refine(CB.out _).mono ?_
    rintro e w2 ⟨rfl,rfl⟩
    go_wp2
    go_roundw
    case rel=>exact⟨k+1,n1,hit2,hx2,N2⟩
    case measure =>
     simp only [World.iterPos,hit2,hit]
     omega
   ·rw [hb] at CB
    rw [hd] at CD
    by_cases hk0:k=0
    ·have hk1:((k:Int)==0)=true:=by rw [beq_iff_eq];omega
     have Ho:=Lh (Bad.out (ho.trans (by rw [hk0];rfl)))
     clear hb ho hd hk0
     go_wp2_with fail
     refine(CB.out _).mono ?_
     rintro e w2 ⟨rfl,rfl⟩
     go_wp2
     go_ret
     exact⟨by rw [Ho.out];rfl,hx2⟩
    ·have hk1:((k:Int)==0)=false:=by rw [beq_eq_false_iff_ne];omega
     obtain⟨n1,n2⟩:=Next.out (ho.trans (decide_eq_true (by omega))) rfl
     have N2:=Lh n2
     clear hb ho n2 hd
     go_wp2_with fail
     refine(CB.out _).mono ?_
     rintro e w2 ⟨rfl,rfl⟩
     go_wp2_with fail
     refine(CD.out _).mono ?_
     rintro e w2 ⟨rfl,rfl⟩
     go_wp2
     go_roundw
     case rel=>exact⟨k+1,n1,hit2,hx2,N2⟩
     case measure =>
      simp only [World.iterPos,hit2,hit]
      omega
   ·rw [hb] at CB
    rw [hd] at CD
    have Ho:=Lh (Bad.out ho)
    clear hb ho hd
    cases hk1:((k:Int)==0)
    ·go_wp2_with fail
     refine(CB.out _).mono ?_
     rintro e w2 ⟨rfl,rfl⟩
     go_wp2_with fail
     refine(CD.out _).mono ?_
     rintro e w2 ⟨rfl,rfl⟩
     go_wp2
     go_ret
     exact⟨by rw [Ho.out];rfl,hx2⟩
    ·go_wp2_with fail
     refine(CB.out _).mono ?_
     rintro e w2 ⟨rfl,rfl⟩
     go_wp2
     go_ret
     exact⟨by rw [Ho.out];rfl,hx2⟩
  ·obtain rfl:k=l.length:=by omega
   have hnx:∀ ty,(Instr.next (.pointer (some ⟨w.heap.size,0,none⟩)) true ty).run Tryz.prog wr=_:=fun ty=>Lib.run_next_end_at wr w.heap.size (bs l) l.length ty hit hlt
   have HE:=Lh (nameB_at.2 ⟨Hp.out,by omega,fun j h=>Ht.out j h (by omega)⟩)
   go_wp2
   go_ret
   exact⟨by rw [HE.out];rfl,hx⟩
theorem ZbN (t:TyD) (w:World) (hl:t.s.length≤140737488351232) :
 Calls Tryz.prog 129 #[.agg t.vals] w fun e w'=>e=.returned (.int .i64 (Zdp t))∧Ext w w':=by
 obtain⟨k,s⟩:=t
 have hbs:=Zdd s
 have hsz:(bs s).size=s.length:=rfl
 rcases ZlA k with rfl | rfl | rfl | rfl | rfl | rfl | ⟨n1,n2,n3,n4,n5,n6,-⟩
 ·by_cases hn:s=[]
  ·subst hn
   rw [Zat (t:=⟨1,[]⟩) rfl]
   unfold TyD.vals
   go_enter Tryz.func129,Tryz.ntmps129
   go_wp2
   go_ret
   exact⟨rfl,(Ext.refl w).alloc _⟩
  ·rw [Zaw (t:=⟨1,s⟩) (by unfold okT;simpa using hn)]
   have he:(s==[])=false:=by simpa using hn
   clear hn
   unfold TyD.vals
   go_enter Tryz.func129,Tryz.ntmps129
   go_wp2
   go_ret
   exact⟨rfl,(Ext.refl w).alloc _⟩
 ·by_cases hn:s=[]
  ·subst hn
   rw [Zat (t:=⟨2,[]⟩) rfl]
   unfold TyD.vals
   go_enter Tryz.func129,Tryz.ntmps129
   go_wp2
   go_ret
   exact⟨rfl,(Ext.refl w).alloc _⟩
  ·rw [Zaw (t:=⟨2,s⟩) (by unfold okT;simpa using hn)]
   have he:(s==[])=false:=by simpa using hn
   clear hn
   unfold TyD.vals
   go_enter Tryz.func129,Tryz.ntmps129
   go_wp2
   go_ret
   exact⟨rfl,(Ext.refl w).alloc _⟩
 ·cases hn:ZbL s
  ·rw [Zaw (t:=⟨3,s⟩) hn]
   have HN:=Lh hn
   clear hn
   unfold TyD.vals
   go_enter Tryz.func129,Tryz.ntmps129
   go_wp2_with fail
   refine(ZbU s _ hl).mono ?_
   rw [HN.out]
   rintro e w1 ⟨rfl,x1⟩
   go_wp2
   go_ret
   exact⟨rfl,((Ext.refl w).alloc _).trans x1⟩
  ·rw [Zat (t:=⟨3,s⟩) hn]
   have HN:=Lh hn
   clear hn
   unfold TyD.vals
   go_enter Tryz.func129,Tryz.ntmps129
   go_wp2_with fail
   refine(ZbU s _ hl).mono ?_
   rw [HN.out]
   rintro e w1 ⟨rfl,x1⟩
   go_wp2
   go_ret
   exact⟨rfl,((Ext.refl w).alloc _).trans x1⟩
 ·by_cases hn:s=[]
  ·subst hn
   rw [Zat (t:=⟨4,[]⟩) rfl]
   unfold TyD.vals
   go_enter Tryz.func129,Tryz.ntmps129
   go_wp2
   go_ret
   exact⟨rfl,(Ext.refl w).alloc _⟩
  ·rw [Zaw (t:=⟨4,s⟩) (by unfold okT;simpa using hn)]
   have he:(s==[])=false:=by simpa using hn
   clear hn
   unfold TyD.vals
   go_enter Tryz.func129,Tryz.ntmps129
   go_wp2
   go_ret
   exact⟨rfl,(Ext.refl w).alloc _⟩
 ·by_cases hn:s=[]
  ·subst hn
   rw [Zat (t:=⟨5,[]⟩) rfl]
   unfold TyD.vals
   go_enter Tryz.func129,Tryz.ntmps129
   go_wp2
   go_ret
   exact⟨rfl,(Ext.refl w).alloc _⟩
  ·rw [Zaw (t:=⟨5,s⟩) (by unfold okT;simpa using hn)]
   have he:(s==[])=false:=by simpa using hn
   clear hn
   unfold TyD.vals
   go_enter Tryz.func129,Tryz.ntmps129
   go_wp2
   go_ret
   exact⟨rfl,(Ext.refl w).alloc _⟩
 ·cases hn:ZbL s
  ·rw [Zaw (t:=⟨6,s⟩) hn]
   have HN:=Lh hn
   clear hn
   unfold TyD.vals
   go_enter Tryz.func129,Tryz.ntmps129
   go_wp2_with fail
   refine(ZbU s _ hl).mono ?_
   rw [HN.out]
   rintro e w1 ⟨rfl,x1⟩
   go_wp2
   go_ret
   exact⟨rfl,((Ext.refl w).alloc _).trans x1⟩
  ·rw [Zat (t:=⟨6,s⟩) hn]
   have HN:=Lh hn
   clear hn
   unfold TyD.vals
   go_enter Tryz.func129,Tryz.ntmps129
   go_wp2_with fail
   refine(ZbU s _ hl).mono ?_
   rw [HN.out]
   rintro e w1 ⟨rfl,x1⟩
   go_wp2
   go_ret
   exact⟨rfl,((Ext.refl w).alloc _).trans x1⟩
 ·rw [Zaw (ZmZ n1 n2 n3 n4 n5 n6)]
  unfold TyD.vals
  go_enter Tryz.func129,Tryz.ntmps129
  go_wp2
  go_ret
  exact⟨rfl,(Ext.refl w).alloc _⟩
theorem ZbV (k:Int) (t:TyD) (w:World) (hl:t.s.length≤140737488351232) :
 Calls Tryz.prog 228 #[.int .i64 k,.agg t.vals] w fun e w'=>e=.returned (.agg (TyD.vals ⟨k,t.s⟩))∧Ext w w':=by
 obtain⟨k0,s⟩:=t
 have hc:=fun W=>Zga (bs s) W hl
 have HC:=Lh hc
 clear hc
 unfold TyD.vals
 go_enter Tryz.func228,Tryz.ntmps228
 go_wp2_with fail
 refine(HC.out _).mono ?_
 rintro e w1 ⟨rfl,x1⟩
 obtain⟨g1,g2,hlt,hx⟩:=Zd7 x1
 have f0:w1.frozen? ⟨w.heap.size+1,0,none⟩=false:=by simp [World.frozen?,g2]
 have f1:w1.frozen? ⟨w.heap.size+1,1,none⟩=false:=by simp [World.frozen?,g2]
 have hg2:w1.heap[w.heap.size+1]?=some (.cells #[.int .i64 0,.string ⟨#[]⟩] 41 (0,0)):=g2
 have d0:w1.cell? ⟨w.heap.size+1,0,none⟩=some (.int .i64 0):=by rw [cell_of_row w1 _ _ _ _ _ hg2];rfl
 have d1:w1.cell? ⟨w.heap.size+1,1,none⟩=some (.string ⟨#[]⟩):=by rw [cell_of_row w1 _ _ _ _ _ hg2];rfl
 clear g1 g2 hg2
 have HX:=Lh hx
 clear x1 hx
 go_wp2
 refine bodyPost_ret (v:=.agg (TyD.vals ⟨k,s⟩)) (by unfold TyD.vals;simp [results,Tryz.results228,go_sem,d0,d1];try exact⟨rfl,rfl⟩) rfl ⟨rfl,Ext.set_ (Ext.set_ HX.out (Nat.le_succ _) _) (Nat.le_succ _) _⟩
theorem ZcU (t:TyD) (w:World) (hl:t.s.length≤140737488351232) :
 Calls Tryz.prog 192 #[.agg t.vals] w fun e w'=>e=.returned (.tuple #[.agg (ZgJ t).1.vals,.bool (ZgJ t).2])∧Ext w w':=by
 obtain⟨k,s⟩:=t
 have hbs:s.length≤140737488351232:=hl
 rcases ZlA k with rfl | rfl | rfl | rfl | rfl | rfl | ⟨n1,n2,n3,n4,n5,n6,n7⟩
 ·rw [ZmS]
  unfold TyD.vals
  go_enter Tryz.func192,Tryz.ntmps192
  go_wp2
  refine bodyPost_ret (v:=.tuple #[.agg (TyD.vals t0D),.bool false]) (by unfold TyD.vals;simp [results,Tryz.results192,go_sem];try exact⟨rfl,rfl⟩) rfl ⟨rfl,?_⟩
  first | exact Ext.refl w | exact(Ext.refl w).alloc _ | exact((Ext.refl w).alloc _).alloc _ | exact(((Ext.refl w).alloc _).alloc _).alloc _
 ·rw [ZoD]
  unfold TyD.vals
  go_enter Tryz.func192,Tryz.ntmps192
  go_wp2
  refine bodyPost_ret (v:=.tuple #[.agg (TyD.vals t0D),.bool false]) (by unfold TyD.vals;simp [results,Tryz.results192,go_sem];try exact⟨rfl,rfl⟩) rfl ⟨rfl,?_⟩
  first | exact Ext.refl w | exact(Ext.refl w).alloc _ | exact((Ext.refl w).alloc _).alloc _ | exact(((Ext.refl w).alloc _).alloc _).alloc _
 ·rw [ZnY]
  unfold TyD.vals
  go_enter Tryz.func192,Tryz.ntmps192
  go_wp2
  refine bodyPost_ret (v:=.tuple #[.agg (TyD.vals t0D),.bool false]) (by unfold TyD.vals;simp [results,Tryz.results192,go_sem];try exact⟨rfl,rfl⟩) rfl ⟨rfl,?_⟩
  first | exact Ext.refl w | exact(Ext.refl w).alloc _ | exact((Ext.refl w).alloc _).alloc _ | exact(((Ext.refl w).alloc _).alloc _).alloc _
 ·rw [ZnC]
  have hc:=fun W=>ZbV 1 ⟨4,s⟩ W hl
  unfold TyD.vals at hc
  have HC:=Lh hc
  clear hc
  unfold TyD.vals
  go_enter Tryz.func192,Tryz.ntmps192
  go_wp2_with fail
  refine(HC.out _).mono ?_
  rintro e w1 ⟨rfl,x1⟩
  obtain⟨g1,g2,hlt,hx⟩:=Zd7 x1
  have f0:w1.frozen? ⟨w.heap.size+1,0,none⟩=false:=by simp [World.frozen?,g2]
  have f1:w1.frozen? ⟨w.heap.size+1,1,none⟩=false:=by simp [World.frozen?,g2]
  have hg2:w1.heap[w.heap.size+1]?=some (.cells #[.int .i64 0,.string ⟨#[]⟩] 41 (0,0)):=g2
  have d0:w1.cell? ⟨w.heap.size+1,0,none⟩=some (.int .i64 0):=by rw [cell_of_row w1 _ _ _ _ _ hg2];rfl
  have d1:w1.cell? ⟨w.heap.size+1,1,none⟩=some (.string ⟨#[]⟩):=by rw [cell_of_row w1 _ _ _ _ _ hg2];rfl
  clear g1 g2 hg2
  have HX:=Lh hx
  clear x1 hx
  go_wp2
  refine bodyPost_ret (v:=.tuple #[.agg (TyD.vals ⟨1,s⟩),.bool true]) (by unfold TyD.vals;simp [results,Tryz.results192,go_sem,d0,d1];try exact⟨rfl,rfl⟩) rfl ⟨rfl,Ext.set_ (Ext.set_ HX.out (Nat.le_succ _) _) (Nat.le_succ _) _⟩
 ·rw [Zoe]
  have hc:=fun W=>ZbV 2 ⟨5,s⟩ W hl
  unfold TyD.vals at hc
  have HC:=Lh hc
  clear hc
  unfold TyD.vals
  go_enter Tryz.func192,Tryz.ntmps192
  go_wp2_with fail
  refine(HC.out _).mono ?_
  rintro e w1 ⟨rfl,x1⟩
  obtain⟨g1,g2,hlt,hx⟩:=Zd7 x1
  have f0:w1.frozen? ⟨w.heap.size+1,0,none⟩=false:=by simp [World.frozen?,g2]
  have f1:w1.frozen? ⟨w.heap.size+1,1,none⟩=false:=by simp [World.frozen?,g2]
  have hg2:w1.heap[w.heap.size+1]?=some (.cells #[.int .i64 0,.string ⟨#[]⟩] 41 (0,0)):=g2
  have d0:w1.cell? ⟨w.heap.size+1,0,none⟩=some (.int .i64 0):=by rw [cell_of_row w1 _ _ _ _ _ hg2];rfl
  have d1:w1.cell? ⟨w.heap.size+1,1,none⟩=some (.string ⟨#[]⟩):=by rw [cell_of_row w1 _ _ _ _ _ hg2];rfl
  clear g1 g2 hg2
  have HX:=Lh hx
  clear x1 hx
  go_wp2
  refine bodyPost_ret (v:=.tuple #[.agg (TyD.vals ⟨2,s⟩),.bool true]) (by unfold TyD.vals;simp [results,Tryz.results192,go_sem,d0,d1];try exact⟨rfl,rfl⟩) rfl ⟨rfl,Ext.set_ (Ext.set_ HX.out (Nat.le_succ _) _) (Nat.le_succ _) _⟩
 ·rw [Znv]
  have hc:=fun W=>ZbV 3 ⟨6,s⟩ W hl
  unfold TyD.vals at hc
  have HC:=Lh hc
  clear hc
  unfold TyD.vals
  go_enter Tryz.func192,Tryz.ntmps192
  go_wp2_with fail
  refine(HC.out _).mono ?_
  rintro e w1 ⟨rfl,x1⟩
  obtain⟨g1,g2,hlt,hx⟩:=Zd7 x1
  have f0:w1.frozen? ⟨w.heap.size+1,0,none⟩=false:=by simp [World.frozen?,g2]
  have f1:w1.frozen? ⟨w.heap.size+1,1,none⟩=false:=by simp [World.frozen?,g2]
  have hg2:w1.heap[w.heap.size+1]?=some (.cells #[.int .i64 0,.string ⟨#[]⟩] 41 (0,0)):=g2
  have d0:w1.cell? ⟨w.heap.size+1,0,none⟩=some (.int .i64 0):=by rw [cell_of_row w1 _ _ _ _ _ hg2];rfl
  have d1:w1.cell? ⟨w.heap.size+1,1,none⟩=some (.string ⟨#[]⟩):=by rw [cell_of_row w1 _ _ _ _ _ hg2];rfl
  clear g1 g2 hg2
  have HX:=Lh hx
  clear x1 hx
  go_wp2
  refine bodyPost_ret (v:=.tuple #[.agg (TyD.vals ⟨3,s⟩),.bool true]) (by unfold TyD.vals;simp [results,Tryz.results192,go_sem,d0,d1];try exact⟨rfl,rfl⟩) rfl ⟨rfl,Ext.set_ (Ext.set_ HX.out (Nat.le_succ _) _) (Nat.le_succ _) _⟩
 ·rw [Zm5 n1 n2 n3 n4 n5 n6]
  unfold TyD.vals
  go_enter Tryz.func192,Tryz.ntmps192
  go_wp2
  refine bodyPost_ret (v:=.tuple #[.agg (TyD.vals t0D),.bool false]) (by unfold TyD.vals;simp [results,Tryz.results192,go_sem];try exact⟨rfl,rfl⟩) rfl ⟨rfl,?_⟩
  first | exact Ext.refl w | exact(Ext.refl w).alloc _ | exact((Ext.refl w).alloc _).alloc _ | exact(((Ext.refl w).alloc _).alloc _).alloc _
theorem Zpm (t:TyD) (w:World) (hl:t.s.length≤140737488351232) :
 Calls Tryz.prog 247 #[.agg t.vals] w fun e w'=>e=.returned (.tuple #[.agg (Zc9 t).1.vals,.bool (Zc9 t).2])∧Ext w w':=by
 obtain⟨k,s⟩:=t
 have hbs:s.length≤140737488351232:=hl
 rcases ZlA k with rfl | rfl | rfl | rfl | rfl | rfl | ⟨n1,n2,n3,n4,n5,n6,n7⟩
 ·rw [ZrM]
  have hc:=fun W=>ZbV 4 ⟨1,s⟩ W hl
  unfold TyD.vals at hc
  have HC:=Lh hc
  clear hc
  unfold TyD.vals
  go_enter Tryz.func247,Tryz.ntmps247
  go_wp2_with fail
  refine(HC.out _).mono ?_
  rintro e w1 ⟨rfl,x1⟩
  obtain⟨g1,g2,hlt,hx⟩:=Zd7 x1
  have f0:w1.frozen? ⟨w.heap.size+1,0,none⟩=false:=by simp [World.frozen?,g2]
  have f1:w1.frozen? ⟨w.heap.size+1,1,none⟩=false:=by simp [World.frozen?,g2]
  have hg2:w1.heap[w.heap.size+1]?=some (.cells #[.int .i64 0,.string ⟨#[]⟩] 41 (0,0)):=g2
  have d0:w1.cell? ⟨w.heap.size+1,0,none⟩=some (.int .i64 0):=by rw [cell_of_row w1 _ _ _ _ _ hg2];rfl
  have d1:w1.cell? ⟨w.heap.size+1,1,none⟩=some (.string ⟨#[]⟩):=by rw [cell_of_row w1 _ _ _ _ _ hg2];rfl
  clear g1 g2 hg2
  have HX:=Lh hx
  clear x1 hx
  go_wp2
  refine bodyPost_ret (v:=.tuple #[.agg (TyD.vals ⟨4,s⟩),.bool true]) (by unfold TyD.vals;simp [results,Tryz.results247,go_sem,d0,d1];try exact⟨rfl,rfl⟩) rfl ⟨rfl,Ext.set_ (Ext.set_ HX.out (Nat.le_succ _) _) (Nat.le_succ _) _⟩
 ·rw [Zrm]
  have hc:=fun W=>ZbV 5 ⟨2,s⟩ W hl
  unfold TyD.vals at hc
  have HC:=Lh hc
  clear hc
  unfold TyD.vals
  go_enter Tryz.func247,Tryz.ntmps247
  go_wp2_with fail
  refine(HC.out _).mono ?_
  rintro e w1 ⟨rfl,x1⟩
  obtain⟨g1,g2,hlt,hx⟩:=Zd7 x1
  have f0:w1.frozen? ⟨w.heap.size+1,0,none⟩=false:=by simp [World.frozen?,g2]
  have f1:w1.frozen? ⟨w.heap.size+1,1,none⟩=false:=by simp [World.frozen?,g2]
  have hg2:w1.heap[w.heap.size+1]?=some (.cells #[.int .i64 0,.string ⟨#[]⟩] 41 (0,0)):=g2
  have d0:w1.cell? ⟨w.heap.size+1,0,none⟩=some (.int .i64 0):=by rw [cell_of_row w1 _ _ _ _ _ hg2];rfl
  have d1:w1.cell? ⟨w.heap.size+1,1,none⟩=some (.string ⟨#[]⟩):=by rw [cell_of_row w1 _ _ _ _ _ hg2];rfl
  clear g1 g2 hg2
  have HX:=Lh hx
  clear x1 hx
  go_wp2
  refine bodyPost_ret (v:=.tuple #[.agg (TyD.vals ⟨5,s⟩),.bool true]) (by unfold TyD.vals;simp [results,Tryz.results247,go_sem,d0,d1];try exact⟨rfl,rfl⟩) rfl ⟨rfl,Ext.set_ (Ext.set_ HX.out (Nat.le_succ _) _) (Nat.le_succ _) _⟩
 ·rw [ZrF]
  have hc:=fun W=>ZbV 6 ⟨3,s⟩ W hl
  unfold TyD.vals at hc
  have HC:=Lh hc
  clear hc
  unfold TyD.vals
  go_enter Tryz.func247,Tryz.ntmps247
  go_wp2_with fail
  refine(HC.out _).mono ?_
  rintro e w1 ⟨rfl,x1⟩
  obtain⟨g1,g2,hlt,hx⟩:=Zd7 x1
  have f0:w1.frozen? ⟨w.heap.size+1,0,none⟩=false:=by simp [World.frozen?,g2]
  have f1:w1.frozen? ⟨w.heap.size+1,1,none⟩=false:=by simp [World.frozen?,g2]
  have hg2:w1.heap[w.heap.size+1]?=some (.cells #[.int .i64 0,.string ⟨#[]⟩] 41 (0,0)):=g2
  have d0:w1.cell? ⟨w.heap.size+1,0,none⟩=some (.int .i64 0):=by rw [cell_of_row w1 _ _ _ _ _ hg2];rfl
  have d1:w1.cell? ⟨w.heap.size+1,1,none⟩=some (.string ⟨#[]⟩):=by rw [cell_of_row w1 _ _ _ _ _ hg2];rfl
  clear g1 g2 hg2
  have HX:=Lh hx
  clear x1 hx
  go_wp2
  refine bodyPost_ret (v:=.tuple #[.agg (TyD.vals ⟨6,s⟩),.bool true]) (by unfold TyD.vals;simp [results,Tryz.results247,go_sem,d0,d1];try exact⟨rfl,rfl⟩) rfl ⟨rfl,Ext.set_ (Ext.set_ HX.out (Nat.le_succ _) _) (Nat.le_succ _) _⟩
 ·rw [ZrU]
  unfold TyD.vals
  go_enter Tryz.func247,Tryz.ntmps247
  go_wp2
  refine bodyPost_ret (v:=.tuple #[.agg (TyD.vals t0D),.bool false]) (by unfold TyD.vals;simp [results,Tryz.results247,go_sem];try exact⟨rfl,rfl⟩) rfl ⟨rfl,?_⟩
  first | exact Ext.refl w | exact(Ext.refl w).alloc _ | exact((Ext.refl w).alloc _).alloc _ | exact(((Ext.refl w).alloc _).alloc _).alloc _
 ·rw [ZrL]
  unfold TyD.vals
  go_enter Tryz.func247,Tryz.ntmps247
  go_wp2
  refine bodyPost_ret (v:=.tuple #[.agg (TyD.vals t0D),.bool false]) (by unfold TyD.vals;simp [results,Tryz.results247,go_sem];try exact⟨rfl,rfl⟩) rfl ⟨rfl,?_⟩
  first | exact Ext.refl w | exact(Ext.refl w).alloc _ | exact((Ext.refl w).alloc _).alloc _ | exact(((Ext.refl w).alloc _).alloc _).alloc _
 ·rw [Zr4]
  unfold TyD.vals
  go_enter Tryz.func247,Tryz.ntmps247
  go_wp2
  refine bodyPost_ret (v:=.tuple #[.agg (TyD.vals t0D),.bool false]) (by unfold TyD.vals;simp [results,Tryz.results247,go_sem];try exact⟨rfl,rfl⟩) rfl ⟨rfl,?_⟩
  first | exact Ext.refl w | exact(Ext.refl w).alloc _ | exact((Ext.refl w).alloc _).alloc _ | exact(((Ext.refl w).alloc _).alloc _).alloc _
 ·rw [ZrC n1 n2 n3 n4 n5 n6]
  unfold TyD.vals
  go_enter Tryz.func247,Tryz.ntmps247
  go_wp2
  refine bodyPost_ret (v:=.tuple #[.agg (TyD.vals t0D),.bool false]) (by unfold TyD.vals;simp [results,Tryz.results247,go_sem];try exact⟨rfl,rfl⟩) rfl ⟨rfl,?_⟩
  first | exact Ext.refl w | exact(Ext.refl w).alloc _ | exact((Ext.refl w).alloc _).alloc _ | exact(((Ext.refl w).alloc _).alloc _).alloc _
theorem ZdF (t:TyD) (w:World) (hl:t.s.length≤140737488351232) (hlo:¬ (t.k=4∨t.k=5∨t.k=6)) :
 Calls Tryz.prog 160 #[.agg t.vals] w fun e w'=>e=.returned (.string (bs (Zal t)))∧Ext w w':=by
 obtain⟨k,s⟩:=t
 have hsl:s.length≤140737488351232:=hl
 have hsz:(bs s).size=s.length:=rfl
 rcases ZlA k with rfl | rfl | rfl | rfl | rfl | rfl | ⟨n1,n2,n3,n4,n5,n6,n7⟩
 ·rw [ZjS]
  have hc:=fun W=>ZcU ⟨1,s⟩ W hl
  rw [ZmS] at hc
  unfold TyD.vals at hc
  have HC:=Lh hc
  clear hc
  clear hlo
  unfold TyD.vals
  go_enter Tryz.func160,Tryz.ntmps160
  go_wp2_with fail
  refine(HC.out _).mono ?_
  rintro e w1 ⟨rfl,x1⟩
  have X1:=Lh (((Ext.refl w).alloc _).trans x1)
  have hk:=x1.block w.heap.size (by simp)
  have a0:=x1.cell (p:=⟨w.heap.size,0,none⟩) (by simp)
  have a1:=x1.cell (p:=⟨w.heap.size,1,none⟩) (by simp)
  rw [cell_of_row _ _ _ _ _ _ (heap_alloc_new w _)] at a0 a1
  simp at a0 a1
  have hlt:w.heap.size<w1.heap.size:=by have:=x1.size;simp at this;omega
  clear x1 hk
  go_wp2
  go_ret
  exact⟨rfl,X1.out.alloc _⟩
 ·rw [ZjE]
  have hc:=fun W=>ZcU ⟨2,s⟩ W hl
  rw [ZoD] at hc
  unfold TyD.vals at hc
  have HC:=Lh hc
  clear hc
  clear hlo
  unfold TyD.vals
  go_enter Tryz.func160,Tryz.ntmps160
  go_wp2_with fail
  refine(HC.out _).mono ?_
  rintro e w1 ⟨rfl,x1⟩
  have X1:=Lh (((Ext.refl w).alloc _).trans x1)
  have hk:=x1.block w.heap.size (by simp)
  have a0:=x1.cell (p:=⟨w.heap.size,0,none⟩) (by simp)
  have a1:=x1.cell (p:=⟨w.heap.size,1,none⟩) (by simp)
  rw [cell_of_row _ _ _ _ _ _ (heap_alloc_new w _)] at a0 a1
  simp at a0 a1
  have hlt:w.heap.size<w1.heap.size:=by have:=x1.size;simp at this;omega
  clear x1 hk
  go_wp2
  go_ret
  exact⟨rfl,X1.out.alloc _⟩
 ·rw [Zjw]
  have hc:=fun W=>ZcU ⟨3,s⟩ W hl
  rw [ZnY] at hc
  unfold TyD.vals at hc
  have HC:=Lh hc
  clear hc
  have b1:∀ W,(Op.stringOp .add ⟨#[76]⟩ (bs s)).run Tryz.prog W=.ok (.string (bs (76 :: s))) W:=fun W=>Zc5 ⟨#[76]⟩ (bs s) [76] s rfl rfl (by simp only [List.length_cons,List.length_nil];omega) W
  have b2:∀ W,(Op.stringOp .add (bs (76 :: s)) ⟨#[59]⟩).run Tryz.prog W=.ok (.string (bs (76 :: (s++[59])))) W:=fun W=>Zc5 (bs (76 :: s)) ⟨#[59]⟩ (76 :: s) [59] rfl rfl (by simp;omega) W
  clear hlo
  unfold TyD.vals
  go_enter Tryz.func160,Tryz.ntmps160
  go_wp2_with fail
  refine(HC.out _).mono ?_
  rintro e w1 ⟨rfl,x1⟩
  have X1:=Lh (((Ext.refl w).alloc _).trans x1)
  have hk:=x1.block w.heap.size (by simp)
  have a0:=x1.cell (p:=⟨w.heap.size,0,none⟩) (by simp)
  have a1:=x1.cell (p:=⟨w.heap.size,1,none⟩) (by simp)
  rw [cell_of_row _ _ _ _ _ _ (heap_alloc_new w _)] at a0 a1
  simp at a0 a1
  have hlt:w.heap.size<w1.heap.size:=by have:=x1.size;simp at this;omega
  clear x1 hk
  go_wp2
  go_ret
  exact⟨rfl,X1.out.alloc _⟩
 ·exact absurd (by simp) hlo
 ·exact absurd (by simp) hlo
 ·exact absurd (by simp) hlo
 ·rw [ZoC n1 n2 n3 n4 n5 n6]
  have hc:=fun W=>ZcU ⟨k,s⟩ W hl
  rw [Zm5 n1 n2 n3 n4 n5 n6] at hc
  unfold TyD.vals at hc
  have HC:=Lh hc
  clear hc
  clear hlo
  unfold TyD.vals
  go_enter Tryz.func160,Tryz.ntmps160
  go_wp2_with fail
  refine(HC.out _).mono ?_
  rintro e w1 ⟨rfl,x1⟩
  have X1:=Lh (((Ext.refl w).alloc _).trans x1)
  have hk:=x1.block w.heap.size (by simp)
  have a0:=x1.cell (p:=⟨w.heap.size,0,none⟩) (by simp)
  have a1:=x1.cell (p:=⟨w.heap.size,1,none⟩) (by simp)
  rw [cell_of_row _ _ _ _ _ _ (heap_alloc_new w _)] at a0 a1
  simp at a0 a1
  have hlt:w.heap.size<w1.heap.size:=by have:=x1.size;simp at this;omega
  clear x1 hk
  go_wp2
  go_ret
  exact⟨rfl,X1.out.alloc _⟩
theorem Zd9 (t:TyD) (w:World) (hl:t.s.length≤140737488351232) :
 Calls Tryz.prog 160 #[.agg t.vals] w fun e w'=>e=.returned (.string (bs (Zal t)))∧Ext w w':=by
 by_cases hlo:t.k=4∨t.k=5∨t.k=6
 ·obtain⟨k,s⟩:=t
  have hsl:s.length≤140737488351232:=hl
  rcases hlo with rfl | rfl | rfl
  ·rw [ZmO]
   have hc:=fun W=>ZcU ⟨4,s⟩ W hl
   rw [ZnC] at hc
   unfold TyD.vals at hc
   have HC:=Lh hc
   clear hc
   have hw:=fun W=>ZdF ⟨1,s⟩ W hl (by simp)
   rw [ZjS] at hw
   unfold TyD.vals at hw
   have HW:=Lh hw
   clear hw
   have b1:∀ W,(Op.stringOp .add ⟨#[91]⟩ (bs [73])).run Tryz.prog W=.ok (.string (bs (91 :: [73]))) W:=fun W=>Zc5 ⟨#[91]⟩ (bs [73]) [91] [73] rfl rfl (by simp only [List.length_cons,List.length_nil];omega) W
   unfold TyD.vals
   go_enter Tryz.func160,Tryz.ntmps160
   go_wp2_with fail
   refine(HC.out _).mono ?_
   rintro e w1 ⟨rfl,x1⟩
   have X1:=Lh (((Ext.refl w).alloc _).trans x1)
   have hk:=x1.block w.heap.size (by simp)
   have a0:=x1.cell (p:=⟨w.heap.size,0,none⟩) (by simp)
   have a1:=x1.cell (p:=⟨w.heap.size,1,none⟩) (by simp)
   rw [cell_of_row _ _ _ _ _ _ (heap_alloc_new w _)] at a0 a1
   simp at a0 a1
   have hlt:w.heap.size<w1.heap.size:=by have:=x1.size;simp at this;omega
   clear x1 hk
   go_wp2_with fail
   refine(HW.out _).mono ?_
   rintro e w2 ⟨rfl,x2⟩
   go_wp2
   go_ret
   exact⟨rfl,(X1.out.alloc _).trans x2⟩
  ·rw [ZnD]
   have hc:=fun W=>ZcU ⟨5,s⟩ W hl
   rw [Zoe] at hc
   unfold TyD.vals at hc
   have HC:=Lh hc
   clear hc
   have hw:=fun W=>ZdF ⟨2,s⟩ W hl (by simp)
   rw [ZjE] at hw
   unfold TyD.vals at hw
   have HW:=Lh hw
   clear hw
   have b1:∀ W,(Op.stringOp .add ⟨#[91]⟩ (bs [74])).run Tryz.prog W=.ok (.string (bs (91 :: [74]))) W:=fun W=>Zc5 ⟨#[91]⟩ (bs [74]) [91] [74] rfl rfl (by simp only [List.length_cons,List.length_nil];omega) W
   unfold TyD.vals
   go_enter Tryz.func160,Tryz.ntmps160
   go_wp2_with fail
   refine(HC.out _).mono ?_
   rintro e w1 ⟨rfl,x1⟩
   have X1:=Lh (((Ext.refl w).alloc _).trans x1)
   have hk:=x1.block w.heap.size (by simp)
   have a0:=x1.cell (p:=⟨w.heap.size,0,none⟩) (by simp)
   have a1:=x1.cell (p:=⟨w.heap.size,1,none⟩) (by simp)
   rw [cell_of_row _ _ _ _ _ _ (heap_alloc_new w _)] at a0 a1
   simp at a0 a1
   have hlt:w.heap.size<w1.heap.size:=by have:=x1.size;simp at this;omega
   clear x1 hk
   go_wp2_with fail
   refine(HW.out _).mono ?_
   rintro e w2 ⟨rfl,x2⟩
   go_wp2
   go_ret
   exact⟨rfl,(X1.out.alloc _).trans x2⟩
  ·rw [ZnZ]
   have hc:=fun W=>ZcU ⟨6,s⟩ W hl
   rw [Znv] at hc
   unfold TyD.vals at hc
   have HC:=Lh hc
   clear hc
   have hw:=fun W=>ZdF ⟨3,s⟩ W hl (by simp)
   rw [Zjw] at hw
   unfold TyD.vals at hw
   have HW:=Lh hw
   clear hw
   have b1:∀ W,(Op.stringOp .add ⟨#[91]⟩ (bs (76 :: (s++[59])))).run Tryz.prog W=.ok (.string (bs (91 :: (76 :: (s++[59]))))) W:=fun W=>Zc5 ⟨#[91]⟩ (bs (76 :: (s++[59]))) [91] (76 :: (s++[59])) rfl rfl (by simp only [List.length_append,List.length_cons,List.length_nil];omega) W
   unfold TyD.vals
   go_enter Tryz.func160,Tryz.ntmps160
   go_wp2_with fail
   refine(HC.out _).mono ?_
   rintro e w1 ⟨rfl,x1⟩
   have X1:=Lh (((Ext.refl w).alloc _).trans x1)
   have hk:=x1.block w.heap.size (by simp)
   have a0:=x1.cell (p:=⟨w.heap.size,0,none⟩) (by simp)
   have a1:=x1.cell (p:=⟨w.heap.size,1,none⟩) (by simp)
   rw [cell_of_row _ _ _ _ _ _ (heap_alloc_new w _)] at a0 a1
   simp at a0 a1
   have hlt:w.heap.size<w1.heap.size:=by have:=x1.size;simp at this;omega
   clear x1 hk
   go_wp2_with fail
   refine(HW.out _).mono ?_
   rintro e w2 ⟨rfl,x2⟩
   go_wp2
   go_ret
   exact⟨rfl,(X1.out.alloc _).trans x2⟩
 ·exact ZdF t w hl hlo
theorem ZhE (t:TyD) (w:World) (hl:t.s.length≤140737488351232) :
 Calls Tryz.prog 113 #[.agg t.vals] w fun e w'=>e=.returned (.tuple #[.string (bs (Zbx t).1),.int .i64 (Zbx t).2])∧Ext w w':=by
 have hc:=fun W=>ZbN t W hl
 have ht:=fun W=>Zd9 t W hl
 unfold TyD.vals at hc ht ⊢
 have HC:=Lh hc
 have HT:=Lh ht
 clear hc ht
 cases ho:okT t
 ·rw [show Zbx t=([],2) by rw [Zbx,ho];rfl]
  have h2:=Lh (Zaw ho)
  clear ho
  go_enter Tryz.func113,Tryz.ntmps113
  go_wp2_with fail
  refine(HC.out _).mono ?_
  rw [h2.out]
  rintro e w1 ⟨rfl,x1⟩
  go_wp2
  go_ret2
  exact⟨rfl,Ext.trans (by first | exact Ext.refl w | exact(Ext.refl w).alloc _) x1⟩
 ·rw [show Zbx t=(Zal t,0) by rw [Zbx,ho];rfl]
  have h2:=Lh (Zat ho)
  clear ho
  go_enter Tryz.func113,Tryz.ntmps113
  go_wp2_with fail
  refine(HC.out _).mono ?_
  rw [h2.out]
  rintro e w1 ⟨rfl,x1⟩
  have g1:w.heap.size<w1.heap.size:=by have:=x1.size;simp at this;omega
  have at1:=AtTD.ext (AtTD.of (t:=t) (heap_alloc_new _ _)) x1 (by simp)
  obtain⟨z0,z1⟩:=id at1
  go_wp2_with fail
  refine(HT.out _).mono ?_
  rintro e w2 ⟨rfl,x2⟩
  go_wp2
  go_ret2
  exact⟨rfl,Ext.trans (by first | exact Ext.refl w | exact(Ext.refl w).alloc _) (x1.trans x2)⟩
theorem ZdP (v:Value) (p:Pr) (w:World) (h:RowT w v p.args) (hret:p.ret.s.length≤140737488351232) :
 Calls Tryz.prog 132 #[.agg (p.vals v)] w fun e w'=>e=.returned (.int .i64 (Zap p))∧Ext w w':=by
 unfold Pr.vals
 obtain⟨A,c,rfl,hc,hm,ha,hf,hg⟩:=h
 unfold maxLen at hm
 by_cases h16:16<p.args.length
 ·rw [ZcY h16]
  clear hg hf ha
  go_enter Tryz.func132,Tryz.ntmps132
  go_wp2
  go_ret
  exact⟨rfl,(Ext.refl w).alloc _⟩
 ·have hne:∀ W,(binOp .eql 41 (.agg #[.int .i64 p.ret.k,.string (bs p.ret.s)]) (.agg #[.int .i64 0,.string ⟨#[]⟩])).run Tryz.prog W=.ok (.bool (eqT p.ret t0D)) W:=fun W=>ZnS p.ret t0D W
  have HR:=fun W=>ZbN p.ret W hret
  unfold TyD.vals at HR
  have HR:=Lh HR
  obtain⟨n,hn⟩:∃ n,n=p.args.length:=⟨_,rfl⟩
  rw [← hn] at hc hg h16 ⊢
  have Hn:=Lh hn
  clear hn ha
  have hf:=Lh hf
  go_enter Tryz.func132,Tryz.ntmps132
  go_wp2
  obtain⟨w2,hw2⟩:∃ w2,w2=w.alloc (.cells #[.int .i64 p.ret.k,.string (bs p.ret.s),.slice A n c] 44):=⟨_,rfl⟩
  have z5:w2.cell? ⟨w.heap.size,0,none⟩=some (.int .i64 p.ret.k):=by rw [hw2,cell_of_row _ _ _ _ _ _ (heap_alloc_new _ _)];rfl
  have z6:w2.cell? ⟨w.heap.size,1,none⟩=some (.string (bs p.ret.s)):=by rw [hw2,cell_of_row _ _ _ _ _ _ (heap_alloc_new _ _)];rfl
  have hlt2:w.heap.size<w2.heap.size:=by rw [hw2];simp
  have X2:Ext w w2:=by rw [hw2];exact(Ext.refl w).alloc _
  rw [← hw2]
  clear hw2
  have X2:=Lh X2
  go_loopw [13] (fun i wr=>∃ k:Nat,k≤n∧i=.int .i64 k∧Hid (∀ j,j<k→okT (gtD p.args j)=true)∧Ext w2 wr) (fun i _=>n-(intOf i).toNat)
  case atStart=>exact⟨0,by omega,rfl,Lh (fun j h=>absurd h (Nat.not_lt_zero _)),Ext.refl _⟩
  case round =>
   obtain⟨k,hk,rfl,Ht,hx⟩:=hrel
   by_cases hlt:k<n
   ·obtain⟨b1,o1,rfl,hb1,hx1⟩:=hg (by omega)
    obtain⟨y0,y1⟩:=(hx1 k hlt).ext (X2.out.trans hx) hb1
    clear hx1 hne
    have HC:=fun W=>ZbN (gtD p.args k) W (hf.out _ (ZfE (by have:=Hn.out;omega))).2
    unfold TyD.vals at HC
    have HC:=Lh HC
    cases ho:okT (gtD p.args k)
    ·have H2:=Lh (Zaw ho)
     have HE:=Lh (ZeJ (p:=p) (by have:=Hn.out;omega) (by have:=Hn.out;omega) ho)
     clear ho
     go_wp2_with fail
     refine(HC.out _).mono ?_
     rw [H2.out]
     rintro e w3 ⟨rfl,x3⟩
     go_wp2
     go_ret
     rw [HE.out]
     exact⟨rfl,X2.out.trans ((hx.alloc _).trans x3)⟩
    ·have H2:=Lh (Zat ho)
     have HO:=Lh ho
     clear ho
     go_wp2_with fail
     refine(HC.out _).mono ?_
     rw [H2.out]
     rintro e w3 ⟨rfl,x3⟩
     go_wp2
     refine⟨⟨k+1,by omega,by go_num,Lh (fun j hj=>?_),(hx.alloc _).trans x3⟩,by simp [intOf];omega⟩
     by_cases hjk:j<k
     ·exact Ht.out j hjk
     ·obtain rfl:j=k:=by omega
      exact HO.out
   ·obtain rfl:k=n:=by omega
    have y5:=(hx.cell (p:=⟨w.heap.size,0,none⟩) hlt2).trans z5
    have y6:=(hx.cell (p:=⟨w.heap.size,1,none⟩) hlt2).trans z6
    have all:∀ j,j<p.args.length→okT (gtD p.args j)=true:=fun j hj=>Ht.out j (by have:=Hn.out;omega)
    have HAll:=Lh all
    have h16':¬ 16<p.args.length:=by have:=Hn.out;omega
    have H16:=Lh h16'
    clear all h16' z5 z6
    by_cases h0:p.ret=t0D
    ·rw [show eqT p.ret t0D=true by simp [eqT,h0]] at hne
     have HE:=Lh (ZdD H16.out (.inl h0) HAll.out)
     clear h0
     go_wp2
     go_ret
     rw [HE.out]
     exact⟨rfl,X2.out.trans hx⟩
    ·rw [show eqT p.ret t0D=false by simp [eqT,h0]] at hne
     cases ho:okT p.ret
     ·have H2:=Lh (Zaw ho)
      have HE:=Lh (ZgY H16.out h0 ho)
      clear h0 ho
      go_wp2_with fail
      refine(HR.out _).mono ?_
      rw [H2.out]
      rintro e w3 ⟨rfl,x3⟩
      go_wp2
      go_ret
      rw [HE.out]
      exact⟨rfl,X2.out.trans (hx.trans x3)⟩
     ·have H2:=Lh (Zat ho)
      have HE:=Lh (ZdD H16.out (.inr ho) HAll.out)
      clear h0 ho
      go_wp2_with fail
      refine(HR.out _).mono ?_
      rw [H2.out]
      rintro e w3 ⟨rfl,x3⟩
      go_wp2
      go_ret
      rw [HE.out]
      exact⟨rfl,X2.out.trans (hx.trans x3)⟩
def eqLD (l m:List TyD):Bool:=decide (l=m)
theorem ZlM (v1 v2:Value) (l1 l2:List TyD) (w:World) (h1:RowT w v1 l1) (h2:RowT w v2 l2) :
 Calls Tryz.prog 138 #[v1,v2] w fun e w'=>e=.returned (.bool (eqLD l1 l2))∧∃ m,w'=w.drewN m:=by
 obtain⟨A1,c1,rfl,hc1,hm1,ha1,hf1,hg1⟩:=h1
 obtain⟨A2,c2,rfl,hc2,hm2,ha2,hf2,hg2⟩:=h2
 unfold maxLen at hm1 hm2
 by_cases hl:l1.length=l2.length
 ·obtain⟨n,hn⟩:∃ n,n=l1.length:=⟨_,rfl⟩
  rw [← hn] at hc1 hg1 ⊢
  rw [← hl,← hn] at hc2 hg2 ⊢
  have Hn:=Lh hn
  have Hl:=Lh hl
  clear hn hl ha1 ha2 hf1 hf2
  go_enter Tryz.func138,Tryz.ntmps138
  go_wp2
  go_loopw [13] (fun i wr=>∃ k m:Nat,k≤n∧i=.int .i64 k∧wr=w.drewN m∧Hid (l1.take k=l2.take k)) (fun i _=>n-(intOf i).toNat)
  case atStart=>exact⟨0,0,by omega,rfl,rfl,Lh rfl⟩
  case round =>
   obtain⟨k,m,hk,rfl,rfl,Ht⟩:=hrel
   by_cases hlt:k<n
   ·obtain⟨b1,o1,rfl,hb1,hx1⟩:=hg1 (by omega)
    obtain⟨b2,o2,rfl,hb2,hx2⟩:=hg2 (by omega)
    obtain⟨y0,y1⟩:=hx1 k hlt
    obtain⟨u0,u1⟩:=hx2 k hlt
    have hne:=fun W=>Zfw (gtD l1 k) (gtD l2 k) W
    unfold TyD.vals at hne
    clear hx1 hx2
    by_cases he:gtD l1 k=gtD l2 k
    ·rw [show eqT (gtD l1 k) (gtD l2 k)=true by simp [eqT,he]] at hne
     have HE:=Lh he
     clear he
     go_wp2
     go_quiet (fail)
     go_wp2
     refine⟨⟨k+1,m+nq,by omega,by go_num,rfl,Lh ?_⟩,by simp [intOf];omega⟩
     rw [Zcw (by have:=Hn.out;omega),Zcw (by have:=Hn.out;have:=Hl.out;omega),Ht.out,HE.out]
    ·rw [show eqT (gtD l1 k) (gtD l2 k)=false by simp [eqT,he]] at hne
     have HE:=Lh (show eqLD l1 l2=false by simp only [eqLD,decide_eq_false_iff_not];exact fun e=>he (by rw [e]))
     clear he
     go_wp2
     go_quiet (fail)
     go_wp2
     go_ret
     exact⟨ZgQ HE.out.symm,_,World.drewN_drewN _ _ _⟩
   ·obtain rfl:k=n:=by omega
    go_wp2
    go_ret
    refine⟨ZgQ ?_,_,rfl⟩
    have:=Ht.out
    rw [Hn.out] at this
    rw [List.take_length,Hl.out,List.take_length] at this
    exact(decide_eq_true this).symm
 ·have hb:((l1.length:Int) != (l2.length:Int))=true:=by simp;omega
  have HE:=Lh (show eqLD l1 l2=false by simp only [eqLD,decide_eq_false_iff_not];exact fun e=>hl (by rw [e]))
  rw [HE.out]
  clear hg1 hg2 hl ha1 ha2 hf1 hf2
  go_enter Tryz.func138,Tryz.ntmps138
  go_wp2
  go_ret
  exact⟨rfl,0,rfl⟩
theorem Zh9 (v1 v2:Value) (p q:Pr) (w:World) (h1:RowT w v1 p.args) (h2:RowT w v2 q.args) :
 Calls Tryz.prog 81 #[.agg (p.vals v1),.agg (q.vals v2)] w fun e w'=>e=.returned (.bool (eqP p q))∧Ext w w':=by
 have hne:=fun W=>ZnS p.ret q.ret W
 have hq:=fun W (x:Ext w W)=>ZlM v1 v2 p.args q.args W (h1.ext x) (h2.ext x)
 unfold Pr.vals
 unfold TyD.vals at hne
 have HQ:=Lh hq
 obtain⟨A1,c1,rfl,-⟩:=h1
 obtain⟨A2,c2,rfl,-⟩:=h2
 by_cases hr:p.ret=q.ret
 ·rw [show eqT p.ret q.ret=true by simp [eqT,hr]] at hne
  have HE:=Lh (show eqLD p.args q.args=eqP p q by
   by_cases ha:p.args=q.args
   ·rw [ZmH hr ha,eqLD,ha];simp
   ·rw [Zh8 ha,eqLD];simpa using ha)
  clear hr hq
  go_enter Tryz.func81,Tryz.ntmps81
  go_wp2_with fail
  refine(HQ.out _ (by first | exact Zbi _ _ _ | exact(Zbi _ _ _).drewN _)).mono ?_
  rw [HE.out]
  rintro e w3 ⟨rfl,m,rfl⟩
  go_wp2
  go_ret
  exact⟨rfl,by first | exact(Zbi _ _ _).drewN _ | exact((Zbi _ _ _).drewN _).drewN _⟩
 ·rw [show eqT p.ret q.ret=false by simp [eqT,hr]] at hne
  have HE:=Lh (ZoB (p:=p) (q:=q) hr)
  rw [HE.out]
  clear hr hq
  go_enter Tryz.func81,Tryz.ntmps81
  go_wp2
  go_ret
  exact⟨rfl,by first | exact Zbi _ _ _ | exact(Zbi _ _ _).drewN _⟩
end Go.Proofs.YtclamhhgldkhnaaGreatDoor
