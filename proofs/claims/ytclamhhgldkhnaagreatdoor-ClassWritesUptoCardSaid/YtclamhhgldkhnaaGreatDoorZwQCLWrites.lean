/- ClassWrites: Check, Zen and Same answer as the chapter says, of any two classes; what is handed in stays; the row's three tables (utf8's two, and how many of each thing a class may have) are as the texts lay them. Narrowed: arguments of at most 1048576 values and letters. -/
import Derived.Test.YtclamhhgldkhnaaGreatDoorZwAC
import Derived.Test.YtclamhhgldkhnaaGreatDoorZwAL
import Derived.Test.YtclamhhgldkhnaaGreatDoorZwQCLWritesW
import Derived.Test.YtclamhhgldkhnaaGreatDoorCLWritesJ
namespace Go.Proofs.YtclamhhgldkhnaaGreatDoor
open Go.ChangeShapes Go.WideShapes Go.ChangeAt Go.RowKit
open Go.ChangeMaps (open_string shut_string)
set_option linter.unusedVariables false
set_option maxHeartbeats 16000000
theorem classWrites_fits (os:Os) {H:Type} (enc:TypeId × Value→H) :
 (Rows.OpenSpec.upto Rows.classWritesSpec).preRow enc Tryz.prog Tryz.f3 Rows.classWritesUptoRow.domain false Rows.classWritesUptoRow.laid ((Zes os).forCall (fun _ _=>0) ⟨#[],#[.agg #[.slice none 0 0,.string ⟨#[]⟩,.string ⟨#[]⟩,.bool false,.slice none 0 0,.slice none 0 0,.slice none 0 0],.agg #[.slice none 0 0,.string ⟨#[]⟩,.string ⟨#[]⟩,.bool false,.slice none 0 0,.slice none 0 0,.slice none 0 0]],[]⟩).memory #[.agg #[.slice none 0 0,.string ⟨#[]⟩,.string ⟨#[]⟩,.bool false,.slice none 0 0,.slice none 0 0,.slice none 0 0],.agg #[.slice none 0 0,.string ⟨#[]⟩,.string ⟨#[]⟩,.bool false,.slice none 0 0,.slice none 0 0,.slice none 0 0]]:=by
 have hw:(DataW.whole enc Tryz.prog ((Zes os).forCall (fun _ _=>0) ⟨#[],#[.agg #[.slice none 0 0,.string ⟨#[]⟩,.string ⟨#[]⟩,.bool false,.slice none 0 0,.slice none 0 0,.slice none 0 0],.agg #[.slice none 0 0,.string ⟨#[]⟩,.string ⟨#[]⟩,.bool false,.slice none 0 0,.slice none 0 0,.slice none 0 0]],[]⟩).memory Tryz.f3.params.toList Rows.classWritesSpec.vars false (#[.agg #[.slice none 0 0,.string ⟨#[]⟩,.string ⟨#[]⟩,.bool false,.slice none 0 0,.slice none 0 0,.slice none 0 0],.agg #[.slice none 0 0,.string ⟨#[]⟩,.string ⟨#[]⟩,.bool false,.slice none 0 0,.slice none 0 0,.slice none 0 0]]:Array Value).toList 8).map (fun x=>(x.1,x.2.1))=some ([.agg [.nil,.lit (.string []),.lit (.string []),.lit (.bool false),.nil,.nil,.nil],.agg [.nil,.lit (.string []),.lit (.string []),.lit (.bool false),.nil,.nil,.nil]],[]):=by kernel_rfl
 obtain⟨⟨x1,x2,x3⟩,hx,hx1⟩:=Option.map_eq_some_iff.1 hw
 simp only [Prod.mk.injEq] at hx1
 obtain⟨rfl,rfl⟩:=hx1
 exact OpenSpec.preRow_of_cond 8 hx (by kernel_rfl) (fun k hk=>by cases hk;kernel_rfl) (by kernel_rfl) (Zqh os _)
set_option maxRecDepth 100000 in
theorem classWrites_lifted (os:Os) (started:os.Started) (H:Type) (enc:TypeId × Value→H) (F:Stop.Interp) :
 ReturnsInHanded {} Tryz.checked os 3 .any ((Rows.OpenSpec.upto Rows.classWritesSpec).preRow enc Tryz.prog Tryz.f3 Rows.classWritesUptoRow.domain false Rows.classWritesUptoRow.laid) (((Rows.OpenSpec.upto Rows.classWritesSpec).at F).post enc Tryz.prog Tryz.f3 false true false false):=by
 refine returnsInHanded_of_row (C:=Tryz.checked) (s:=(Rows.OpenSpec.upto Rows.classWritesSpec)) own started (by kernel_rfl) Tryz.func3
  (witness_row_atRef (enc:=enc) (C:=Tryz.checked) false (Zes os) #[.agg #[.slice none 0 0,.string ⟨#[]⟩,.string ⟨#[]⟩,.bool false,.slice none 0 0,.slice none 0 0,.slice none 0 0],.agg #[.slice none 0 0,.string ⟨#[]⟩,.string ⟨#[]⟩,.bool false,.slice none 0 0,.slice none 0 0,.slice none 0 0]] rfl (by kernel_rfl) (by kernel_rfl) (by kernel_rfl) (classWrites_fits os enc)) ?_
 intro W base args ds gs before hval0 hW _ hcond hsz0 hL _ _
 obtain⟨hT,hM⟩:Tabs W∧Most W:=Zsb hL
 have hval:∀ (j:Nat) t v,Tryz.f3.params[j]?=some t→args[j]?=some v→Value.okWide Tryz.prog W .any base t v:=hval0
 have hsz:(DataW.weightsEach Tryz.prog (Tryz.f3.params.toList++Rows.classWritesSpec.plain.varTypes Tryz.prog) (ds++gs)).all (·≤reachBytes)=true:=hsz0
 have hW':=hW
 obtain⟨p,q,hA0,hV,rfl,hfz,hnd⟩:=hW
 have hA:DataW.TrodAll enc Tryz.prog W 0 (fun _=>true) true Tryz.f3.params.toList args.toList ds p:=hA0
 rw [Tryz.params3] at hA hval hsz
 obtain⟨v0,vs0,d0,ds0,p0,q0,hargs,rfl,rfl,h0,r0⟩:=trodAll_cons hA
 obtain⟨v1,vs1,d1,ds1,p1,q1,rfl,rfl,rfl,h1,r1⟩:=trodAll_cons r0
 obtain⟨rfl,rfl,rfl⟩:=trodAll_nil r1
 obtain rfl:args=#[v0,v1]:=by cases args;simp_all
 obtain⟨rfl,rfl⟩:=trodVars_none hV
 have hbk:Rows.uptoBulkAll ([d0,d1]:List (DataW H))≤1048576:=ZlV (hcond _ rfl)
 obtain⟨cs0,rfl,-⟩:=okWide_struct Tryz.underlying27 (hval 0 27 v0 rfl rfl)
 have k0:=h0
 have lt0:∀ x∈p0,x.block<W.heap.size:=by obtain⟨m,hm⟩:=k0;exact DataW.trod_lt m _ _ _ hm
 obtain⟨c0,vp0,vi0,vf0,vm0,e0,w0,z0,s0,t0⟩:∃ (c:Cl) (vp vi vf vm:Value),cs0=c.vals vp vi vf vm∧ClAt W c vp vi vf vm∧ClRoom c∧ClSize c∧tot c.pool≤Rows.uptoBulk d0:=by
  obtain⟨fuel,hf⟩:=h0
  obtain⟨c,vp,vi,vf,vm,hcs,h1,h2,h3,h4⟩:=ZfJ _ _ _ hf (ZkJ hsz (j:=0) rfl rfl)
  have hcs:cs0.toList=(c.vals vp vi vf vm).toList:=by simpa [Value.cells] using hcs
  exact⟨c,vp,vi,vf,vm,Array.toList_inj.1 hcs,h1,h2,h3,h4⟩
 subst e0
 have y0:tot c0.pool≤1048576:=Nat.le_trans t0 (Nat.le_trans (ZiZ (show d0∈([d0,d1]:List (DataW H)) by simp)) hbk)
 obtain⟨cs1,rfl,-⟩:=okWide_struct Tryz.underlying27 (hval 1 27 v1 rfl rfl)
 have k1:=h1
 have lt1:∀ x∈p1,x.block<W.heap.size:=by obtain⟨m,hm⟩:=k1;exact DataW.trod_lt m _ _ _ hm
 obtain⟨c1,vp1,vi1,vf1,vm1,e1,w1,z1,s1,t1⟩:∃ (c:Cl) (vp vi vf vm:Value),cs1=c.vals vp vi vf vm∧ClAt W c vp vi vf vm∧ClRoom c∧ClSize c∧tot c.pool≤Rows.uptoBulk d1:=by
  obtain⟨fuel,hf⟩:=h1
  obtain⟨c,vp,vi,vf,vm,hcs,h1,h2,h3,h4⟩:=ZfJ _ _ _ hf (ZkJ hsz (j:=1) rfl rfl)
  have hcs:cs1.toList=(c.vals vp vi vf vm).toList:=by simpa [Value.cells] using hcs
  exact⟨c,vp,vi,vf,vm,Array.toList_inj.1 hcs,h1,h2,h3,h4⟩
 subst e1
 have y1:tot c1.pool≤1048576:=Nat.le_trans t1 (Nat.le_trans (ZiZ (show d1∈([d0,d1]:List (DataW H)) by simp)) hbk)
 clear hA0 hval0 hsz0 hcond
 refine(Zfj W hT hM c0 vp0 vi0 vf0 vm0 w0 z0 s0 y0 c1 vp1 vi1 vf1 vm1 w1 z1 s1 y1).mono fun e W' ⟨he,bel⟩=>?_
 subst he
 exact⟨_,rfl,_,_,_,[],_,[],hW',trodAll_mk1 (shut_bool Tryz.underlying4 _),(trodAll_cons_mk (Below.trod Zog (by kernel_rfl) (of_decide_eq_true (by kernel_rfl)) k0 bel lt0) (trodAll_cons_mk (Below.trod Zog (by kernel_rfl) (of_decide_eq_true (by kernel_rfl)) k1 bel lt1) trodAll_mk0)),rfl,bel.frame _,fun h=>by cases h⟩
theorem classWrites_over:Rows.ClassWritesUptoSaid :=
 OpenClaim.holds_of_cond 3 Tryz.f3 rfl rfl rfl rfl rfl rfl rfl ⟨rfl,rfl,rfl,rfl,rfl⟩ rfl rfl rfl rfl rfl (by kernel_rfl) Tryz.func3 classWrites_joined
  (of_decide_eq_true (by kernel_rfl)) (by unfold Func.isWrapper;first | (rw [if_pos (by decide +kernel)];kernel_rfl) | (rw [if_neg (by decide +kernel)];exact⟨rfl,rfl⟩))
  (fun os started H enc _ F=>by rw [OpenClaim.pre_eq_preRow];exact classWrites_lifted os started H enc F)
theorem classWrites_plain (f : FuncId) (fn : Func) (hf : Tryz.pinned.checked.prog.funcNamed "warpbeam/warpbeamlaw08.ClassWrites" = some f) (hfn : Tryz.pinned.checked.prog.funcs[f]? = some fn) :
 false=Tryz.pinned.checked.prog.looks []∧∀ (j:Nat) t,fn.params[j]?=some t→Tryz.pinned.checked.prog.wantsStandIn t=false:=by
 obtain rfl : f = 3 := Option.some.inj ((show Tryz.prog.funcNamed "warpbeam/warpbeamlaw08.ClassWrites" = some 3 by kernel_rfl).symm.trans hf) |>.symm
 obtain rfl:fn=Tryz.f3:=(Option.some.inj (Tryz.func3.symm.trans hfn)).symm
 refine⟨by kernel_rfl,fun j t ht=>?_⟩
 rw [Tryz.params3] at ht
 have hm:=Array.mem_of_getElem? ht
 simp only [List.mem_toArray,List.mem_cons,List.not_mem_nil,or_false,or_self] at hm
 subst hm
 exact(show Tryz.prog.wantsStandIn 27=false by kernel_rfl)
theorem classWrites_proved:Rows.ClassWritesUptoCardSaid :=
 Claim7.holds_tied_plain_at .later [] _ _ _ _ classWrites_over (fun _ h=>by cases h) (by kernel_rfl) (fun _ h=>by cases h) classWritesUpto_row_tie rfl ⟨rfl,rfl⟩ (by kernel_rfl) rfl classWrites_plain (by kernel_rfl)
#print axioms classWrites_proved
end Go.Proofs.YtclamhhgldkhnaaGreatDoor
