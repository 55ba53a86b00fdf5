/- choruslaw.All answers true, and leaves its argument as it was: for every n, m and every script whose bulk is at most 1048576 (the second form's bound), from every world in which the five listed variables of the library read as their initialisers lay them. -/
import Derived.Test.YtiplgdkpnhamaaaGreatDoorT46
import Derived.Test.YtiplgdkpnhamaaaGreatDoorT52
import Derived.Test.YtiplgdkpnhamaaaGreatDoorT39
import Derived.Test.YtiplgdkpnhamaaaGreatDoorCards
import Derived.Test.YtiplgdkpnhamaaaGreatDoorTie
import Derived.WalkKit
import Derived.ProofKit
import Derived.OpenShut
import Derived.Carry
import Derived.Deep.DeepHandedRow
import Derived.Deep.DeepWitnessRowRef
import Derived.Lib.LaidIn
set_option maxRecDepth 1000000
namespace Go.Proofs.YtiplgdkpnhamaaaGreatDoor.all
open Go.Proofs.Tryz List
open Go.ChangeShapes Go.WideShapes Go.ChangeAt Go.RowKit
theorem own:ownKnob prog.godebug=none:=by kernel_rfl
theorem laidOut:laidOutB prog=true:=by kernel_rfl
theorem Im {args:Array Value}{l:List Value}(h:args.toList=l):args=l.toArray:=by rw[<-h]
theorem IB (H:Type)(enc:TypeId×Value->H)(W:World)(base:Nat)(args:Array Value)(a7 gs:List (DataW H))(before:List MemPlace)
  (me:∀(j:Nat) t v,f6.params[j]?=some t->args[j]?=some v->Value.okWide prog W .any base t v)
  (bY:DataW.Whole enc prog f6.params.toList Rows.allSpec.vars false W args.toList a7 gs before)(hk:Rows.uptoSmall H (a7++gs)=true)(aD:fI W):
  Calls prog 6 args W fun e dP=>∃v,e= .returned v∧Rows.allSpec.post enc prog f6 false true false false W args v dP:=by
 have vb:=bY;obtain⟨p,q,B2,ta,rfl,Ci,ho⟩:=bY;have eK:DataW.TrodAll enc prog W 0 (fun _=>true) true f6.params.toList args.toList a7 p:=B2;rw[params6]at eK me;obtain⟨v0,adp,d0,Wz,qk,eY,Ji,rfl,rfl,aS,eE⟩:=trodAll_cons eK;obtain⟨ado,at3,pw,arD,pm,atN,rfl,rfl,rfl,hm,aow⟩:=trodAll_cons eE;obtain⟨v1,adq,d1,WA,dk,q1,rfl,rfl,rfl,h1,cB⟩:=trodAll_cons aow;obtain⟨rfl,rfl,rfl⟩:=trodAll_nil cB;obtain rfl:args= #[v0,ado,v1]:=Im Ji;obtain⟨rfl,rfl⟩:=trodVars_none ta;obtain⟨n,rfl,rfl,rfl,wn⟩:=open_int underlying3 (me 0 3 v0 rfl rfl) aS;obtain⟨m,rfl,rfl,rfl,zE⟩:=open_int underlying3 (me 1 3 ado rfl rfl) hm;obtain⟨a0,len,cap,rfl⟩:=okWide_slice underlying22 (me 2 22 v1 rfl rfl);have IY:=h1;obtain⟨fuel,bm⟩:=h1;have Cg:DataW.trod enc prog W 0 (fun _=>true) true fuel 22 [Value.slice a0 len cap]=some (d1,dk):=bm;have hb:Rows.uptoBulkAll [DataW.lit (H:=H) (.int .i64 n),DataW.lit (.int .i64 m),d1]<=1048576:=of_decide_eq_true (by simpa[Rows.uptoSmall]using hk);have eA:Rows.uptoBulk d1<=1048576:=by
  simp only[Rows.uptoBulkAll]at hb;omega
 obtain⟨ops,hs,hj⟩:=Tv.SF Cg eA;clear B2 bm Cg hb eA hk me;simp only[append_nil,nil_append]at vb Ci ho;refine(Tv.all_true W aD n m _ ops hs hj).mono fun e dP ⟨he,ao⟩=>?_
 subst he;have br:∀x∈dk,x.block<W.heap.size:=fun x au=>by simpa using vb.lt x (by simpa using au)
 refine⟨_,rfl,_,_,_,[],[]++([]++dk),[],vb,trodAll_cons_mk (shut_bool underlying4 _) trodAll_mk0,trodAll_mk3 (shut_int underlying3 wn) (shut_int underlying3 zE) (Below.trod laidOut (by kernel_rfl) (of_decide_eq_true (by kernel_rfl)) IY ao br),rfl,ao.frame _,fun h=>by cases h⟩
noncomputable def x4 (os:Os):World:=
 let N:=(World.settled prog os).heap.size
 let cr:=World.holding prog os ⟨#[.cells #[ai ⟨#[118,97,108,117,101,32,111,117,116,32,111,102,32,114,97,110,103,101]⟩] 359,.cells #[ai ⟨#[105,110,118,97,108,105,100,32,115,121,110,116,97,120]⟩] 359],#[],[]⟩
 let put (h:Array Obj) (g:Nat) (cs:Array Value):Array Obj:=h.modify g fun
  | .cells _ t frozen=> .cells cs t frozen
  |o=>o
 let ints (k:IntKind) (d:DataW Unit):Array Value:=match d with
  | .agg l=>(l.map fun| .lit (.int _ z)=>Value.int k z|_=> .bool false).toArray
  |_=> #[]
 let aS:=put cr.heap 3 #[.iface 357 (.pointer (some (aa N 0)))]
 let h1:=put aS 2 #[.iface 357 (.pointer (some (aa (N+1) 0)))]
 let ae:=put h1 4 (ints .u8 Rows.laid_math_bits_deBruijn32tab)
 let aH:=put ae 5 (ints .u8 Rows.laid_math_bits_deBruijn64tab)
 let bd:=put aH 0 (ints .u64 Rows.laid_internal_strconv_uint64pow10)
 {cr with heap:=bd}
noncomputable abbrev BK:Nat:=(World.settled prog default).heap.size
theorem Kc (os:Os):LaidIn prog ((x4 os).forCall (fun _ _=>0) ⟨#[],#[.int .i64 0,.int .i64 0,.slice none 0 0],[]⟩).memory Rows.allUptoRow.laid [4,5,0,3,BK,2,BK+1]:=
 LaidIn.of_run _ 8 (by kernel_rfl) (by kernel_rfl) (by kernel_rfl) (by kernel_rfl)
theorem reads (os:Os){H:Type}(enc:TypeId×Value->H):∃places,DataW.whole enc prog ((x4 os).forCall (fun _ _=>0) ⟨#[],#[.int .i64 0,.int .i64 0,.slice none 0 0],[]⟩).memory f6.params.toList Rows.allSpec.vars false #[Value.int .i64 0,.int .i64 0,.slice none 0 0].toList 8=some ([.lit (.int .i64 0),.lit (.int .i64 0),.nil],[],places):=
 ⟨[],by kernel_rfl⟩
theorem lifted (os:Os)(started:os.Started)(H:Type)(enc:TypeId×Value->H)(F:Stop.Interp):
  ReturnsInHanded {} Tryz.checked os 6 .any ((Rows.OpenSpec.upto Rows.allSpec).preRow enc prog f6 Rows.allUptoRow.domain false Rows.allUptoRow.laid) (((Rows.OpenSpec.upto Rows.allSpec).at F).post enc prog f6 false true false false):=by
 obtain⟨places,au⟩:=reads os enc;refine returnsInHanded_of_row (C:=Tryz.checked) (s:=Rows.OpenSpec.upto Rows.allSpec) own started (by kernel_rfl) func6
  (witness_row_atRef (enc:=enc) (C:=Tryz.checked) false (x4 os) #[I 0,I 0,.slice none 0 0] rfl (by kernel_rfl) (by kernel_rfl) (by kernel_rfl)
   (OpenSpec.preRow_of_cond 8 au (by kernel_rfl) (fun k hk=>by cases hk;kernel_rfl) (by kernel_rfl) (Kc os).met)) ?_
 intro W base args a7 gs before me bY _ Jn _ Jx _ _;exact IB H enc W base args a7 gs before me bY (Jn _ rfl) (TV Jx)
theorem KH:Rows.AllUptoSaid:=
 OpenClaim.holds_of_cond 6 f6 rfl rfl rfl rfl rfl rfl rfl ⟨rfl,rfl,rfl,rfl,rfl⟩ rfl rfl rfl rfl rfl named func6 closed
  inst wrap (fun os started H enc _ F=>by rw[OpenClaim.pre_eq_preRow];exact lifted os started H enc F)
theorem plain (f:FuncId)(fn:Func)(bm:Tryz.pinned.checked.prog.funcNamed Rows.allUptoRow.func=some f)(Ej:Tryz.pinned.checked.prog.funcs[f]?=some fn):
  true=Tryz.pinned.checked.prog.looks []∧∀(j:Nat) t,fn.params[j]?=some t->Tryz.pinned.checked.prog.wantsStandIn t=false:=by
 obtain rfl:f=6:=kt ((show prog.funcNamed Rows.allUptoRow.func=some 6 by kernel_rfl).symm.trans bm)|>.symm
 obtain rfl:fn=f6:=(kt (func6.symm.trans Ej)).symm;refine⟨by kernel_rfl,fun j t al=>?_⟩;rw[params6]at al;have:t=3∨t=22:=by simpa using Array.mem_of_getElem? al
 rcases this with rfl|rfl
 ·exact(show prog.wantsStandIn 3=false by kernel_rfl)
 ·exact(show prog.wantsStandIn 22=false by kernel_rfl)
theorem Iy:Rows.AllUptoCardSaid:=
 Claim7.holds_tied_plain_at .later [] _ _ _ _ KH (fun _ h=>by cases h) (by kernel_rfl) (fun _ h=>by cases h) allUpto_row_tie rfl ⟨rfl,rfl⟩ (by kernel_rfl) rfl plain (by kernel_rfl)
end Go.Proofs.YtiplgdkpnhamaaaGreatDoor.all
namespace Go.Proofs.YtiplgdkpnhamaaaGreatDoor
open Go.Proofs.Tryz List
theorem all_upto_card:Rows.AllUptoCardSaid:=all.Iy
end Go.Proofs.YtiplgdkpnhamaaaGreatDoor
