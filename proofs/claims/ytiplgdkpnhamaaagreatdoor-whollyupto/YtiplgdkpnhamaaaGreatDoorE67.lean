/- choruskeep.Wholly answers true, and leaves its argument as it was: for every n and every script whose bulk is at most 1048576 (the second form's bound), from every world in which the five listed variables of the library read as their initialisers lay them. -/
import Derived.Test.YtiplgdkpnhamaaaGreatDoorCards
import Derived.Test.YtiplgdkpnhamaaaGreatDoorTie
import Derived.Test.YtiplgdkpnhamaaaGreatDoorE70
import Derived.Test.YtiplgdkpnhamaaaGreatDoorE65
import Derived.Test.YtiplgdkpnhamaaaGreatDoorE49
import Derived.Test.YtiplgdkpnhamaaaGreatDoorE66
import Derived.WalkKit
import Derived.ProofKit
import Derived.OpenShut
import Derived.Carry
import Derived.Deep.DeepHandedRow
import Derived.Deep.DeepWitnessRowRef
import Derived.Lib.LaidIn
namespace Go.Proofs.YtiplgdkpnhamaaaGreatDoor.wholly
open Go.ChangeShapes Go.WideShapes Go.ChangeAt Go.RowKit
theorem own:ownKnob Tryz.prog.godebug=none:=by kernel_rfl
theorem laidOut:laidOutB Tryz.prog=true:=by kernel_rfl
theorem arr_of {args:Array Value} {l:List Value} (h:args.toList=l):args=l.toArray:=by rw [← h]
set_option maxRecDepth 100000 in
theorem contract (H:Type) (enc:TypeId × Value→H) (W:World) (base:Nat) (args:Array Value) (ds gs:List (DataW H)) (before:List MemPlace)
  (hval:∀ (j:Nat) t v,Tryz.f8.params[j]? = some t→args[j]? = some v→Value.okWide Tryz.prog W .any base t v)
  (hW:DataW.Whole enc Tryz.prog Tryz.f8.params.toList Rows.whollySpec.vars false W args.toList ds gs before) (hk:Rows.uptoSmall H (ds++gs)=true) (hT:Tabs W) :
  Calls Tryz.prog 8 args W fun e W'=>∃ v,e=.returned v∧Rows.whollySpec.post enc Tryz.prog Tryz.f8 false true false false W args v W':=by
 have hW':=hW
 obtain ⟨p,q,hA0,hV,rfl,hfz,hnd⟩:=hW
 have hA:DataW.TrodAll enc Tryz.prog W 0 (fun _=>true) true Tryz.f8.params.toList args.toList ds p:=hA0
 rw [Tryz.params8] at hA hval
 obtain ⟨v0,vs0,d0,ds0,p0,q0,hargs,rfl,rfl,h0,r0⟩:=trodAll_cons hA
 obtain ⟨v1,vs1,d1,ds1,p1,q1,rfl,rfl,rfl,h1,r1⟩:=trodAll_cons r0
 obtain ⟨rfl,rfl,rfl⟩:=trodAll_nil r1
 obtain rfl:args=#[v0,v1]:=arr_of hargs
 obtain ⟨rfl,rfl⟩:=trodVars_none hV
 obtain ⟨n,rfl,rfl,rfl,wn⟩:=open_int Tryz.underlying3 (hval 0 3 v0 rfl rfl) h0
 obtain ⟨a0,len,cap,rfl⟩:=okWide_slice Tryz.underlying34 (hval 1 34 v1 rfl rfl)
 have h1k:=h1
 obtain ⟨fuel,hf⟩:=h1
 have hf':DataW.trod enc Tryz.prog W 0 (fun _=>true) true fuel 34 [Value.slice a0 len cap]=some (d1,p1):=hf
 have hb:Rows.uptoBulkAll [DataW.lit (H:=H) (.int .i64 n),d1]≤1048576:=of_decide_eq_true (by simpa [Rows.uptoSmall] using hk)
 have hb1:Rows.uptoBulk d1≤1048576:=by
  simp only [Rows.uptoBulkAll] at hb
  omega
 obtain ⟨ops,hs⟩:=Tv.kscript_in hf' hb1
 clear hA0 hf hf' hb hb1 hk hval
 simp only [List.append_nil,List.nil_append] at hW' hfz hnd
 refine (Tv.wholly_any hT n (Tv.kwf_i64 wn).1 (Tv.kwf_i64 wn).2 _ ops hs).mono fun e W' ⟨he,hB⟩=>?_
 subst he
 have hlt:∀ x ∈ p1,x.block < W.heap.size:=fun x hx=>by simpa using hW'.lt x (by simpa using hx)
 refine ⟨_,rfl,_,_,_,[],[]++p1,[],hW',trodAll_cons_mk (shut_bool Tryz.underlying4 _) trodAll_mk0,trodAll_mk2 (shut_int Tryz.underlying3 wn) (Below.trod laidOut (by kernel_rfl) (of_decide_eq_true (by kernel_rfl)) h1k hB hlt),rfl,hB.frame _,fun h=>by cases h⟩
/-- A WORLD FOR THE WITNESS: the settled one, two blocks more (the two errors' structs), the five variables holding what their initialisers lay. -/
noncomputable def laidWorld (os:Os):World:=
 let N:=(World.settled Tryz.prog os).heap.size
 let w0:=World.holding Tryz.prog os ⟨#[.cells #[.string ⟨#[118,97,108,117,101,32,111,117,116,32,111,102,32,114,97,110,103,101]⟩] 359,.cells #[.string ⟨#[105,110,118,97,108,105,100,32,115,121,110,116,97,120]⟩] 359],#[],[]⟩
 let put (h:Array Obj) (g:Nat) (cs:Array Value):Array Obj:=h.modify g fun
  | .cells _ t frozen=>.cells cs t frozen
  | o=>o
 let ints (k:IntKind) (d:DataW Unit):Array Value:=match d with
  | .agg l=>(l.map fun | .lit (.int _ z)=>Value.int k z | _=>.bool false).toArray
  | _=>#[]
 let h0:=put w0.heap 3 #[.iface 357 (.pointer (some ⟨N,0,none⟩))]
 let h1:=put h0 2 #[.iface 357 (.pointer (some ⟨N+1,0,none⟩))]
 let h2:=put h1 4 (ints .u8 Rows.laid_math_bits_deBruijn32tab)
 let h3:=put h2 5 (ints .u8 Rows.laid_math_bits_deBruijn64tab)
 let h4:=put h3 0 (ints .u64 Rows.laid_internal_strconv_uint64pow10)
 { w0 with heap:=h4 }
noncomputable abbrev N0:Nat:=(World.settled Tryz.prog default).heap.size
set_option maxRecDepth 1000000 in
theorem laid_in (os:Os):LaidIn Tryz.prog ((laidWorld os).forCall (fun _ _=>0) ⟨#[],#[.int .i64 0,.slice none 0 0],[]⟩).memory Rows.whollyUptoRow.laid [4,5,0,3,N0,2,N0+1]:=
 LaidIn.of_run _ 8 (by kernel_rfl) (by kernel_rfl) (by kernel_rfl) (by kernel_rfl)
theorem reads (os:Os) {H:Type} (enc:TypeId × Value→H):∃ places,DataW.whole enc Tryz.prog ((laidWorld os).forCall (fun _ _=>0) ⟨#[],#[.int .i64 0,.slice none 0 0],[]⟩).memory Tryz.f8.params.toList Rows.whollySpec.vars false #[Value.int .i64 0,.slice none 0 0].toList 8=some ([.lit (.int .i64 0),.nil],[],places):=
 ⟨[],by kernel_rfl⟩
set_option maxRecDepth 100000 in
theorem lifted (os:Os) (started:os.Started) (H:Type) (enc:TypeId × Value→H) (F:Stop.Interp) :
  ReturnsInHanded {} Tryz.checked os 8 .any ((Rows.OpenSpec.upto Rows.whollySpec).preRow enc Tryz.prog Tryz.f8 Rows.whollyUptoRow.domain false Rows.whollyUptoRow.laid) (((Rows.OpenSpec.upto Rows.whollySpec).at F).post enc Tryz.prog Tryz.f8 false true false false):=by
 obtain ⟨places,hx⟩:=reads os enc
 refine returnsInHanded_of_row (C:=Tryz.checked) (s:=Rows.OpenSpec.upto Rows.whollySpec) own started (by kernel_rfl) Tryz.func8
  (witness_row_atRef (enc:=enc) (C:=Tryz.checked) false (laidWorld os) #[.int .i64 0,.slice none 0 0] rfl (by kernel_rfl) (by kernel_rfl) (by kernel_rfl)
   (OpenSpec.preRow_of_cond 8 hx (by kernel_rfl) (fun k hk=>by cases hk;kernel_rfl) (by kernel_rfl) (laid_in os).met)) ?_
 intro W base args ds gs before hval hW _ hcond _ hlaid _ _
 exact contract H enc W base args ds gs before hval hW (hcond _ rfl) (tabs_of_laid hlaid)
theorem saidUpto:Rows.WhollyUptoSaid:=
 OpenClaim.holds_of_cond 8 Tryz.f8 rfl rfl rfl rfl rfl rfl rfl ⟨rfl,rfl,rfl,rfl,rfl⟩ rfl rfl rfl rfl rfl named Tryz.func8 closed
  inst wrap (fun os started H enc _ F=>by rw [OpenClaim.pre_eq_preRow];exact lifted os started H enc F)
/-- No parameter wants a stand-in. -/
theorem plain (f:FuncId) (fn:Func) (hf:Tryz.pinned.checked.prog.funcNamed Rows.whollyUptoRow.func=some f) (hfn:Tryz.pinned.checked.prog.funcs[f]? = some fn) :
  true=Tryz.pinned.checked.prog.looks []∧∀ (j:Nat) t,fn.params[j]? = some t→Tryz.pinned.checked.prog.wantsStandIn t=false:=by
 obtain rfl:f=8:=Option.some.inj ((show Tryz.prog.funcNamed Rows.whollyUptoRow.func=some 8 by kernel_rfl).symm.trans hf) |>.symm
 obtain rfl:fn=Tryz.f8:=(Option.some.inj (Tryz.func8.symm.trans hfn)).symm
 refine ⟨by kernel_rfl,fun j t ht=>?_⟩
 rw [Tryz.params8] at ht
 have:t=3∨t=34:=by simpa using Array.mem_of_getElem? ht
 rcases this with rfl | rfl
 ·exact (show Tryz.prog.wantsStandIn 3=false by kernel_rfl)
 ·exact (show Tryz.prog.wantsStandIn 34=false by kernel_rfl)
/-- THE SECOND FORM's CARD. -/
theorem cardUpto:Rows.WhollyUptoCardSaid:=
 Claim7.holds_tied_plain_at .later [] _ _ _ _ saidUpto (fun _ h=>by cases h) (by kernel_rfl) (fun _ h=>by cases h) whollyUpto_row_tie rfl ⟨rfl,rfl⟩ (by kernel_rfl) rfl plain (by kernel_rfl)
end Go.Proofs.YtiplgdkpnhamaaaGreatDoor.wholly
namespace Go.Proofs.YtiplgdkpnhamaaaGreatDoor
/-- choruskeep.Wholly: the second form's card. -/
theorem wholly_upto_card:Rows.WhollyUptoCardSaid:=wholly.cardUpto
end Go.Proofs.YtiplgdkpnhamaaaGreatDoor
