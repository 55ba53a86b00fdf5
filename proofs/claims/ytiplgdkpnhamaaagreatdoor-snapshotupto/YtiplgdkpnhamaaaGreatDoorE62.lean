/- choruskeep.Snapshot answers true, and leaves its argument as it was: for all numbers and scripts whose bulk is at most 1048576 (the second form's bound), from every world in which the five listed variables of the library read as their initialisers lay them. -/
import Derived.Test.YtiplgdkpnhamaaaGreatDoorCards
import Derived.Test.YtiplgdkpnhamaaaGreatDoorTie
import Derived.Test.YtiplgdkpnhamaaaGreatDoorE48
import Derived.Test.YtiplgdkpnhamaaaGreatDoorE60
import Derived.Test.YtiplgdkpnhamaaaGreatDoorE49
import Derived.Test.YtiplgdkpnhamaaaGreatDoorE61
import Derived.WalkKit
import Derived.ProofKit
import Derived.OpenShut
import Derived.Carry
import Derived.Deep.DeepHandedRow
import Derived.Deep.DeepWitnessRowRef
import Derived.Lib.LaidIn
namespace Go.Proofs.YtiplgdkpnhamaaaGreatDoor.snapshot
open Go.ChangeShapes Go.WideShapes Go.ChangeAt Go.RowKit
theorem own:ownKnob Tryz.prog.godebug=none:=by kernel_rfl
theorem laidOut:laidOutB Tryz.prog=true:=by kernel_rfl
theorem arr_of {args:Array Value} {l:List Value} (h:args.toList=l):args=l.toArray:=by rw [← h]
set_option maxRecDepth 100000 in
theorem contract (H:Type) (enc:TypeId × Value → H) (W:World) (base:Nat) (args:Array Value) (ds gs:List (DataW H)) (before:List MemPlace)
  (hval:∀ (j:Nat) t v,Tryz.f10.params[j]? = some t → args[j]? = some v → Value.okWide Tryz.prog W .any base t v)
  (hW:DataW.Whole enc Tryz.prog Tryz.f10.params.toList Rows.snapshotSpec.vars false W args.toList ds gs before) (hk:Rows.uptoSmall H (ds ++ gs)=true) (hT:Tabs W) :
  Calls Tryz.prog 10 args W fun e W'=>∃ v,e=.returned v ∧ Rows.snapshotSpec.post enc Tryz.prog Tryz.f10 false true false false W args v W':=by
 have hW':=hW
 obtain ⟨p,q,hA0,hV,rfl,hfz,hnd⟩:=hW
 have hA:DataW.TrodAll enc Tryz.prog W 0 (fun _=>true) true Tryz.f10.params.toList args.toList ds p:=hA0
 rw [Tryz.params10] at hA hval
 obtain ⟨v0,vs0,d0,ds0,p0,q0,hargs,rfl,rfl,h0,r0⟩:=trodAll_cons hA
 obtain ⟨v1,vs1,d1,ds1,p1,q1,rfl,rfl,rfl,h1,r1⟩:=trodAll_cons r0
 obtain ⟨v2,vs2,d2,ds2,p2,q2,rfl,rfl,rfl,h2,r2⟩:=trodAll_cons r1
 obtain ⟨v3,vs3,d3,ds3,p3,q3,rfl,rfl,rfl,h3,r3⟩:=trodAll_cons r2
 obtain ⟨rfl,rfl,rfl⟩:=trodAll_nil r3
 obtain rfl:args=#[v0,v1,v2,v3]:=arr_of hargs
 obtain ⟨rfl,rfl⟩:=trodVars_none hV
 obtain ⟨n,rfl,rfl,rfl,wn⟩:=open_int Tryz.underlying3 (hval 0 3 v0 rfl rfl) h0
 obtain ⟨a0,len,cap,rfl⟩:=okWide_slice Tryz.underlying34 (hval 1 34 v1 rfl rfl)
 obtain ⟨b0,len',cap',rfl⟩:=okWide_slice Tryz.underlying34 (hval 2 34 v2 rfl rfl)
 obtain ⟨am,rfl,rfl,rfl,wam⟩:=open_int Tryz.underlying3 (hval 3 3 v3 rfl rfl) h3
 have h1k:=h1
 have h2k:=h2
 obtain ⟨fuel,hf⟩:=h1
 obtain ⟨fuel2,hf2⟩:=h2
 have hf':DataW.trod enc Tryz.prog W 0 (fun _=>true) true fuel 34 [Value.slice a0 len cap]=some (d1,p1):=hf
 have hf2':DataW.trod enc Tryz.prog W 0 (fun _=>true) true fuel2 34 [Value.slice b0 len' cap']=some (d2,p2):=hf2
 have hb:Rows.uptoBulkAll [DataW.lit (H:=H) (.int .i64 n),d1,d2,DataW.lit (H:=H) (.int .i64 am)] ≤ 1048576:=of_decide_eq_true (by simpa [Rows.uptoSmall] using hk)
 have hb1:Rows.uptoBulk d1 ≤ 1048576:=by
  simp only [Rows.uptoBulkAll] at hb
  omega
 have hb2:Rows.uptoBulk d2 ≤ 1048576:=by
  simp only [Rows.uptoBulkAll] at hb
  omega
 obtain ⟨ops,hs⟩:=Tv.kscript_in hf' hb1
 obtain ⟨ops2,hs2⟩:=Tv.kscript_in hf2' hb2
 clear hA0 hf hf' hf2 hf2' hb hb1 hb2 hk hval
 refine (Tv.snapshot_any hT n (Tv.kwf_i64 wn).1 (Tv.kwf_i64 wn).2 _ ops hs _ ops2 hs2 am (Tv.kwf_i64 wam).1 (Tv.kwf_i64 wam).2).mono fun e W' ⟨he,hB⟩=>?_
 subst he
 have hlt1:∀ x ∈ p1,x.block < W.heap.size:=fun x hx=>by simpa using hW'.lt x (by simp [hx])
 have hlt2:∀ x ∈ p2,x.block < W.heap.size:=fun x hx=>by simpa using hW'.lt x (by simp [hx])
 refine ⟨_,rfl,_,_,_,[],[] ++ (p1 ++ (p2 ++ ([] ++ []))),[],hW',trodAll_cons_mk (shut_bool Tryz.underlying4 _) trodAll_mk0,trodAll_cons_mk (shut_int Tryz.underlying3 wn) (trodAll_cons_mk (Below.trod laidOut (by kernel_rfl) (of_decide_eq_true (by kernel_rfl)) h1k hB hlt1) (trodAll_cons_mk (Below.trod laidOut (by kernel_rfl) (of_decide_eq_true (by kernel_rfl)) h2k hB hlt2) (trodAll_cons_mk (shut_int Tryz.underlying3 wam) trodAll_mk0))),rfl,hB.frame _,fun h=>by cases h⟩
noncomputable def laidWorld (os:Os):World:=
 let N:=(World.settled Tryz.prog os).heap.size
 let w0:=World.holding Tryz.prog os ⟨#[.cells #[.string ⟨#[118,97,108,117,101,32,111,117,116,32,111,102,32,114,97,110,103,101]⟩] 359,.cells #[.string ⟨#[105,110,118,97,108,105,100,32,115,121,110,116,97,120]⟩] 359],#[],[]⟩
 let put (h:Array Obj) (g:Nat) (cs:Array Value):Array Obj:=h.modify g fun
  | .cells _ t frozen=>.cells cs t frozen
  | o=>o
 let ints (k:IntKind) (d:DataW Unit):Array Value:=match d with
  | .agg l=>(l.map fun | .lit (.int _ z)=>Value.int k z | _=>.bool false).toArray
  | _=>#[]
 let h0:=put w0.heap 3 #[.iface 357 (.pointer (some ⟨N,0,none⟩))]
 let h1:=put h0 2 #[.iface 357 (.pointer (some ⟨N + 1,0,none⟩))]
 let h2:=put h1 4 (ints .u8 Rows.laid_math_bits_deBruijn32tab)
 let h3:=put h2 5 (ints .u8 Rows.laid_math_bits_deBruijn64tab)
 let h4:=put h3 0 (ints .u64 Rows.laid_internal_strconv_uint64pow10)
 { w0 with heap:=h4 }
noncomputable abbrev N0:Nat:=(World.settled Tryz.prog default).heap.size
set_option maxRecDepth 1000000 in
theorem laid_in (os:Os):LaidIn Tryz.prog ((laidWorld os).forCall (fun _ _=>0) ⟨#[],#[.int .i64 0,.slice none 0 0,.slice none 0 0,.int .i64 0],[]⟩).memory Rows.snapshotUptoRow.laid [4,5,0,3,N0,2,N0 + 1]:=
 LaidIn.of_run _ 8 (by kernel_rfl) (by kernel_rfl) (by kernel_rfl) (by kernel_rfl)
theorem reads (os:Os) {H:Type} (enc:TypeId × Value → H):∃ places,DataW.whole enc Tryz.prog ((laidWorld os).forCall (fun _ _=>0) ⟨#[],#[.int .i64 0,.slice none 0 0,.slice none 0 0,.int .i64 0],[]⟩).memory Tryz.f10.params.toList Rows.snapshotSpec.vars false #[Value.int .i64 0,.slice none 0 0,.slice none 0 0,.int .i64 0].toList 8=some ([.lit (.int .i64 0),.nil,.nil,.lit (.int .i64 0)],[],places):=
 ⟨[],by kernel_rfl⟩
set_option maxRecDepth 100000 in
theorem lifted (os:Os) (started:os.Started) (H:Type) (enc:TypeId × Value → H) (F:Stop.Interp) :
  ReturnsInHanded {} Tryz.checked os 10 .any ((Rows.OpenSpec.upto Rows.snapshotSpec).preRow enc Tryz.prog Tryz.f10 Rows.snapshotUptoRow.domain false Rows.snapshotUptoRow.laid) (((Rows.OpenSpec.upto Rows.snapshotSpec).at F).post enc Tryz.prog Tryz.f10 false true false false):=by
 obtain ⟨places,hx⟩:=reads os enc
 refine returnsInHanded_of_row (C:=Tryz.checked) (s:=Rows.OpenSpec.upto Rows.snapshotSpec) own started (by kernel_rfl) Tryz.func10
  (witness_row_atRef (enc:=enc) (C:=Tryz.checked) false (laidWorld os) #[.int .i64 0,.slice none 0 0,.slice none 0 0,.int .i64 0] rfl (by kernel_rfl) (by kernel_rfl) (by kernel_rfl)
   (OpenSpec.preRow_of_cond 8 hx (by kernel_rfl) (fun k hk=>by cases hk; kernel_rfl) (by kernel_rfl) (laid_in os).met)) ?_
 intro W base args ds gs before hval hW _ hcond _ hlaid _ _
 exact contract H enc W base args ds gs before hval hW (hcond _ rfl) (tabs_of_laid hlaid)
theorem saidUpto:Rows.SnapshotUptoSaid:=
 OpenClaim.holds_of_cond 10 Tryz.f10 rfl rfl rfl rfl rfl rfl rfl ⟨rfl,rfl,rfl,rfl,rfl⟩ rfl rfl rfl rfl rfl named Tryz.func10 closed
  inst wrap (fun os started H enc _ F=>by rw [OpenClaim.pre_eq_preRow]; exact lifted os started H enc F)
theorem plain (f:FuncId) (fn:Func) (hf:Tryz.pinned.checked.prog.funcNamed Rows.snapshotUptoRow.func=some f) (hfn:Tryz.pinned.checked.prog.funcs[f]? = some fn) :
  true=Tryz.pinned.checked.prog.looks [] ∧ ∀ (j:Nat) t,fn.params[j]? = some t → Tryz.pinned.checked.prog.wantsStandIn t=false:=by
 obtain rfl:f=10:=Option.some.inj ((show Tryz.prog.funcNamed Rows.snapshotUptoRow.func=some 10 by kernel_rfl).symm.trans hf) |>.symm
 obtain rfl:fn=Tryz.f10:=(Option.some.inj (Tryz.func10.symm.trans hfn)).symm
 refine ⟨by kernel_rfl,fun j t ht=>?_⟩
 rw [Tryz.params10] at ht
 have:t=3 ∨ t=34 ∨ t=3:=by simpa using Array.mem_of_getElem? ht
 rcases this with rfl | rfl | rfl
 ·exact (show Tryz.prog.wantsStandIn 3=false by kernel_rfl)
 ·exact (show Tryz.prog.wantsStandIn 34=false by kernel_rfl)
 ·exact (show Tryz.prog.wantsStandIn 3=false by kernel_rfl)
theorem cardUpto:Rows.SnapshotUptoCardSaid:=
 Claim7.holds_tied_plain_at .later [] _ _ _ _ saidUpto (fun _ h=>by cases h) (by kernel_rfl) (fun _ h=>by cases h) snapshotUpto_row_tie rfl ⟨rfl,rfl⟩ (by kernel_rfl) rfl plain (by kernel_rfl)
end Go.Proofs.YtiplgdkpnhamaaaGreatDoor.snapshot
namespace Go.Proofs.YtiplgdkpnhamaaaGreatDoor
theorem snapshot_upto_card:Rows.SnapshotUptoCardSaid:=snapshot.cardUpto
end Go.Proofs.YtiplgdkpnhamaaaGreatDoor
