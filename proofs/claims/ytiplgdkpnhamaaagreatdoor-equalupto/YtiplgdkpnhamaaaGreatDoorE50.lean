/- The texts QE6, joined. -/
import Derived.Test.YtiplgdkpnhamaaaGreatDoorE48
import Derived.Test.YtiplgdkpnhamaaaGreatDoorE49
import Derived.Test.YtiplgdkpnhamaaaGreatDoorE46
import Derived.Test.YtiplgdkpnhamaaaGreatDoorCards
import Derived.Test.YtiplgdkpnhamaaaGreatDoorTie
import Derived.WalkKit
import Derived.ProofKit
import Derived.OpenShut
import Derived.Carry
import Derived.Deep.DeepHandedRow
import Derived.Deep.DeepWitnessRowRef
import Derived.Lib.LaidIn
namespace Go.Proofs.YtiplgdkpnhamaaaGreatDoor.Tv
open Go.RowKit
set_option maxRecDepth 100000 in
set_option maxHeartbeats 16000000 in
theorem equal_any {w:World} (ht:Tabs w) (m:Int) (hm:-9223372036854775808≤m) (hm':m≤9223372036854775807) (sv:Value) (ps:List KOp) (hps:KIn w sv ps) :
  Calls Tryz.prog 7 #[.int .i64 m,sv] w fun e w'=>e=.returned (.bool true)∧Below w.heap.size w w':=by
 have HRm:Hid (6≤w.heap.size):=ht.room
 have HMd:=hide (made_any ht m hm hm')
 have hlt:=pickOf_lt m 4 (by omega)
 generalize hn:2+pickOf m 4=n at HMd
 have hn2:2≤n:=by omega
 have hn5:n≤5:=by omega
 obtain ⟨ao,cp,esv,hcell⟩:=hps.ex
 have HPS:=hide (⟨hcell,hps.ok,hps.most⟩:_∧_∧_)
 subst esv
 have hpm:ps.length≤262144:=hps.most
 clear ht hm hm' hlt hn hps hcell
 go_enter Tryz.func7,Tryz.ntmps7
 go_wp2_with fail
 refine HMd.out.mono ?_
 rintro e w1 ⟨gb,rv,B,o,rfl,-,h2,h3,h4⟩
 obtain ⟨g,cap,-,hK⟩:=Ks.start h4 h2 h3 (by omega)
 have HK:Hid (EqAt n w gb g cap B 0 w1):=⟨⟨⟨[],fun _=>[],[]⟩,_,o,hK,Nat.zero_le _,Nat.zero_le _⟩⟩
 clear hK h2 h3 h4 HMd
 go_wp2_with fail
 go_loopw [6,7,8,9,10,11,12,13,14,15] (fun iv _ _ _ _ _ _ _ _ _ wr=>∃ k:Nat,k≤ps.length∧iv=.int .i64 k∧Hid (EqAt n w gb g cap B k wr)) (fun iv _ _ _ _ _ _ _ _ _ _=>ps.length - (intOf iv).toNat)
 case atStart=>exact ⟨0,Nat.zero_le _,rfl,HK.out⟩
 case round=>
  clear HK
  obtain ⟨k,hk,rfl,HE⟩:=hrel
  obtain ⟨s,X,o,hK,hts,hL⟩:=HE.out.ex
  have HBr:Hid (Below w.heap.size w wr):=at0_below hK.at0
  by_cases hlt:k<ps.length
  ·as_aux_lemma=>
    obtain ⟨sg,off,rfl,hsb,hcell⟩:=HPS.out.1 k hlt
    have x0:=hcell 0 (by omega)
    have x1:=hcell 1 (by omega)
    have x2:=hcell 2 (by omega)
    have x3:=hcell 3 (by omega)
    simp only [KOp.cells,List.getElem?_cons_zero,List.getElem?_cons_succ,Nat.add_zero] at x0 x1 x2 x3
    have y0:=cell_later HBr.out x0
    have y1:=cell_later HBr.out x1
    have y2:=cell_later HBr.out x2
    have y3:=cell_later HBr.out x3
    have hsl:sg<wr.heap.size:=by have:=HBr.out.size;omega
    have HO:=hide (HPS.out.2.1 k hlt)
    obtain ⟨p,hp⟩:∃ p,ps[k]=p:=⟨_,rfl⟩
    rw [hp] at y0 y1 y2 y3 HO
    have HKs:=hide (⟨hK,hts,hL⟩:_∧_∧_)
    clear x0 x1 x2 x3 hcell hsb hp HE hK hts hL HBr
    go_wp2_with fail
    refine (step_any HKs.out.1 (by omega) HRm.out (fun i _=>⟨0,1,room_none⟩) p HO.out (by have:=HKs.out.2.1;omega) (by have:=HKs.out.2.2;omega)).mono ?_
    rintro e w2 ⟨rfl,o2,s2,X2,hst,hK2,-,-⟩
    have hfew:=step_few hst
    have HE2:Hid (EqAt n w gb g cap B (k+1) w2):=⟨s2,X2,o2,hK2,by have:=HKs.out.2.1;omega,by have:=HKs.out.2.2;omega⟩
    clear hst hK2 hfew HKs y0 y1 y2 y3 HO
    go_wp2_with fail
    go_loopw [8,9,10,11,12,13,14,15] (fun jv _ _ _ _ _ _ _ wz=>∃ j:Nat,1≤j∧j≤n∧jv=.int .i64 j∧Hid (EqAt n w gb g cap B (k+1) wz)) (fun jv _ _ _ _ _ _ _ _=>n - (intOf jv).toNat)
    case atStart=>exact ⟨1,Nat.le_refl _,by omega,rfl,HE2.out⟩
    case round=>
     clear HE2
     obtain ⟨j,hj1,hj,rfl,HE⟩:=hrel
     obtain ⟨s,X,o,hK,hts,hL⟩:=HE.out.ex
     obtain ⟨c0,hck,hgl⟩:=hK.cells
     by_cases hjn:j<n
     ·as_aux_lemma=>
       obtain ⟨i,rfl⟩:∃ i,j=i+1:=⟨j - 1,by omega⟩
       have ca:=hck i (by omega)
       have HKs:=hide (⟨hK,hts,hL⟩:_∧_∧_)
       clear hck HE hK hts hL
       go_wp2_with fail
       refine (HKs.out.1.visible (i:=i) (by omega) (5,0,0) (by simp [free1])).mono ?_
       rintro e w3 ⟨lv,o3,rfl,K3,T3,P3⟩
       obtain ⟨lo,lcap,el,-⟩:=P3.row.shape
       subst el
       have H3:=hide K3
       have HP3:=hide P3
       obtain ⟨c0,hck,hgl⟩:=K3.cells
       have cb:=hck (i+1) hjn
       have HTs:=hide HKs.out.2
       clear K3 T3 P3 HKs hck ca
       go_wp2_with fail
       refine (H3.out.visible (i:=i+1) hjn (6,0,0) (by simp [free1])).mono ?_
       rintro e w4 ⟨mv,o4,rfl,K4,T4,P4⟩
       have P3:=HP3.out.touch T4 (free_kg (by simp [free1]) _)
       obtain ⟨mo,mcap,em,-⟩:=P4.row.shape
       subst em
       have H4:=hide K4
       have HP4:=hide (⟨P3,P4⟩:_∧_)
       clear K4 T4 P3 P4 H3 HP3 c0 cb hgl
       go_wp2_with fail
       refine (sameInts_any w4 _ _ (visOf n (s.H i)) (visOf n (s.H (i+1))) (by rw [visOf_len];exact HP4.out.1.row) (by rw [visOf_len];exact HP4.out.2.row) (by rw [visOf_len,visOf_len]) (by rw [visOf_len];omega)).mono ?_
       rintro e w5 ⟨rfl,hB5⟩
       have H5:=hide (H4.out.below hB5 (14,0,0)).1
       clear H4 HP4 hB5
       generalize own2 o4 _ (fun _=>(14,0,0))=o5 at *
       by_cases hv:visOf n (s.H i)=visOf n (s.H (i+1))
       ·as_aux_lemma=>
         rw [decide_eq_true hv]
         have hsame:=all_same H5.out.hist (H5.out.histAt (i:=i) (by omega)).1 (H5.out.histAt hjn).1 (H5.out.histAt (i:=i) (by omega)).2 (H5.out.histAt hjn).2 hv
         have HSm:=hide hsame
         have HLn:Hid (∀ q,q<n→∀ x,x ∈ allV n (s.H q)→x.2.length≤100000000):=fun q hq=>all_len (H5.out.histAt hq).1 (H5.out.len hq)
         clear hsame hv
         obtain ⟨c0,hck,hgl⟩:=H5.out.cells
         have ca:=hck i (by omega)
         clear hck
         go_wp2_with fail
         refine (H5.out.all (i:=i) (by omega) (by show freeSlot (fun _=>none)<6;rw [free_new];omega) (8,0,0) (9,0,0) (by simp [free1]) (by simp [free1]) (by simp)).mono ?_
         rintro e w6 ⟨lv,o6,xs,rfl,K6,T6,V6⟩
         obtain ⟨g6,cp6,el,-⟩:=V6.cells (allV_len _ _)
         subst el
         have H6:=hide K6
         have HV6:=hide V6
         obtain ⟨c0',hck,hgl'⟩:=K6.cells
         have cb:=hck (i+1) hjn
         clear K6 T6 V6 H5 hck ca c0 hgl
         go_wp2_with fail
         refine (H6.out.all (i:=i+1) hjn (by show freeSlot (fun _=>none)<6;rw [free_new];omega) (10,0,0) (11,0,0) (by simp [free1]) (by simp [free1]) (by simp)).mono ?_
         rintro e w7 ⟨mv,o7,ys,rfl,K7,T7,V7⟩
         obtain ⟨g7,cp7,el,-⟩:=V7.cells (allV_len _ _)
         subst el
         have V6:=HV6.out.touch T7 (free_kg (by simp [free1]) _) (free_kg (by simp [free1]) _)
         have H7:=hide K7
         have HV7:=hide (⟨V6,V7⟩:_∧_)
         clear K7 T7 V6 V7 H6 HV6 cb c0' hgl'
         go_wp2_with fail
         refine (alike_any w7 HV7.out.1 HV7.out.2 (allV_len _ _) (allV_len _ _) (HLn.out i (by omega)) (HLn.out (i+1) hjn)).mono ?_
         rintro e w8 ⟨rfl,hB8⟩
         rw [decide_eq_true HSm.out]
         have H8:=hide (H7.out.below hB8 (14,0,0)).1
         clear H7 HV7 hB8 HSm HLn
         go_wp2_with fail
         exact ⟨⟨i+1+1,by omega,by omega,by go_num,⟨s,X,_,H8.out,HTs.out.1,HTs.out.2⟩⟩,by simp [intOf];omega⟩
       ·as_aux_lemma=>
         rw [decide_eq_false hv]
         clear hv
         go_wp2_with fail
         exact ⟨⟨i+1+1,by omega,by omega,by go_num,⟨s,X,_,H5.out,HTs.out.1,HTs.out.2⟩⟩,by simp [intOf];omega⟩
     ·as_aux_lemma=>
       have hjn':¬ (j:Int)<n:=by omega
       go_wp2_with fail
       exact ⟨⟨k+1,by omega,by go_num,HE.out⟩,by simp [intOf];omega⟩
  ·as_aux_lemma=>
    go_wp2_with fail
    go_ret
    exact ⟨rfl,HBr.out⟩
end Go.Proofs.YtiplgdkpnhamaaaGreatDoor.Tv
namespace Go.Proofs.YtiplgdkpnhamaaaGreatDoor.equal
open Go.ChangeShapes Go.WideShapes Go.ChangeAt Go.RowKit
theorem own:ownKnob Tryz.prog.godebug=none:=by kernel_rfl
theorem laidOut:laidOutB Tryz.prog=true:=by kernel_rfl
theorem arr_of {args:Array Value} {l:List Value} (h:args.toList=l):args=l.toArray:=by rw [← h]
set_option maxRecDepth 100000 in
theorem contract (H:Type) (enc:TypeId × Value→H) (W:World) (base:Nat) (args:Array Value) (ds gs:List (DataW H)) (before:List MemPlace)
  (hval:∀ (j:Nat) t v,Tryz.f7.params[j]? = some t→args[j]? = some v→Value.okWide Tryz.prog W .any base t v)
  (hW:DataW.Whole enc Tryz.prog Tryz.f7.params.toList Rows.equalSpec.vars false W args.toList ds gs before) (hk:Rows.uptoSmall H (ds ++ gs)=true) (hT:Tabs W) :
  Calls Tryz.prog 7 args W fun e W'=>∃ v,e=.returned v∧Rows.equalSpec.post enc Tryz.prog Tryz.f7 false true false false W args v W':=by
 have hW':=hW
 obtain ⟨p,q,hA0,hV,rfl,hfz,hnd⟩:=hW
 have hA:DataW.TrodAll enc Tryz.prog W 0 (fun _=>true) true Tryz.f7.params.toList args.toList ds p:=hA0
 rw [Tryz.params7] at hA hval
 obtain ⟨v0,vs0,d0,ds0,p0,q0,hargs,rfl,rfl,h0,r0⟩:=trodAll_cons hA
 obtain ⟨v1,vs1,d1,ds1,p1,q1,rfl,rfl,rfl,h1,r1⟩:=trodAll_cons r0
 obtain ⟨rfl,rfl,rfl⟩:=trodAll_nil r1
 obtain rfl:args=#[v0,v1]:=arr_of hargs
 obtain ⟨rfl,rfl⟩:=trodVars_none hV
 obtain ⟨n,rfl,rfl,rfl,wn⟩:=open_int Tryz.underlying3 (hval 0 3 v0 rfl rfl) h0
 obtain ⟨a0,len,cap,rfl⟩:=okWide_slice Tryz.underlying34 (hval 1 34 v1 rfl rfl)
 have h1k:=h1
 obtain ⟨fuel,hf⟩:=h1
 have hf':DataW.trod enc Tryz.prog W 0 (fun _=>true) true fuel 34 [Value.slice a0 len cap]=some (d1,p1):=hf
 have hb:Rows.uptoBulkAll [DataW.lit (H:=H) (.int .i64 n),d1]≤1048576:=of_decide_eq_true (by simpa [Rows.uptoSmall] using hk)
 have hb1:Rows.uptoBulk d1≤1048576:=by
  simp only [Rows.uptoBulkAll] at hb
  omega
 obtain ⟨ops,hs⟩:=Tv.kscript_in hf' hb1
 clear hA0 hf hf' hb hb1 hk hval
 simp only [List.append_nil,List.nil_append] at hW' hfz hnd
 refine (Tv.equal_any hT n (Tv.kwf_i64 wn).1 (Tv.kwf_i64 wn).2 _ ops hs).mono fun e W' ⟨he,hB⟩=>?_
 subst he
 have hlt:∀ x ∈ p1,x.block<W.heap.size:=fun x hx=>by simpa using hW'.lt x (by simpa using hx)
 refine ⟨_,rfl,_,_,_,[],[] ++ p1,[],hW',trodAll_cons_mk (shut_bool Tryz.underlying4 _) trodAll_mk0,trodAll_mk2 (shut_int Tryz.underlying3 wn) (Below.trod laidOut (by kernel_rfl) (of_decide_eq_true (by kernel_rfl)) h1k hB hlt),rfl,hB.frame _,fun h=>by cases h⟩
noncomputable def laidWorld (os:Os):World:=
 let N:=(World.settled Tryz.prog os).heap.size
 let w0:=World.holding Tryz.prog os ⟨#[.cells #[.string ⟨#[118,97,108,117,101,32,111,117,116,32,111,102,32,114,97,110,103,101]⟩] 359,.cells #[.string ⟨#[105,110,118,97,108,105,100,32,115,121,110,116,97,120]⟩] 359],#[],[]⟩
 let put (h:Array Obj) (g:Nat) (cs:Array Value):Array Obj:=h.modify g fun
  | .cells _ t frozen=>.cells cs t frozen
  | o=>o
 let ints (k:IntKind) (d:DataW Unit):Array Value:=match d with
  | .agg l=>(l.map fun | .lit (.int _ z)=>Value.int k z | _=>.bool false).toArray
  | _=>#[]
 let h0:=put w0.heap 3 #[.iface 357 (.pointer (some ⟨N,0,none⟩))]
 let h1:=put h0 2 #[.iface 357 (.pointer (some ⟨N+1,0,none⟩))]
 let h2:=put h1 4 (ints .u8 Rows.laid_math_bits_deBruijn32tab)
 let h3:=put h2 5 (ints .u8 Rows.laid_math_bits_deBruijn64tab)
 let h4:=put h3 0 (ints .u64 Rows.laid_internal_strconv_uint64pow10)
 { w0 with heap:=h4 }
noncomputable abbrev N0:Nat:=(World.settled Tryz.prog default).heap.size
set_option maxRecDepth 1000000 in
theorem laid_in (os:Os):LaidIn Tryz.prog ((laidWorld os).forCall (fun _ _=>0) ⟨#[],#[.int .i64 0,.slice none 0 0],[]⟩).memory Rows.equalUptoRow.laid [4,5,0,3,N0,2,N0+1]:=
 LaidIn.of_run _ 8 (by kernel_rfl) (by kernel_rfl) (by kernel_rfl) (by kernel_rfl)
theorem reads (os:Os) {H:Type} (enc:TypeId × Value→H):∃ places,DataW.whole enc Tryz.prog ((laidWorld os).forCall (fun _ _=>0) ⟨#[],#[.int .i64 0,.slice none 0 0],[]⟩).memory Tryz.f7.params.toList Rows.equalSpec.vars false #[Value.int .i64 0,.slice none 0 0].toList 8=some ([.lit (.int .i64 0),.nil],[],places):=
 ⟨[],by kernel_rfl⟩
set_option maxRecDepth 100000 in
theorem lifted (os:Os) (started:os.Started) (H:Type) (enc:TypeId × Value→H) (F:Stop.Interp) :
  ReturnsInHanded {} Tryz.checked os 7 .any ((Rows.OpenSpec.upto Rows.equalSpec).preRow enc Tryz.prog Tryz.f7 Rows.equalUptoRow.domain false Rows.equalUptoRow.laid) (((Rows.OpenSpec.upto Rows.equalSpec).at F).post enc Tryz.prog Tryz.f7 false true false false):=by
 obtain ⟨places,hx⟩:=reads os enc
 refine returnsInHanded_of_row (C:=Tryz.checked) (s:=Rows.OpenSpec.upto Rows.equalSpec) own started (by kernel_rfl) Tryz.func7
  (witness_row_atRef (enc:=enc) (C:=Tryz.checked) false (laidWorld os) #[.int .i64 0,.slice none 0 0] rfl (by kernel_rfl) (by kernel_rfl) (by kernel_rfl)
   (OpenSpec.preRow_of_cond 8 hx (by kernel_rfl) (fun k hk=>by cases hk;kernel_rfl) (by kernel_rfl) (laid_in os).met)) ?_
 intro W base args ds gs before hval hW _ hcond _ hlaid _ _
 exact contract H enc W base args ds gs before hval hW (hcond _ rfl) (tabs_of_laid hlaid)
theorem saidUpto:Rows.EqualUptoSaid:=
 OpenClaim.holds_of_cond 7 Tryz.f7 rfl rfl rfl rfl rfl rfl rfl ⟨rfl,rfl,rfl,rfl,rfl⟩ rfl rfl rfl rfl rfl named Tryz.func7 closed
  inst wrap (fun os started H enc _ F=>by rw [OpenClaim.pre_eq_preRow];exact lifted os started H enc F)
theorem plain (f:FuncId) (fn:Func) (hf:Tryz.pinned.checked.prog.funcNamed Rows.equalUptoRow.func=some f) (hfn:Tryz.pinned.checked.prog.funcs[f]? = some fn) :
  true=Tryz.pinned.checked.prog.looks []∧∀ (j:Nat) t,fn.params[j]? = some t→Tryz.pinned.checked.prog.wantsStandIn t=false:=by
 obtain rfl:f=7:=Option.some.inj ((show Tryz.prog.funcNamed Rows.equalUptoRow.func=some 7 by kernel_rfl).symm.trans hf) |>.symm
 obtain rfl:fn=Tryz.f7:=(Option.some.inj (Tryz.func7.symm.trans hfn)).symm
 refine ⟨by kernel_rfl,fun j t ht=>?_⟩
 rw [Tryz.params7] at ht
 have:t=3∨t=34:=by simpa using Array.mem_of_getElem? ht
 rcases this with rfl | rfl
 ·exact (show Tryz.prog.wantsStandIn 3=false by kernel_rfl)
 ·exact (show Tryz.prog.wantsStandIn 34=false by kernel_rfl)
theorem cardUpto:Rows.EqualUptoCardSaid:=
 Claim7.holds_tied_plain_at .later [] _ _ _ _ saidUpto (fun _ h=>by cases h) (by kernel_rfl) (fun _ h=>by cases h) equalUpto_row_tie rfl ⟨rfl,rfl⟩ (by kernel_rfl) rfl plain (by kernel_rfl)
end Go.Proofs.YtiplgdkpnhamaaaGreatDoor.equal
namespace Go.Proofs.YtiplgdkpnhamaaaGreatDoor
theorem equal_upto_card:Rows.EqualUptoCardSaid:=equal.cardUpto
end Go.Proofs.YtiplgdkpnhamaaaGreatDoor
