import Derived.Test.YtiplgdkpnhamaaaGreatDoorT14
import Derived.Shelf.SortM.Plain
import Derived.Shelf.SortM.SortNone
import Derived.Test.YtiplgdkpnhamaaaGreatDoorProg
import Derived.Sort.OwnSorted
import Derived.Laws.IdiomRangeMap
set_option maxHeartbeats 8000000
set_option maxRecDepth 100000
namespace Go.Proofs
open Go.Shelf
def Tryz.TO:Go.Shelf.Ren:=⟨fun|6=>112|8=>155|9=>154|19=>192|20=>193|21=>183|22=>184|23=>185|24=>186|25=>187|26=>188|27=>189|28=>190|29=>191|36=>210|31=>211|32=>212|37=>213|38=>214|39=>215|41=>235|n=>n,fun|27=>41|29=>9|3=>3|32=>247|26=>41|0=>0|44=>284|46=>286|4=>4|36=>276|35=>275|41=>281|5=>5|9=>9|53=>304|57=>308|63=>321|64=>322|n=>n,fun|n=>n⟩
theorem Tryz.acy:Go.Proofs.SlLaysM.n6 prog Tryz.TO:={
 mixed:=by kernel_rfl
 f6:=⟨f112.name,by decide,func112.trans (congrArg some (by kernel_rfl))⟩
 f8:=func155.trans (congrArg some (by kernel_rfl))
 f9:=⟨f154.name,by decide,func154.trans (congrArg some (by kernel_rfl))⟩
 f19:=func192.trans (congrArg some (by kernel_rfl))
 f20:=func193.trans (congrArg some (by kernel_rfl))
 f21:=⟨f183.name,by decide,func183.trans (congrArg some (by kernel_rfl))⟩
 f22:=⟨f184.name,by decide,func184.trans (congrArg some (by kernel_rfl))⟩
 f23:=⟨f185.name,by decide,func185.trans (congrArg some (by kernel_rfl))⟩
 f24:=⟨f186.name,by decide,func186.trans (congrArg some (by kernel_rfl))⟩
 f25:=⟨f187.name,by decide,func187.trans (congrArg some (by kernel_rfl))⟩
 f26:=⟨f188.name,by decide,func188.trans (congrArg some (by kernel_rfl))⟩
 f27:=⟨f189.name,by decide,func189.trans (congrArg some (by kernel_rfl))⟩
 f28:=⟨f190.name,by decide,func190.trans (congrArg some (by kernel_rfl))⟩
 f29:=⟨f191.name,by decide,func191.trans (congrArg some (by kernel_rfl))⟩
 f31:=func211.trans (congrArg some (by kernel_rfl))
 f32:=func212.trans (congrArg some (by kernel_rfl))
 f36:=⟨f210.name,by decide,func210.trans (congrArg some (by kernel_rfl))⟩
 f37:=⟨f213.name,by decide,func213.trans (congrArg some (by kernel_rfl))⟩
 f38:=⟨f214.name,by decide,func214.trans (congrArg some (by kernel_rfl))⟩
 f39:=⟨f215.name,by decide,func215.trans (congrArg some (by kernel_rfl))⟩
 f41:=⟨f235.name,by decide,func235.trans (congrArg some (by kernel_rfl))⟩
 t0:=underlying0
 a0:=Tryz.isAgg0
 z0:=Tryz.sizeOf0
 v0:=Tryz.zeroValue0
 t3:=underlying3
 a3:=Tryz.isAgg3
 z3:=Tryz.sizeOf3
 v3:=Tryz.zeroValue3
 t4:=underlying4
 a4:=Tryz.isAgg4
 z4:=Tryz.sizeOf4
 v4:=Tryz.zeroValue4
 t5:=underlying5
 a5:=Tryz.isAgg5
 z5:=Tryz.sizeOf5
 v5:=Tryz.zeroValue5
 t9:=underlying9
 a9:=Tryz.isAgg9
 z9:=Tryz.sizeOf9
 v9:=Tryz.zeroValue9
 t26:=underlying41
 a26:=Tryz.isAgg41
 z26:=Tryz.sizeOf41
 v26:=Tryz.zeroValue41
 t27:=underlying41
 a27:=Tryz.isAgg41
 z27:=Tryz.sizeOf41
 v27:=Tryz.zeroValue41
 t29:=underlying9
 a29:=Tryz.isAgg9
 z29:=Tryz.sizeOf9
 v29:=Tryz.zeroValue9
 t32:=underlying247
 a32:=Tryz.isAgg247
 z32:=Tryz.sizeOf247
 v32:=Tryz.zeroValue247
 t35:=underlying275
 a35:=Tryz.isAgg275
 z35:=Tryz.sizeOf275
 v35:=Tryz.zeroValue275
 t36:=underlying276
 a36:=Tryz.isAgg276
 z36:=Tryz.sizeOf276
 v36:=Tryz.zeroValue276
 t41:=underlying281
 a41:=Tryz.isAgg281
 z41:=Tryz.sizeOf281
 v41:=Tryz.zeroValue281
 t44:=underlying284
 a44:=Tryz.isAgg284
 z44:=Tryz.sizeOf284
 v44:=Tryz.zeroValue284
 t46:=underlying286
 a46:=Tryz.isAgg286
 z46:=Tryz.sizeOf286
 v46:=Tryz.zeroValue286
 t53:=underlying304
 a53:=Tryz.isAgg304
 z53:=Tryz.sizeOf304
 v53:=Tryz.zeroValue304
 t57:=underlying308
 a57:=Tryz.isAgg308
 z57:=Tryz.sizeOf308
 v57:=Tryz.zeroValue308
 t63:=underlying321
 a63:=Tryz.isAgg321
 z63:=Tryz.sizeOf321
 v63:=Tryz.zeroValue321
 t64:=underlying322
 a64:=Tryz.isAgg322
 z64:=Tryz.sizeOf322
 v64:=Tryz.zeroValue322}
end Go.Proofs
namespace Go.Proofs.YtiplgdkpnhamaaaGreatDoor
open Go.Proofs.Tryz List
open Go.RowKit Go.Sort
variable {calls:Int}{kept:Value}{mb n lN e8 aE aV:Nat}{o:Nat->Own}{p:Place}{saw:aW}{st:b5}{w w':World}
theorem aas:∀(x y:List UInt8),Op.bytesLess x y=decide (x<y)
 |[],[]=>by simp[Op.bytesLess]
 |_::_,[]=>by simp[Op.bytesLess]
 |[],_::_=>by simp[Op.bytesLess]
 |a::x,b::y=>by
  rw[Op.bytesLess,aas x y];simp only[cons_lt_cons_iff];by_cases h1:a<b<;>by_cases ae:a=b<;>by_cases aH:x<y<;>simp[h1,ae,aH]
theorem NB (x y:List UInt8):decide (x<=y)= !Op.bytesLess y x:=by
 rw[aas];by_cases h:y<x
 ·have:¬x<=y:=fun c=>c h
  simp[h,this]
 ·have:x<=y:=h
  simp[h,this]
theorem SC {x y:List UInt8}(h:Op.bytesLess x y=true):Op.bytesLess y x=false:=by
 cases e:Op.bytesLess y x
 ·rfl
 ·have:=NC h e;rw[Ke]at this;cases this
def bytesOf (a:ByteArray):List UInt8:=a.data.toList
def ofBytes (l:List UInt8):ByteArray:=⟨l.toArray⟩
theorem abc (a:ByteArray):ofBytes (bytesOf a)=a:=by cases a;simp[ofBytes,bytesOf]
theorem apk (l:List ByteArray):strs l=(l.map bytesOf).map encStr:=by
 unfold strs;rw[map_map];refine map_congr_left fun a _=>?_
 show ai a=ai (ofBytes (bytesOf a))
 rw[abc]
theorem ao9 (l:List ByteArray)(ho:l.Nodup):∃ca:List ByteArray,ca.Perm l∧my ca∧(((l.map bytesOf).mergeSort fun x y=>decide (x<=y)).map encStr)=strs ca:=by
 have tq:∀a b c:List UInt8,decide (a<=b)=true->decide (b<=c)=true->decide (a<=c)=true:=fun a b c h1 ae=>by
  rw[NB]at*;simp only[Bool.not_eq_true']at*;rcases GR a b with rfl|h|h
  ·exact ae
  ·rcases GR b c with rfl|e5|e5
   ·exact h1
   ·exact SC (NC h e5)
   ·rw[ae]at e5;cases e5
  ·rw[h1]at h;cases h
 have eP:∀a b:List UInt8,(decide (a<=b)||decide (b<=a))=true:=fun a b=>by
  rw[NB,NB];rcases GR a b with rfl|h|h
  ·simp[Ke]
  ·simp[SC h]
  ·simp[SC h]
 have aw:=mergeSort_perm (l.map bytesOf) (fun x y=>decide (x<=y));have hs:=pairwise_mergeSort (le:=fun x y:List UInt8=>decide (x<=y)) tq eP (l.map bytesOf);generalize (l.map bytesOf).mergeSort (fun x y=>decide (x<=y))=ts at*;have uo:(ts.map ofBytes).Perm l:=by
  have:=aw.map ofBytes;rw[map_map,show ofBytes∘bytesOf=id from funext abc,map_id]at this;exact this
 have Ep:=uo.nodup_iff.2 ho;refine⟨ts.map ofBytes,uo,?_,?_⟩
 ·unfold my
  rw[zL];have aj3:ts.Pairwise fun a b=>ofBytes a≠ofBytes b:=zL.1 Ep
  refine(hs.and aj3).imp fun{a b} h=>?_
  obtain⟨h1,ae⟩:=h;rw[NB]at h1;show Op.bytesLess (ofBytes a).toList (ofBytes b).toList=true
  have eH:(ofBytes a).toList=a:=by rw[Fh];simp[ofBytes]
  have b6:(ofBytes b).toList=b:=by rw[Fh];simp[ofBytes]
  rw[eH,b6];rcases GR a b with rfl|h|h
  ·exact absurd rfl ae
  ·exact h
  ·rw[h]at h1;simp at h1
 ·unfold strs
  rw[map_map];rfl
theorem TP (w:World)(base:Nat)(v:Value)(l:List ByteArray)(bf:w.ownsRow base 9 1 v l.length (strs l))(aC:l.length<=1000000000)(ho:l.Nodup):
  Calls prog 112 #[v] w fun e w'=>e= .returned (.tuple #[])∧
   ∃ca:List ByteArray,ca.Perm l∧my ca∧w'.ownsRow base 9 1 v ca.length (strs ca)∧w.grownBy w' v.ownBlock:=by
 rcases Nat.eq_zero_or_pos l.length with cF|aw
 ·have wy:l=[]:=Hv.1 cF
  subst wy;obtain⟨cA,cap,rfl,-⟩:=Row.shape (e3 bf ch);have a:=AnyM.slices_Sort_string_none (P:=prog) (ρ:=Tryz.TO) Tryz.acy cA cap w;change Calls prog 112 _ _ _ at a;refine a.mono ?_;rintro e w' ⟨rfl,rfl⟩;exact⟨rfl,[],List.Perm.refl _,List.Pairwise.nil,bf,⟨rfl,rfl,rfl,cv,fun _ _ _=>rfl⟩⟩
 ·obtain⟨ca,dk,eu,eL⟩:=ao9 l ho
  rcases bf.2 with⟨hn,aS⟩|⟨g,cap,cur,rfl,ai2,hb,h1,ae,aH,bd⟩
  ·omega
  ·rw[apk]at bd
   have hlen:(l.map bytesOf).length=l.length:=by simp
   have hH:Holds encStr w g 0 (l.map bytesOf).toArray:=holds_of_block hb (by rw[hlen];simpa using bd);have a:=AnyM.slices_Sort_string (P:=prog) (ρ:=Tryz.TO) Tryz.acy g 0 cap (l.map bytesOf) w hH (w6.1 hb).1 (by rw[hlen];omega);change Calls prog 112 _ _ _ at a;rw[hlen]at a;refine a.mono ?_;rintro e w' ⟨rfl,m,os,rfl⟩;refine⟨rfl,ca,dk,eu,?_,grownBy_sorted _⟩;have b:=ownsRow_sorted (n:=m) (os:=os) (ss:=l.map bytesOf) (ts:=(l.map bytesOf).mergeSort fun x y=>decide (x<=y)) (by simp) ai2 hb (by rw[hlen];exact h1) ae aH;rw[eL,hlen]at b;rw[dk.length_eq];exact b
structure Uw (cr:World)(b r n:Nat)(st:b5)(saw:aW)(key:ByteArray)(v:Value)(wr:World)(left:ByteArray->Bool)(ar:Nat)(acc:List ByteArray):Prop where
 KG:mT wr 9 b r n pR zB (p6 st.els key) left ar
 own:wr.ownsRow (cr.heap.size+1) 9 1 v acc.length (strs acc)
 once:acc.Nodup
 some_:∀a,a∈acc↔st.els key a=true∧left a=false∧jq saw st ⟨key,a⟩≠[]
 sub:∀a,left a=true->st.els key a=true
 ea:acc.length+ar<=n
 cZ:ax cr wr
theorem WE {key a:ByteArray}{x:Unit}(h:p6 st.els key a=some x):st.els key a=true:=by
 unfold p6 at h;split at h
 ·assumption
 ·cases h
theorem ao1 (dJ:s3 w o aE n e8 st saw kept)(key:ByteArray)(hk:key.size<=maxLen)(hn:n<=900000000):
  Calls prog 110 #[bl e8,ai key] w fun e w'=>∃(v:Value) (l:List ByteArray),e= .returned v∧my l∧(∀a,a∈l↔st.els key a=true∧jq saw st ⟨key,a⟩≠[])∧l.length<=n∧w'.ownsRow w.heap.size 9 1 v l.length (strs l)∧ax w w':=by
 obtain⟨i0,aq,dC,dM,dK⟩:=iV Tryz.CL;have cw:=J (⟨aq,dC,dM,dK⟩:_∧_∧_∧_);clear aq dC dM dK;obtain⟨cg,bM,b6,bU,b4,bB,ah,h⟩:=dJ.hR;have c0:=dJ.U.c0;have hA:=h.U.U.hA;have cW:=DV h.els hk (W:=w) rfl;cases jc:bB key with
 |none=>
  rw[jc]at cW;have JF:=h.tC key jc;have cp:=J (⟨dJ,JF⟩:_∧_);clear dJ h jc JF;have y9:=run_range_nilMap (P:=prog) w 244 9 195 underlying244;have qU:=run_next_nilMap (P:=prog) w 0 0 0 #[];have aF:ax w (w.alloc (.mapIter none 0 #[] 0)):=cj _ _;generalize w.alloc (.mapIter none 0 #[] 0)=bR at*;have qe:=TP bR w.heap.size (.slice none 0 0) [] (by simpa[strs]using jD _ _ _ _) (by simp) nodup_nil;have Dy:=J qe;have bO:=J aF;clear qe aF;go_enter func110,ntmps110;go_wp2_with fail
  go_loopw[5] (fun m wr=>m= .slice none 0 0∧wr=bR) (fun _ _=>0)
  case atStart=>exact⟨rfl,rfl⟩
  case round=>
   obtain⟨rfl,rfl⟩:=hrel;go_wp2_with fail
   refine Dy.o.mono ?_;rintro e w2 ⟨rfl,ca,gJ,gV,tl,sl⟩;have qc:ca=[]:=List.Perm.eq_nil gJ;subst qc;have bX:=J (⟨tl,sl⟩:_∧_);clear gJ gV tl sl;go_wp2_with fail
   go_ret;refine⟨_,[],rfl,List.Pairwise.nil,fun a=>?_,ch,bX.o.1,bO.o.grown bX.o.2 bO.o.size (fun j af=>by simp[Value.ownBlock]at af)⟩;rw[cp.o.2 a];simp
 |some b=>
  rw[jc]at cW;have bK:=h.set key b jc;obtain⟨an,F3,Ng,Eu,Ee,xN,wD⟩:=bK.range zw (t:=244) underlying244;have aF:ax w an:=(Touch.oi xN).mono (fun k _ e=>by cases e)|>.below
  have Cy:Uw w b w.heap.size n st saw key (.slice none 0 0) an (fun a=>(p6 st.els key a).isSome) F3 []:=by
   refine⟨Eu,by simpa[strs]using jD _ _ _ _,nodup_nil,fun a=>?_,fun a aU=>?_,by simpa using Ee,aF⟩
   ·unfold p6;cases st.els key a<;>simp
   ·obtain⟨x,au⟩:=mn.1 aU;exact WE au
  have ad0:=J bK.lt;have aO:=J (⟨dJ,h.s8,Cy⟩:_∧_∧_);clear dJ h jc bK Eu Ee xN aF Cy;go_enter func110,ntmps110;go_wp2_with fail
  go_loopw[5] (fun m wr=>∃left ar acc,Uw w b w.heap.size n st saw key m wr left ar acc) (fun _ wr=>wr.rangeLeft b w.heap.size)
  case atStart=>exact⟨_,_,_,aO.o.2.2⟩
  case round=>
   obtain⟨left,ar,acc,bI⟩:=hrel;have hF:=bI.KG.left_eq;clear cW c0 hA Ng;rcases bI.KG.next zw E0 0 with⟨aS,aC,hd⟩|⟨a,y,w2,kz,dU,n0,jJ,hd,rJ,vl,kS,fb,l3⟩
   ·have gn:∀a,st.els key a=true->left a=false:=fun a aU=>by
     obtain⟨cQ,dU⟩:=zv (aO.o.2.1 key a aU);exact aC a cQ dU
    have dn:=J (⟨bI,gn⟩:_∧_);have qe:=TP _ _ _ _ bI.own (by have:=bI.ea;omega) bI.once;have Dy:=J qe;clear bI gn aC qe hF;go_wp2_with fail
    refine Dy.o.mono ?_;rintro e w2 ⟨rfl,ca,gJ,gV,tl,sl⟩;have bX:=J (⟨gJ,gV,tl,sl⟩:_∧_∧_∧_);clear gJ gV tl sl;go_wp2_with fail
    go_ret;obtain⟨gJ,gV,tl,sl⟩:=bX.o;obtain⟨bI,gn⟩:=dn.o;refine⟨_,ca,rfl,gV,fun a=>?_,by rw[gJ.length_eq];have:=bI.ea;omega,e3 tl (by omega),bI.cZ.grown sl bI.cZ.size (fun j af=>by have:=(bI.own.lt j af).1;omega)⟩;rw[gJ.mem_iff,bI.some_ a];constructor
    ·rintro ⟨dr,en,d_⟩;exact⟨dr,d_⟩
    ·rintro ⟨dr,d_⟩;exact⟨dr,gn a dr,d_⟩
   ·have Gn:=WE jJ
    have JM:(⟨key,a⟩:Place).Ok:=⟨hk,aO.o.2.1 key a Gn⟩;have bP:ax w w2:=bI.cZ.grown kS bI.cZ.size (fun j af=>by injection af with af;omega);have XQ:=aO.o.1.below bP;have ZA:=XQ.told ⟨key,a⟩ JM;have fm:w2.ownsRow (w.heap.size+1) 9 1 u5 acc.length (strs acc):=ER (Row.ay (e3 bI.own ch) (Touch.oi kS) (fun j af e=>by injection e with e;have:=(bI.own.lt j af).1;omega)) (fun j af=>(bI.own.lt j af).1);have dA:=J ZA;have bc:=J (⟨bI,hF,n0,Gn,rJ,vl,bP,fm⟩:_∧_∧_∧_∧_∧_∧_∧_);clear bI hF n0 Gn rJ vl bP fm kS fb XQ JM ZA dU jJ;simp only[pR,zB]at hd l3;go_wp2_with fail
    refine dA.o.mono ?_;rintro e bN ⟨v,l,rfl,aC,qe,dd,b0⟩;obtain⟨cA,cap,rfl,gg,jJ,eb⟩:=Row.shape (e3 dd ch);have JC:l.length=0↔jq saw st ⟨key,a⟩=[]:=by rw[aC.length_eq,Hv]
    have EP:=jZ bc.o.2.2.2.2.2.2.2 b0;have JQ:=bc.o.2.2.2.2.1.move (b0.block _ bc.o.2.2.2.2.1.map.lt) (b0.block _ bc.o.2.2.2.2.1.lt);have nu:=bc.o.2.2.2.2.2.2.1.trans (b0.mono bc.o.2.2.2.2.2.2.1.size);have Zn:∀cc:World,mT cc 9 b w.heap.size n pR zB (p6 st.els key) (fun cf=>left cf&& !decide (cf=a)) kz->cc.rangeLeft b w.heap.size<wr.rangeLeft b w.heap.size:=fun cc bd=>by rw[bd.left_eq,bc.o.2.1];exact bc.o.2.2.2.2.2.1
    have dn:=J (⟨EP,JQ,nu,Zn⟩:_∧_∧_∧_);clear aC qe dd eb b0 EP JQ nu Zn hd l3;rcases Nat.eq_zero_or_pos l.length with cF|cF
    ·have o6:=JC.1 cF
     have lB:=J o6;clear JC o6;rw[cF]at gg;have atj:(l.length:Int)=0:=by omega
     go_wp2_with fail
     obtain⟨bI,hF,n0,Gn,rJ,vl,bP,fm⟩:=bc.o;refine⟨⟨_,kz,acc,⟨dn.o.2.1,dn.o.1,bI.once,fun x=>?_,fun x au=>bI.sub x (by simp only[qv]at au;exact au.1),by have:=bI.ea;omega,dn.o.2.2.1⟩⟩,dn.o.2.2.2 _ dn.o.2.1⟩;rw[bI.some_ x];by_cases c:x=a
     ·subst c;simp[n0,lB.o]
     ·simp[c]
    ·have o6:jq saw st ⟨key,a⟩≠[]:=fun e=>by have:=JC.2 e;omega
     have lB:=J o6;have aiX:acc.length+1<=900000000:=by have:=bc.o.1.ea;have:=bc.o.2.2.2.2.2.1;omega
     have y_:w.heap.size+1<=bN.heap.size:=by have:=dn.o.2.1.lt;omega
     clear JC o6;go_wp2_with(at_builtin;refine yw _ rfl _ _ 41 rfl (w.heap.size+1) 9 i0 (ai ⟨#[]⟩) 1 16 underlying41 cw.o.1 cw.o.2.1 cw.o.2.2.1 cw.o.2.2.2 rfl (by decide) _ _ _ rfl (dn.o.1.alloc _) (aa (bN.heap.size) 0) 1 1 [ai a] rfl rfl (qw _ _ _) (by intro u hu;simp at hu;subst hu;rfl) (by unfold maxLen;omega) (by omega) (by simp;omega) ?_;intro v4 cc Gz Cj aj7)
     obtain⟨bI,hF,n0,Gn,rJ,vl,bP,fm⟩:=bc.o;have YI:Touch (fun k=>some k=u5.ownBlock) bN cc:=((Touch.refl _ bN).alloc (.cells #[ai a] 9)).then ⟨Cj.os,Cj.tape,Cj.output,Cj.size,fun k hk hn=>Cj.block k hk hn⟩;have nY:∀k,u5.ownBlock=some k->w.heap.size+1<=k:=fun k hk=>(dn.o.1.lt k hk).1
     have Zk:=dn.o.2.1.move (w':=cc) (YI.block _ dn.o.2.1.map.lt (fun e=>by have:=nY _ e.symm;have:=ad0.o;omega)) (YI.block _ dn.o.2.1.lt (fun e=>by have:=nY _ e.symm;omega));have hX:ax w cc:=(dn.o.2.2.1.alloc dn.o.2.2.1.size _).grown Cj (by simp;omega) (fun j af=>by have:=nY j af;omega);refine⟨⟨_,kz,acc++[a],⟨Zk,by rw[Hg];simpa using Gz,?_,fun x=>?_,fun x au=>bI.sub x (by simp only[qv]at au;exact au.1),by rw[eN];have:=bI.ea;simp;omega,hX⟩⟩,dn.o.2.2.2 _ Zk⟩
     ·rw[yn]
      refine⟨bI.once,by simp,fun x au y b9 e=>?_⟩;rw[k4]at b9;subst b9;subst e;have:=((bI.some_ x).1 au).2.1;rw[n0]at this;cases this
     ·rw[hT,k4,bI.some_ x]
      by_cases c:x=a
      ·subst c;simp[n0,lB.o,Gn]
      ·simp[c]
structure vO (w:World)(aV e8 mb lN:Nat)(calls:Int)(m:Place->Option cG):Prop where
 U:aQ w aV [bl e8,I calls,.map (some mb)] 122
 own:cV w 129 mb lN Place.val cG.val m
theorem vO.below {m:Place->Option cG}(h:vO w aV e8 mb lN calls m)(hb:ax w w'):vO w' aV e8 mb lN calls m:=⟨h.U.below hb,h.own.move (hb.block _ h.own.lt)⟩
theorem apl {bh:cn->Option gQ}{l ca:List bF}(h:l.Perm ca):sK bh p l=sK bh p ca:=by
 unfold sK;refine h.foldl_eq' (fun x _ y _ z=>?_) 0;rw[wrap_add,wrap_add];congr 1;omega
theorem ao3 (dJ:s3 w o aE n e8 st saw kept)(key:ByteArray)(hk:key.size<=maxLen):
  Calls prog 107 #[bl e8,ai key] w fun e w'=>e= .returned (I (sK st.bh ⟨key,cK⟩ (jq saw st ⟨key,cK⟩)))∧ax w w':=
 (ao2 dJ key hk).mono (by rintro e w' ⟨l,aC,rfl,ao⟩;exact⟨by rw[apl aC],ao⟩)
theorem NM:cK.size<=maxLen:=by show(ByteArray.mk #[]).size<=_;exact ch
theorem OQ {m:Place->Option cG}(bK:cV w 129 mb n Place.val cG.val m)(h1:p.key.size<=maxLen)(ae:p.el.size<=maxLen){W:World}(bY:W.heap[mb]?=w.heap[mb]?):
  (Instr.lookup 120 (.map (some mb)) (.agg #[ai p.key,ai p.el]) true).run prog W= .ok (.tuple #[(k3 m p).val,.bool (m p).isSome]) W:=by
 obtain⟨cQ,hk⟩:=N4 p h1 ae;have a:=(bK.move bY).amd (t:=120) rV underlying120 (Uq W) hk;have e:(m p).elim A1.val cG.val=(k3 m p).val:=by unfold k3;cases m p<;>rfl
 rw[e]at a;exact a
theorem apV {m:Place->Option cG}(dJ:s3 w o aE n e8 st saw kept)(aD:vO w aV e8 mb lN calls m)(key:ByteArray)(hk:key.size<=maxLen):
  Calls prog 68 #[bl aV,ai key] w (bx (I (wrap64 (sK st.bh ⟨key,cK⟩ (jq saw st ⟨key,cK⟩)+(k3 m ⟨key,cK⟩).cH))) fun w'=>ax w w'):=by
 have c0:=aR.cell (show w.cell? (aa aV 0)=some (.pointer (some (aa e8 0)))from aD.U.cell 0);have c2:=aR.cell (show w.cell? (aa aV 2)=some (.map (some mb))from aD.U.cell 2);have gU:∀f:dO (aR w),Calls prog 107 #[.pointer (some (aa e8 0)),ai key] f.w fun e fv=>e= .returned (I (sK st.bh ⟨key,cK⟩ (jq saw st ⟨key,cK⟩)))∧∃g:dO (aR w),fv=g.w:=fun f=>aR.call f (ao3 (dJ.below f.ok) key hk)
 have cW:∀f:dO (aR w),(Instr.lookup 120 (.map (some mb)) (.agg #[ai key,ai ⟨#[]⟩]) false).run prog f.w= .ok (k3 m ⟨key,cK⟩).val f.w:=fun f=>adC aD.own (p:=⟨key,cK⟩) hk NM (f.ok.block _ aD.own.lt)
 obtain⟨s,hs⟩:∃s,sK st.bh ⟨key,cK⟩ (jq saw st ⟨key,cK⟩)=s:=⟨_,rfl⟩;obtain⟨x,au⟩:∃x,k3 m ⟨key,cK⟩=x:=⟨_,rfl⟩;rw[hs]at gU;rw[au]at cW;rw[hs,au];have ajn:=WU x.kind x.cH x.value;have dj:=J gU;clear gU hs au dJ aD;go_enter func68,ntmps68;go_wp2_with fail
 refine qm (aR w) (by kernel_rfl) (by kernel_rfl) (cE).drew ?_;repeat(go_big_quiet_step (first|(go_at_call 107;exact dj.o _)))
 refine gG ?_;intro _ ds;obtain⟨fq,rfl⟩:=ds;go_wp2_with fail
 go_ret;exact⟨rfl,fq.ok⟩
theorem apX {m:Place->Option cG}(aD:vO w aV e8 mb lN calls m)(key:ByteArray)(hk:key.size<=maxLen){x:cG}(au:m ⟨key,cK⟩=some x):
  Calls prog 69 #[bl aV,ai key] w fun e w'=>∃v,e= .returned v∧w'.ownsRow w.heap.size 9 1 v 1 [ai x.value]∧ax w w':=by
 have c2:=aD.U.c2;have aC:=aD.U.lt;have cW:=OQ aD.own (p:=⟨key,cK⟩) hk NM (W:=w) rfl;have hw:k3 m ⟨key,cK⟩=x:=by unfold k3;rw[au];rfl
 rw[hw,au]at cW;simp only[cK,cG.val,Option.isSome_some]at cW;clear aD hw au;generalize dE:w.alloc (.cells #[I x.kind,I x.cH,ai x.value] 132)=bR;have aF:ax w bR:=by rw[<-dE];exact cj _ _
 have bO:=J aF;have ew:=J dE;clear aF dE;go_enter func69,ntmps69;go_wp2_with fail
 rw[ew.o];go_ret;refine⟨_,rfl,?_,bO.o.alloc bO.o.size _⟩;have a:=cC bR (.cells #[ai x.value] 9);have cF:bR.heap.size=w.heap.size+1:=by rw[<-ew.o];simp
 rw[cF]at a;exact⟨rfl,.inr ⟨w.heap.size+1,1,#[ai x.value],rfl,by omega,a,cv,by unfold maxLen;omega,rfl,rfl⟩⟩
theorem apY {m:Place->Option cG}(dJ:s3 w o aE n e8 st saw kept)(aD:vO w aV e8 mb lN calls m)(key:ByteArray)(hk:key.size<=maxLen)(au:m ⟨key,cK⟩=none):
  Calls prog 69 #[bl aV,ai key] w fun e w'=>∃(v:Value) (l:List bF),l.Perm (jq saw st ⟨key,cK⟩)∧l.Pairwise lW∧e= .returned v∧w'.ownsRow w.heap.size 9 1 v (vB st.bh ⟨key,cK⟩ l).length (strs (vB st.bh ⟨key,cK⟩ l))∧ax w w':=by
 have c0:=aD.U.c0;have c2:=aD.U.c2;have aC:=aD.U.lt;have cW:=OQ aD.own (p:=⟨key,cK⟩) hk NM (W:=w) rfl;have hw:k3 m ⟨key,cK⟩=A1:=by unfold k3;rw[au];rfl
 rw[hw,au]at cW;simp only[cK,cG.val,A1,Option.isSome_none]at cW;clear aD hw au;generalize dE:w.alloc (.cells #[I 0,I 0,ai ⟨#[]⟩] 132)=bR;have aF:ax w bR:=by rw[<-dE];exact cj _ _
 have gU:=ao4 (dJ.below aF) key hk;have dj:=J gU;have bO:=J aF;have ew:=J dE;clear aF dE gU dJ;go_enter func69,ntmps69;go_wp2_with fail
 rw[ew.o];refine dj.o.mono ?_;rintro e w2 ⟨v,l,h1,ae,rfl,bd,cS⟩;have bX:=J (⟨h1,ae,bd,cS⟩:_∧_∧_∧_);clear h1 ae bd cS;go_wp2_with fail
 go_ret;exact⟨_,l,bX.o.1,bX.o.2.1,rfl,e3 bX.o.2.2.1 bO.o.size,bO.o.trans (bX.o.2.2.2.mono bO.o.size)⟩
theorem ahn {aI dV:Nat}{m:Place->Option cG}(aD:vO w aV e8 mb lN calls m)(aw:eh w aI 0 (bl aV))(key:ByteArray)(nx:eh w dV 0 (ai key))(hk:key.size<=maxLen)(a:ByteArray)(aU:a.size<=maxLen):
  Calls prog 111 (#[ai a]++ #[bl aI,bl dV]) w (bx (.bool (m ⟨key,a⟩).isSome) fun w'=>ax w w'):=by
 have c2:=aD.U.c2;have aC:=aD.U.lt;have kk:=hU w _ aw;have dU:=hU w _ nx;obtain⟨x,au⟩:∃x,k3 m ⟨key,a⟩=x:=⟨_,rfl⟩;obtain⟨b,hb⟩:∃b,(m ⟨key,a⟩).isSome=b:=⟨_,rfl⟩;have eF:=OQ aD.own (p:=⟨key,a⟩) hk aU (W:=w.drew) rfl;have dY:=OQ aD.own (p:=⟨key,a⟩) hk aU (W:=(w.alloc (.cells #[I 0,I 0,ai ⟨#[]⟩] 132)).drew) (iW _ _ _ aD.own.lt);rw[au,hb]at eF dY;simp only[cG.val]at eF dY;rw[hb];clear aD au hb;go_enter func111,ntmps111;go_wp2_with fail
 go_region;all_goals go_wp2_with fail
 all_goals go_ret
 all_goals exact⟨rfl,((cj _ _)).drew⟩
theorem W7 (l:List ByteArray):l.flatMap strCells=strs l:=by
 induction l with
 |nil=>rfl
 |cons a l ih=>simp[flatMap_cons,ih,strs]
theorem vO.ay {m:Place->Option cG}{S:Nat->Prop}(h:vO w aV e8 mb lN calls m)(t:Touch S w w')(h1:¬S aV)(ae:¬S mb):vO w' aV e8 mb lN calls m:=⟨h.U.move (t.block _ h.U.lt h1),h.own.move (t.block _ h.own.lt ae)⟩
theorem ahr (args:Array Value)(w:World):(callFunc 111 args).run prog w= .ok (.enter 111 args) w:=enters_of func111 (by kernel_rfl) rfl args w
structure PK (cr:World)(mb r lN:Nat)(m:Place->Option cG)(key:ByteArray)(eF:List ByteArray)(v:Value)(wr:World)(left:Place->Bool)(ar:Nat)(acc:List ByteArray):Prop where
 KG:mT wr 129 mb r lN Place.val cG.val m left ar
 own:wr.ownsRow cr.heap.size 9 1 v acc.length (strs acc)
 apart:v.ownBlock≠some r
 once:acc.Nodup
 some_:∀a,a∈acc↔a∈eF∨∃x,m ⟨key,a⟩=some x∧x.kind=2∧left ⟨key,a⟩=false
 sub:∀p,left p=true->(m p).isSome
 ea:acc.length+ar<=eF.length+lN
 cZ:ax cr wr
 low:cr.heap.size<=r
def afe (cr:World)(st:b5)(saw:aW)(key:ByteArray)(m:Place->Option cG)(n:Nat)(v:Value)(wc:World):Prop:=
 ∃pF:List ByteArray,my pF∧(∀a,a∈pF↔st.els key a=true∧jq saw st ⟨key,a⟩≠[])∧pF.length<=n∧wc.ownsRow cr.heap.size 9 1 v (pF.filter fun x=> !(m ⟨key,x⟩).isSome).length (strs (pF.filter fun x=> !(m ⟨key,x⟩).isSome))∧ax cr wc
theorem apz {m:Place->Option cG}(dJ:s3 w o aE n e8 st saw kept)(aD:vO w aV e8 mb lN calls m)(hm:∀p x,m p=some x->p.Ok)(key:ByteArray)(hk:key.size<=maxLen)(hn:n+lN<=900000000):
  Calls prog 70 #[bl aV,.string key] w fun e w'=>∃(v:Value) (l:List ByteArray),e= .returned v∧my l∧(∀a,a∈l↔((st.els key a=true∧jq saw st ⟨key,a⟩≠[])∧m ⟨key,a⟩=none)∨∃x,m ⟨key,a⟩=some x∧x.kind=2)∧l.length<=n+lN∧w'.ownsRow w.heap.size 9 1 v l.length (strs l)∧Below w.heap.size w w':=by
 obtain⟨i0,aq,dC,dM,dK⟩:=info_parts Tryz.CL;have cw:=J (⟨aq,dC,dM,dK⟩:_∧_∧_∧_);clear aq dC dM dK;have Ys:∀key e,st.els key e=true->e.size<=maxLen:=by
  obtain⟨cg,bM,b6,bU,b4,bB,ah,h⟩:=dJ.hR;exact h.s8
 generalize bj:(w.alloc (.cells #[bl aV] 111)).alloc (.cells #[.string key] 9)=W0;have bp:Below w.heap.size w W0:=by rw[<-bj];exact((Below.refl _ _).alloc (Nat.le_refl _) _).alloc (by simp) _
 have dC:W0.heap.size=w.heap.size+2:=by rw[<-bj];simp
 have It:aQ W0 w.heap.size [bl aV] 111:=by rw[<-bj];exact aQ.first w _ _ _
 have tY:aQ W0 (w.heap.size+1) [.string key] 9:=by rw[<-bj];exact aQ.second w _ _ _
 have B_:=dJ.below bp;have yX:=aD.below bp;have sz:=aD.U.lt;have kU:=aD.own.lt;have t0:W0.cell? ⟨w.heap.size,0,none⟩=some (.pointer (some ⟨aV,0,none⟩)):=It.cell 0;have ek:W0.cell? ⟨w.heap.size+1,0,none⟩=some (.string key):=tY.cell 0;have c0:W0.cell? ⟨aV,0,none⟩=some (.pointer (some ⟨e8,0,none⟩)):=yX.U.cell 0;have B4:∀W,Below W0.heap.size W0 W->Calls prog 110 #[.pointer (some ⟨e8,0,none⟩),.string key] W fun e w'=>∃(v:Value) (l:List ByteArray),e= .returned v∧my l∧(∀a,a∈l↔st.els key a=true∧jq saw st ⟨key,a⟩≠[])∧l.length<=n∧w'.ownsRow W0.heap.size 9 1 v l.length (strs l)∧Below W0.heap.size W0 w':=fun W ao=>
  (ao1 (B_.below ao) key hk (by omega)).mono (by
   rintro e w' ⟨v,l,h1,ae,aH,bd,cS,ep⟩;exact⟨v,l,h1,ae,aH,bd,e3 cS ao.size,ao.trans (ep.mono ao.size)⟩)
 have cy:∀(W:World) (v:Value) (l:List ByteArray),Below W0.heap.size W0 W->W.ownsRow W0.heap.size 9 1 v l.length (strs l)->(∀a,a∈l->a.size<=maxLen)->Calls prog 109 #[v,.func (.func 111) #[] #[.pointer (some ⟨w.heap.size,0,none⟩),.pointer (some ⟨w.heap.size+1,0,none⟩)]] W fun e w'=>∃v' dY,e= .returned v'∧dY=(l.filter fun x=> !(m ⟨key,x⟩).isSome)∧w'.ownsRow W0.heap.size 9 1 v' dY.length (strs dY)∧Below W0.heap.size W0 w':=fun W v l ao dd fb=>by
  have nY:∀q,v.ownBlock=some q->W0.heap.size<=q:=fun q ad=>(dd.lt q ad).1
  refine(ag3 W v l (by rw[W7];exact e3 dd (Nat.zero_le _)) 111 #[bl w.heap.size,bl (w.heap.size+1)] (fun x=>(m ⟨key,x⟩).isSome) ahr (fun dP QT d aB=>?_)).mono ?_
  ·have pA:=(yX.below ao).ay QT (fun e=>by have:=nY _ e;omega) (fun e=>by have:=nY _ e;omega)
   have agd:dP.cell? ⟨w.heap.size,0,none⟩=some (bl aV):=((It.below ao).move (QT.block _ (It.below ao).lt (fun e=>by have:=nY _ e;omega))).cell 0;have af_:dP.cell? ⟨w.heap.size+1,0,none⟩=some (.string key):=((tY.below ao).move (QT.block _ (tY.below ao).lt (fun e=>by have:=nY _ e;omega))).cell 0;exact ahn pA agd key af_ hk d (fb d aB)
  ·rintro e w' ⟨v',rfl,h1,ae,aH⟩
   rw[W7]at h1;refine⟨v',_,rfl,rfl,ER h1 (fun q ad=>by rw[ae]at ad;exact nY q ad),?_⟩;exact⟨aH.os.trans ao.os,aH.tape.trans ao.tape,aH.output.trans ao.output,Nat.le_trans ao.size aH.size,fun q ad=>(aH.block q (Nat.lt_of_lt_of_le ad ao.size) (fun e=>by have:=nY q e;omega)).trans (ao.block q ad)⟩
 have bX:=J B4;have bn:=J cy;have zR:=J Ys;have aO:=J (⟨bp,It,tY,yX,hm,dC⟩:_∧_∧_∧_∧_∧_);have di:=J bj;have ir:w.heap.size<W0.heap.size:=by omega
 have atf:w.heap.size+1<W0.heap.size:=by omega
 have as9:aV<W0.heap.size:=by omega
 clear B4 cy Ys dJ aD bp dC It tY B_ yX hm bj;go_enter func70,ntmps70;go_upto_region 1 with(fail);rw[di.o];go_cut[5] (fun v wc=>afe W0 st saw key m n v wc)
 case first=>
  go_region_with(first|(go_at_call 110;refine(bX.o _ (by exact(Below.refl _ _).drew)).mono ?_;rintro e an ⟨v1,eF,rfl,h1,ae,aH,bd,cS⟩;obtain⟨arv,vX,rfl,-,-,-⟩:=Row.shape (e3 bd (Nat.zero_le _));have H1:=J (⟨h1,ae,aH,bd,cS⟩:_∧_∧_∧_∧_);clear h1 ae aH bd cS)|(go_at_call 109;refine(bn.o an _ eF H1.o.2.2.2.2 H1.o.2.2.2.1 (fun a aU=>zR.o key a ((H1.o.2.1 a).1 aU).1)).mono ?_;rintro e w2 ⟨v2,dY,rfl,gV,h1,ae⟩;obtain⟨arw,lV,rfl,-,-,-⟩:=Row.shape (e3 h1 (Nat.zero_le _));have bu:=J (⟨h1,ae,gV⟩:_∧_∧_);clear h1 ae gV))
  all_goals go_wp2_with fail
  all_goals go_meet
  all_goals exact⟨eF,H1.o.1,H1.o.2.1,H1.o.2.2.1,by rw[<-bu.o.2.2];exact bu.o.1,bu.o.2.1⟩
 case rest=>
  obtain⟨pF,Zm,ik,hlen,dd,kA⟩:=hcut;have h7:=aO.o.2.2.2.1.below kA;have VV:=aO.o.2.1.below kA;have af9:=aO.o.2.2.1.below kA;obtain⟨bN,F3,Ng,Eu,Ee,xN,wD⟩:=h7.own.range rV (t:=120) underlying120;obtain⟨eF,gJ⟩:∃eF,(pF.filter fun x=> !(m ⟨key,x⟩).isSome)=eF:=⟨_,rfl⟩;rw[gJ]at dd;have YW:eF.length<=n:=by rw[<-gJ];exact Nat.le_trans (length_filter_le _ _) hlen
  have YX:∀a,a∈eF↔(st.els key a=true∧jq saw st ⟨key,a⟩≠[])∧m ⟨key,a⟩=none:=fun a=>by
   rw[<-gJ,mem_filter,ik a];cases m ⟨key,a⟩<;>simp
  have YY:eF.Nodup:=by
   rw[<-gJ];refine List.Nodup.sublist filter_sublist ?_;refine List.Pairwise.imp (fun{a b} h e=>?_) Zm;subst e;rw[C4]at h;cases h
  have b0:Below W0.heap.size W0 bN:=kA.grown xN kA.size (fun j af=>by cases af);have Cy:PK W0 mb wc.heap.size lN m key eF u5 bN (fun p=>(m p).isSome) F3 eF:=by
   refine⟨Eu,ER (Row.ay (e3 dd (Nat.zero_le _)) (Touch.oi xN) (fun j _ e=>by cases e)) (fun j af=>(dd.lt j af).1),fun e=>?_,YY,fun a=>?_,fun p aw=>aw,by omega,b0,kA.size⟩
   ·have:=(dd.lt _ e).2;omega
   ·constructor
    ·exact Or.inl
    ·rintro (c|⟨x,c1,-,c3⟩)
     ·exact c
     ·rw[c1]at c3;cases c3
  have t1:wc.cell? ⟨w.heap.size,0,none⟩=some (.pointer (some ⟨aV,0,none⟩)):=VV.cell 0;have dx:wc.cell? ⟨aV,2,none⟩=some (.map (some mb)):=h7.U.cell 2;have Fy:=J (⟨Cy,YX,YW⟩:_∧_∧_);clear Zm ik hlen dd kA h7 VV af9 Eu Ee xN wD gJ YY YW YX b0 Cy t0 ek c0 bX bn;go_wp2_with fail
  go_loopw[5] (fun v wr=>∃left ar acc,PK W0 mb wc.heap.size lN m key eF v wr left ar acc) (fun _ wr=>wr.rangeLeft mb wc.heap.size)
  case atStart=>exact⟨_,_,_,Fy.o.1⟩
  case round=>
   obtain⟨left,ar,acc,bI⟩:=hrel;have hF:=bI.KG.left_eq;clear t1 dx Ng;rcases bI.KG.next rV zn 0 with⟨aS,aC,hd⟩|⟨p,y,cc,kz,dU,n0,jJ,hd,rJ,vl,kS,fb,l3⟩
   ·have gn:∀a x,m ⟨key,a⟩=some x->left ⟨key,a⟩=false:=fun a x au=>by
     obtain⟨cQ,dU⟩:=(aO.o.2.2.2.2.1 _ _ au).lit;exact aC _ cQ dU
    have dn:=J (⟨bI,gn⟩:_∧_);have qe:=TP _ _ _ _ bI.own (by have:=bI.ea;have:=Fy.o.2.2;omega) bI.once;have Dy:=J qe;clear bI gn aC qe hF;go_wp2_with fail
    refine Dy.o.mono ?_;rintro e w5 ⟨rfl,ca,jd,qd,uq,M6⟩;have bX:=J (⟨jd,qd,uq,M6⟩:_∧_∧_∧_);clear jd qd uq M6;go_wp2_with fail
    go_ret;obtain⟨jd,qd,uq,M6⟩:=bX.o;obtain⟨bI,gn⟩:=dn.o;have c7:Below W0.heap.size W0 w5:=bI.cZ.grown M6 bI.cZ.size (fun j af=>(bI.own.lt j af).1);refine⟨_,ca,rfl,qd,fun a=>?_,by rw[jd.length_eq];have:=bI.ea;have:=Fy.o.2.2;omega,e3 uq aO.o.1.size,aO.o.1.trans (c7.mono aO.o.1.size)⟩;rw[jd.mem_iff,bI.some_ a,Fy.o.2.1 a];constructor
    ·rintro (c|⟨x,c1,c2,c3⟩)
     ·exact Or.inl c
     ·exact Or.inr ⟨x,c1,c2⟩
    ·rintro (c|⟨x,c1,c2⟩)
     ·exact Or.inl c
     ·exact Or.inr ⟨x,c1,c2,gn a x c1⟩
   ·have hX:Below W0.heap.size W0 cc:=bI.cZ.grown kS bI.cZ.size (fun j af=>by injection af with af;have:=bI.low;omega)
    have Gz:cc.ownsRow W0.heap.size 9 1 u5 acc.length (strs acc):=ER (Row.ay (e3 bI.own (Nat.zero_le _)) (Touch.oi kS) (fun j af e=>bI.apart (af.trans e))) (fun j af=>(bI.own.lt j af).1);obtain⟨a_,bq⟩:=p;obtain⟨Bf,yl,zI⟩:=y;simp only[Place.val,cG.val]at hd l3;generalize tb:(cc.alloc (.cells #[.string a_,.string bq] 129)).alloc (.cells #[.int .i64 Bf,.int .i64 yl,.string zI] 132)=fY;have I5:Below cc.heap.size cc fY:=by rw[<-tb];exact((Below.refl _ _).alloc (Nat.le_refl _) _).alloc (by simp) _
    have z5:fY.heap.size=cc.heap.size+2:=by rw[<-tb];simp
    have c7:Below W0.heap.size W0 fY:=hX.trans (I5.mono hX.size);have L3:aQ fY cc.heap.size [.string a_,.string bq] 129:=by rw[<-tb];exact aQ.first cc _ _ _
    have VW:aQ fY (cc.heap.size+1) [.int .i64 Bf,.int .i64 yl,.string zI] 132:=by rw[<-tb];exact aQ.second cc _ _ _
    have AR:=rJ.move (w':=fY) (I5.block _ rJ.map.lt) (I5.block _ rJ.lt);have G3:=jZ Gz I5;have nX:∀(eS:World),mT eS 129 mb wc.heap.size lN Place.val cG.val m (fun cf=>left cf&& !decide (cf=⟨a_,bq⟩)) kz->eS.rangeLeft mb wc.heap.size<wr.rangeLeft mb wc.heap.size:=fun eS ep=>by rw[ep.left_eq,hF];exact vl
    have dc:fY.cell? ⟨cc.heap.size,0,none⟩=some (.string a_):=L3.cell 0;have bT:fY.cell? ⟨cc.heap.size,1,none⟩=some (.string bq):=L3.cell 1;have c6:fY.cell? ⟨cc.heap.size+1,0,none⟩=some (.int .i64 Bf):=VW.cell 0;have e0:fY.cell? ⟨w.heap.size+1,0,none⟩=some (.string key):=(aO.o.2.2.1.below c7).cell 0;have v1:cc.heap.size<fY.heap.size:=by omega
    have v2:cc.heap.size+1<fY.heap.size:=by omega
    have v3:w.heap.size+1<fY.heap.size:=(aO.o.2.2.1.below c7).lt;have asS:mb<W0.heap.size:=aO.o.2.2.2.1.own.lt;have bc:=J (⟨bI,n0,jJ,AR,G3,c7,nX,vl⟩:_∧_∧_∧_∧_∧_∧_∧_);have Pw:=J tb;clear bI hF n0 jJ rJ vl kS fb dU hX Gz tb I5 z5 c7 L3 VW AR G3 nX;by_cases Jt:a_=key∧Bf=2
    ·obtain⟨rfl,rfl⟩:=Jt
     have aP:(a_.toList==a_.toList)=true:=yb.2 rfl;go_upto_region 5 with(fail);rw[Pw.o];have aiX:acc.length+1<=900000000:=by have:=bc.o.1.ea;have:=bc.o.2.2.2.2.2.2.2;have:=Fy.o.2.2;omega
     have RT:W0.heap.size<=fY.heap.size:=bc.o.2.2.2.2.2.1.size;clear hd l3;go_wp2_with(at_builtin;refine wpList_append_own_at _ rfl _ _ 41 rfl W0.heap.size 9 i0 (.string ⟨#[]⟩) 1 16 underlying41 cw.o.1 cw.o.2.1 cw.o.2.2.1 cw.o.2.2.2 rfl (by decide) _ _ _ rfl (bc.o.2.2.2.2.1.alloc _) ⟨fY.heap.size,0,none⟩ 1 1 [.string bq] rfl rfl (cell_one_new _ _ _) (by intro u hu;simp at hu;subst hu;rfl) (by unfold maxLen;omega) (by omega) (by simp;omega) ?_;intro v6 eS xV oE aj8 D9)
     obtain⟨bI,n0,jJ,AR,G3,c7,nX,vl⟩:=bc.o;have YJ:Touch (fun k=>some k=u5.ownBlock) fY eS:=((Touch.refl _ fY).alloc (.cells #[.string bq] 9)).then ⟨oE.os,oE.tape,oE.output,oE.size,fun k hk hn=>oE.block k hk hn⟩;have nY:∀k,u5.ownBlock=some k->W0.heap.size<=k:=fun k hk=>(G3.lt k hk).1
     have Zl:=AR.move (w':=eS) (YJ.block _ AR.map.lt (fun e=>by have:=nY _ e.symm;omega)) (YJ.block _ AR.lt (fun e=>bI.apart e.symm));have dT:Below W0.heap.size W0 eS:=(c7.alloc RT _).grown oE (by simp;omega) (fun j af=>nY j af);have as1:=AR.lt;refine⟨⟨_,kz,acc++[bq],⟨Zl,by rw[Hg];simpa using xV,fun e=>?_,?_,fun a=>?_,fun p aw=>bI.sub p (by simp only[Bool.and_eq_true]at aw;exact aw.1),by rw[length_append];have:=bI.ea;simp;omega,dT,bI.low⟩⟩,nX _ Zl⟩
     ·rcases D9 with c|c
      ·rw[c]at e;exact bI.apart e
      ·rw[c]at e
       injection e with e
       simp at e;omega
     ·rw[nodup_append]
      refine⟨bI.once,by simp,fun x au z cF e=>?_⟩;rw[mem_singleton]at cF;subst cF;subst e;rcases(bI.some_ x).1 au with c|⟨x',-,-,c⟩
      ·have:=((Fy.o.2.1 x).1 c).2;rw[jJ]at this;cases this
      ·rw[n0]at c;cases c
     ·rw[mem_append,mem_singleton,bI.some_ a]
      by_cases c:a=bq
      ·subst c;simp[jJ]
      ·simp[c]
    ·have eV:∀a,(∃x,m ⟨key,a⟩=some x∧x.kind=2∧left ⟨key,a⟩=false)↔∃x,m ⟨key,a⟩=some x∧x.kind=2∧(left ⟨key,a⟩&& !decide ((⟨key,a⟩:Place)=⟨a_,bq⟩))=false:=fun a=>by
      constructor
      ·rintro ⟨x,c1,c2,c3⟩;exact⟨x,c1,c2,by rw[c3];rfl⟩
      ·rintro ⟨x,c1,c2,c3⟩
       refine⟨x,c1,c2,?_⟩;by_cases c:(⟨key,a⟩:Place)=⟨a_,bq⟩
       ·rw[c,bc.o.2.2.1]at c1
        cases c1;have:key=a_:=by injection c
        exact absurd ⟨this.symm,c2⟩ Jt
       ·simpa[c]using c3
     have vK:=J eV;clear eV;have Gp:∃al8 agG afl,PK W0 mb wc.heap.size lN m key eF u5 fY al8 agG afl:=by
      obtain⟨bI,n0,jJ,AR,G3,c7,nX,vl⟩:=bc.o;exact⟨_,kz,acc,⟨AR,G3,bI.apart,bI.once,fun a=>by rw[bI.some_ a,vK.o a],fun p aw=>bI.sub p (by simp only[Bool.and_eq_true]at aw;exact aw.1),by have:=bI.ea;omega,c7,bI.low⟩⟩
     have Yt:=bc.o.2.2.2.2.2.2.1 fY bc.o.2.2.2.1;have UJ:=J (⟨Gp,Yt⟩:_∧_);clear Gp Yt;by_cases eC:a_=key
     ·subst eC
      have ath:(Bf==2)=false:=beq_false_of_ne (fun e=>Jt ⟨rfl,e⟩);have aP:(a_.toList==a_.toList)=true:=yb.2 rfl;go_upto_region 5 with(fail);rw[Pw.o];clear hd l3;go_wp2_with fail
      exact UJ.o
     ·have aP:(a_.toList==key.toList)=false:=A8.2 eC
      go_upto_region 5 with(fail);rw[Pw.o];clear hd l3;go_wp2_with fail
      exact UJ.o
end Go.Proofs.YtiplgdkpnhamaaaGreatDoor
