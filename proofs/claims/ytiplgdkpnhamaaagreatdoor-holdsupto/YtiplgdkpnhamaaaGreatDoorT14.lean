import Derived.Test.YtiplgdkpnhamaaaGreatDoorT13
import Derived.Test.YtiplgdkpnhamaaaGreatDoorT08
import Derived.Shelf.SlSortCmp.WholeK
import Derived.Test.YtiplgdkpnhamaaaGreatDoorProg
import Derived.Shelf.SlSortCmp.NoneTotal
set_option maxHeartbeats 8000000
set_option maxRecDepth 100000
namespace Go.Proofs
open Go.Shelf
def Tryz.acv:Go.Shelf.Ren:=⟨fun|6=>181|15=>155|14=>208|28=>192|29=>193|20=>226|21=>227|22=>228|23=>229|24=>230|25=>231|26=>232|27=>233|46=>258|47=>211|48=>212|49=>259|50=>260|57=>270|n=>n,fun|22=>241|24=>62|25=>273|3=>3|39=>247|0=>0|53=>284|55=>286|4=>4|46=>276|45=>275|50=>281|5=>5|9=>9|66=>304|70=>308|76=>321|77=>322|n=>n,fun|n=>n⟩
theorem Tryz.acu:Go.Proofs.SlLaysF0.n6 prog Tryz.acv:={
 mixed:=by kernel_rfl
 f6:=⟨f181.name,by decide,func181.trans (congrArg some (by kernel_rfl))⟩
 f14:=⟨f208.name,by decide,func208.trans (congrArg some (by kernel_rfl))⟩
 f15:=func155.trans (congrArg some (by kernel_rfl))
 f20:=⟨f226.name,by decide,func226.trans (congrArg some (by kernel_rfl))⟩
 f21:=⟨f227.name,by decide,func227.trans (congrArg some (by kernel_rfl))⟩
 f22:=⟨f228.name,by decide,func228.trans (congrArg some (by kernel_rfl))⟩
 f23:=⟨f229.name,by decide,func229.trans (congrArg some (by kernel_rfl))⟩
 f24:=⟨f230.name,by decide,func230.trans (congrArg some (by kernel_rfl))⟩
 f25:=⟨f231.name,by decide,func231.trans (congrArg some (by kernel_rfl))⟩
 f26:=⟨f232.name,by decide,func232.trans (congrArg some (by kernel_rfl))⟩
 f27:=⟨f233.name,by decide,func233.trans (congrArg some (by kernel_rfl))⟩
 f28:=func192.trans (congrArg some (by kernel_rfl))
 f29:=func193.trans (congrArg some (by kernel_rfl))
 f46:=⟨f258.name,by decide,func258.trans (congrArg some (by kernel_rfl))⟩
 f47:=func211.trans (congrArg some (by kernel_rfl))
 f48:=func212.trans (congrArg some (by kernel_rfl))
 f49:=⟨f259.name,by decide,func259.trans (congrArg some (by kernel_rfl))⟩
 f50:=⟨f260.name,by decide,func260.trans (congrArg some (by kernel_rfl))⟩
 f57:=⟨f270.name,by decide,func270.trans (congrArg some (by kernel_rfl))⟩
 t0:=underlying0
 a0:=Tryz.isAgg0
 z0:=Tryz.sizeOf0
 v0:=Tryz.zeroValue0
 t3:=underlying3
 a3:=Tryz.isAgg3
 z3:=Tryz.sizeOf3
 v3:=Tryz.zeroValue3
 t4:=underlying4
 a4:=Tryz.isAgg4
 z4:=Tryz.sizeOf4
 v4:=Tryz.zeroValue4
 t5:=underlying5
 a5:=Tryz.isAgg5
 z5:=Tryz.sizeOf5
 v5:=Tryz.zeroValue5
 t9:=underlying9
 a9:=Tryz.isAgg9
 z9:=Tryz.sizeOf9
 v9:=Tryz.zeroValue9
 t22:=underlying241
 a22:=Tryz.isAgg241
 z22:=Tryz.sizeOf241
 v22:=Tryz.zeroValue241
 t25:=underlying273
 a25:=Tryz.isAgg273
 z25:=Tryz.sizeOf273
 v25:=Tryz.zeroValue273
 t39:=underlying247
 a39:=Tryz.isAgg247
 z39:=Tryz.sizeOf247
 v39:=Tryz.zeroValue247
 t45:=underlying275
 a45:=Tryz.isAgg275
 z45:=Tryz.sizeOf275
 v45:=Tryz.zeroValue275
 t46:=underlying276
 a46:=Tryz.isAgg276
 z46:=Tryz.sizeOf276
 v46:=Tryz.zeroValue276
 t50:=underlying281
 a50:=Tryz.isAgg281
 z50:=Tryz.sizeOf281
 v50:=Tryz.zeroValue281
 t53:=underlying284
 a53:=Tryz.isAgg284
 z53:=Tryz.sizeOf284
 v53:=Tryz.zeroValue284
 t55:=underlying286
 a55:=Tryz.isAgg286
 z55:=Tryz.sizeOf286
 v55:=Tryz.zeroValue286
 t66:=underlying304
 a66:=Tryz.isAgg304
 z66:=Tryz.sizeOf304
 v66:=Tryz.zeroValue304
 t70:=underlying308
 a70:=Tryz.isAgg308
 z70:=Tryz.sizeOf308
 v70:=Tryz.zeroValue308
 t76:=underlying321
 a76:=Tryz.isAgg321
 z76:=Tryz.sizeOf321
 v76:=Tryz.zeroValue321
 t77:=underlying322
 a77:=Tryz.isAgg322
 z77:=Tryz.sizeOf322
 v77:=Tryz.zeroValue322}
def Tryz.acx:Go.Shelf.Ren:=⟨fun|6=>200|15=>155|14=>223|28=>192|29=>193|20=>248|21=>249|22=>250|23=>251|24=>252|25=>253|26=>254|27=>255|46=>267|47=>211|48=>212|49=>268|50=>269|57=>275|n=>n,fun|22=>250|24=>129|25=>255|3=>3|39=>247|0=>0|53=>284|55=>286|4=>4|46=>276|45=>275|50=>281|5=>5|9=>9|66=>304|70=>308|76=>321|77=>322|n=>n,fun|n=>n⟩
theorem Tryz.acw:Go.Proofs.SlLaysF0.n6 prog Tryz.acx:={
 mixed:=by kernel_rfl
 f6:=⟨f200.name,by decide,func200.trans (congrArg some (by kernel_rfl))⟩
 f14:=⟨f223.name,by decide,func223.trans (congrArg some (by kernel_rfl))⟩
 f15:=func155.trans (congrArg some (by kernel_rfl))
 f20:=⟨f248.name,by decide,func248.trans (congrArg some (by kernel_rfl))⟩
 f21:=⟨f249.name,by decide,func249.trans (congrArg some (by kernel_rfl))⟩
 f22:=⟨f250.name,by decide,func250.trans (congrArg some (by kernel_rfl))⟩
 f23:=⟨f251.name,by decide,func251.trans (congrArg some (by kernel_rfl))⟩
 f24:=⟨f252.name,by decide,func252.trans (congrArg some (by kernel_rfl))⟩
 f25:=⟨f253.name,by decide,func253.trans (congrArg some (by kernel_rfl))⟩
 f26:=⟨f254.name,by decide,func254.trans (congrArg some (by kernel_rfl))⟩
 f27:=⟨f255.name,by decide,func255.trans (congrArg some (by kernel_rfl))⟩
 f28:=func192.trans (congrArg some (by kernel_rfl))
 f29:=func193.trans (congrArg some (by kernel_rfl))
 f46:=⟨f267.name,by decide,func267.trans (congrArg some (by kernel_rfl))⟩
 f47:=func211.trans (congrArg some (by kernel_rfl))
 f48:=func212.trans (congrArg some (by kernel_rfl))
 f49:=⟨f268.name,by decide,func268.trans (congrArg some (by kernel_rfl))⟩
 f50:=⟨f269.name,by decide,func269.trans (congrArg some (by kernel_rfl))⟩
 f57:=⟨f275.name,by decide,func275.trans (congrArg some (by kernel_rfl))⟩
 t0:=underlying0
 a0:=Tryz.isAgg0
 z0:=Tryz.sizeOf0
 v0:=Tryz.zeroValue0
 t3:=underlying3
 a3:=Tryz.isAgg3
 z3:=Tryz.sizeOf3
 v3:=Tryz.zeroValue3
 t4:=underlying4
 a4:=Tryz.isAgg4
 z4:=Tryz.sizeOf4
 v4:=Tryz.zeroValue4
 t5:=underlying5
 a5:=Tryz.isAgg5
 z5:=Tryz.sizeOf5
 v5:=Tryz.zeroValue5
 t9:=underlying9
 a9:=Tryz.isAgg9
 z9:=Tryz.sizeOf9
 v9:=Tryz.zeroValue9
 t22:=underlying250
 a22:=Tryz.isAgg250
 z22:=Tryz.sizeOf250
 v22:=Tryz.zeroValue250
 t25:=underlying255
 a25:=Tryz.isAgg255
 z25:=Tryz.sizeOf255
 v25:=Tryz.zeroValue255
 t39:=underlying247
 a39:=Tryz.isAgg247
 z39:=Tryz.sizeOf247
 v39:=Tryz.zeroValue247
 t45:=underlying275
 a45:=Tryz.isAgg275
 z45:=Tryz.sizeOf275
 v45:=Tryz.zeroValue275
 t46:=underlying276
 a46:=Tryz.isAgg276
 z46:=Tryz.sizeOf276
 v46:=Tryz.zeroValue276
 t50:=underlying281
 a50:=Tryz.isAgg281
 z50:=Tryz.sizeOf281
 v50:=Tryz.zeroValue281
 t53:=underlying284
 a53:=Tryz.isAgg284
 z53:=Tryz.sizeOf284
 v53:=Tryz.zeroValue284
 t55:=underlying286
 a55:=Tryz.isAgg286
 z55:=Tryz.sizeOf286
 v55:=Tryz.zeroValue286
 t66:=underlying304
 a66:=Tryz.isAgg304
 z66:=Tryz.sizeOf304
 v66:=Tryz.zeroValue304
 t70:=underlying308
 a70:=Tryz.isAgg308
 z70:=Tryz.sizeOf308
 v70:=Tryz.zeroValue308
 t76:=underlying321
 a76:=Tryz.isAgg321
 z76:=Tryz.sizeOf321
 v76:=Tryz.zeroValue321
 t77:=underlying322
 a77:=Tryz.isAgg322
 z77:=Tryz.sizeOf322
 v77:=Tryz.zeroValue322}
end Go.Proofs
namespace Go.Proofs.YtiplgdkpnhamaaaGreatDoor
open Go.Proofs.Tryz List
open Go.RowKit Go.Sort
variable {F:Array Value}{base cap m size:Nat}{l:List bF}{p:Place}{xs:List Value}
section
variable {w:World}{g n:Nat}{os:Array Obj}{cur:Array Value}{e:TypeId}{W8:Nat×Nat}
theorem ajb (F:Array Value)(hb:w.heap[g]?=some (.cells cur e W8)):(grow (putRow id (Sort.ahead w n) g 0 F) os).heap[g]?=some (.cells (putCells id 0 F cur) e W8):=by
 have aM:g<w.heap.size:=(w6.1 hb).1;rw[heap_grow_old _ _ (by simpa using aM)];simp[putRow,mapBlock,Sort.ahead,Hu,hb,onCells]
theorem Xm (F:Array Value):w.grownBy (grow (putRow id (Sort.ahead w n) g 0 F) os) (some g):=by
 refine⟨rfl,rfl,rfl,by simp,fun k hk bS=>?_⟩;rw[heap_grow_old _ _ (by simpa using hk)];have:g≠k:=fun e=>bS (by rw[e])
 simp[putRow,mapBlock,Sort.ahead,Hu,this]
theorem apw (F:Array Value)(h:F.size<=cur.size):(putCells id 0 F cur).toList.take F.size=F.toList:=by
 apply ext_getElem?;intro j;by_cases af:j<F.size
 ·rw[getElem?_take_of_lt af,Array.getElem?_toList]
  simp[putCells,af,show j<cur.size by omega]
 ·rw[getElem?_take_eq_none (by omega),yr (by simp;omega)]
theorem abo (h:w.ownsRow base e size (bo g m cap) m xs)(B5:F.size=m*size):
  (grow (putRow id (Sort.ahead w n) g 0 F) os).ownsRow base e size (bo g m cap) m F.toList:=by
 rcases h.2 with⟨e5,-⟩|⟨oS,F0,cur,e5,hb,aM,Gy,vd,te,RW⟩
 ·cases e5
 ·cases e5
  refine⟨by simpa using B5,.inr ⟨g,cap,_,rfl,hb,ajb F aM,Gy,vd,by simp[putCells,te],?_⟩⟩;rw[<-B5];exact apw F (by rw[B5,te];exact Hy _ Gy)
theorem holds_row (h:w.ownsRow base e size (bo g m cap) m F.toList):Holds id w g 0 F:=by
 intro j af;have aC:F.size=m*size:=by have:=h.1;simpa using this
 refine⟨?_,by rw[vF];exact World.ownsRow.frozenAt h j⟩;rw[vF,Fe h j (by omega)];simp[af]
end
instance:Inhabited bF:=⟨⟨0,0⟩⟩
theorem W5 (l:List bF):flatK bF.cells 2 l.toArray=(l.flatMap bF.cells).toArray:=by
 apply K7;intro t;have hlen:=Ap bF.cells 2 (fun _=>rfl) l;by_cases al:t<l.length*2
 ·have h1:t/2<l.length:=by omega
  have aM:=hC bF.cells 2 (fun _=>rfl) l (t/2) (t%2) h1 (by omega);rw[show t/2*2+t%2=t by omega]at aM;rw[show(l.flatMap bF.cells).toArray[t]?=(l.flatMap bF.cells)[t]? by simp,aM];have:(flatK bF.cells 2 l.toArray:Array Value)[t]?=some (flatK bF.cells 2 l.toArray)[t]! :=by
   rw[yv _ t (by simpa using al)];simp[al]
  rw[this,get_flatK _ _ _ _ (by simpa using al)];have aP:l.toArray[t/2]! =l[t/2]:=by rw[yv _ _ (by simpa using h1)];simp
  rw[aP];have hm:t%2<(bF.cells l[t/2]).length:=by show t%2<2;omega
  rw[yv (bF.cells l[t/2]) (t%2) hm,hg hm]
 ·rw[Array.getElem?_eq_none (by simp;omega),show(l.flatMap bF.cells).toArray[t]?=(l.flatMap bF.cells)[t]? by simp,yr (by rw[hlen];omega)]
instance (a b:bF):Decidable (lW a b):=by unfold lW;infer_instance
theorem Iz (a b:bF):ltOf yP a b=decide (lW a b):=by
 unfold ltOf yP CT Af;by_cases h:a.rep<b.rep∨a.rep=b.rep∧a.seq<b.seq
 ·rw[yu (p:=lW a b) h,mo]
  split<;>split<;>omega
 ·rw[vG (p:=lW a b) h,Fo]
  split<;>split<;>omega
theorem apt:SWO (ltOf yP)where
 irrefl x:=by rw[Iz];simp[Mk]
 trans x y z h1 ae:=by
  rw[Iz,mo]at*;exact Ws h1 ae
 ntrans x y z h1 ae:=by
  rw[Iz,Fo]at*;unfold lW at*;omega
theorem ahs (args:Array Value)(w:World):(callFunc 182 args).run prog w= .ok (.enter 182 args) w:=enters_of func182 (by kernel_rfl) rfl args w
theorem agE (U off size:Nat)(w:World):CmpLays prog 182 #[] bF.cells 2 yP U off size w:=fun _ _ _ _ x y=>ZZ x y _
theorem ao6 (w:World)(g cap:Nat)(l:List bF)(bf:Row w 62 2 (bo g l.length cap) l.length (l.flatMap bF.cells))(aC:l.length<=1000000000)(ho:l.Nodup):
  Calls prog 181 #[bo g l.length cap,.func (.func 182) #[] #[]] w fun e w'=>e= .returned (.tuple #[])∧
   ∃ca:List bF,ca.Perm l∧ca.Pairwise lW∧Row w' 62 2 (bo g l.length cap) l.length (ca.flatMap bF.cells)∧w.grownBy w' (some g):=by
 have hH:HoldsK bF.cells 2 w g 0 l.toArray:=by
  unfold HoldsK;rw[W5];exact holds_row (by simpa using bf)
 have fW:=bf.lt rfl;have Ef:=AnyQ.slices_SortFunc Tryz.acu 2 Tryz.isAgg62 Tryz.sizeOf62 bF.cells (fun _=>rfl) (fun x v av=>by simp[bF.cells]at av;rcases av with rfl|rfl<;>rfl) yP apt 182 #[] g 0 cap l.toArray w ahs (agE g 0 _ w) hH fW (by simp;omega);change Calls prog 181 _ _ _ at Ef;rw[Bn]at Ef;refine Ef.mono ?_;rintro e w' ⟨rfl,d',m,os,aw,hs,rfl⟩;obtain⟨dk,-,eL⟩:=aw;have fb:d'.size=l.length:=by simpa using dk
 have wz:d'.toList.Perm l:=by
  have aP:d'.extract 0 l.length=d':=by rw[<-fb];simp
  have ba:l.toArray.extract 0 l.length=l.toArray:=by
   have:l.length=l.toArray.size:=by simp
   rw[this];simp
  rw[aP,ba]at eL;simpa using eL
 have Ep:=wz.nodup_iff.2 ho;refine⟨rfl,d'.toList,wz,?_,?_,?_⟩
 ·rw[vD]
  intro i j aq af l6;have qS:i<d'.size:=by simpa using aq
  have mF:j<d'.size:=by simpa using af
  have a:=hs i j ch l6 (by omega);rw[Iz,Fo,yv d' j mF,yv d' i qS]at a;have bS:d'[i]≠d'[j]:=fun e=>by
   have:i=j:=(getElem_inj (xs:=d'.toList) (h₀:=aq) (h₁:=af) Ep).1 (by rw[Bk,Bk];exact e);omega
  have Za:¬(d'[i].rep=d'[j].rep∧d'[i].seq=d'[j].seq):=fun c=>bS (by
   cases h1:d'[i];cases ae:d'[j];rw[h1,ae]at c;simp at c;simp[c])
  show lW d'.toList[i] d'.toList[j]
  rw[Bk,Bk];unfold lW at*;omega
 ·have wq:=W5 d'.toList
  rw[Array.toArray_toList]at wq;unfold sortWorldK putRowK;rw[wq];have:=abo (n:=m) (os:=os) (F:=(d'.toList.flatMap bF.cells).toArray) bf (by rw[Bn,Ap bF.cells 2 (fun _=>rfl)];simp[fb]);simpa using this
 ·unfold sortWorldK putRowK
  exact Xm _
theorem ER {w:World}{b:Nat}{e:TypeId}{v:Value}{n:Nat}(h:w.ownsRow 0 e size v n xs)(hb:∀k,v.ownBlock=some k->b<=k):w.ownsRow b e size v n xs:=by
 refine⟨h.1,?_⟩;rcases h.2 with hn|⟨g,cap,cur,rfl,aS,rest⟩
 ·exact .inl hn
 ·exact .inr ⟨g,cap,cur,rfl,hb g rfl,rest⟩
theorem ao7 (w:World)(base:Nat)(v:Value)(l:List bF)(bf:w.ownsRow base 62 2 v l.length (l.flatMap bF.cells))(aC:l.length<=1000000000)(ho:l.Nodup):
  Calls prog 181 #[v,.func (.func 182) #[] #[]] w fun e w'=>e= .returned (.tuple #[])∧
   ∃ca:List bF,ca.Perm l∧ca.Pairwise lW∧w'.ownsRow base 62 2 v ca.length (ca.flatMap bF.cells)∧w.grownBy w' v.ownBlock:=by
 rcases Nat.eq_zero_or_pos l.length with cF|aw
 ·have wy:l=[]:=Hv.1 cF
  subst wy;obtain⟨cA,cap,rfl,-⟩:=Row.shape (e3 bf ch);have a:=AnyF.slices_SortFunc_none (P:=prog) (ρ:=Tryz.acv) {Tryz.acu with} cA cap (.func (.func 182) #[] #[]) w;change Calls prog 181 _ _ _ at a;refine a.mono ?_;rintro e w' ⟨rfl,rfl⟩;exact⟨rfl,[],List.Perm.refl _,List.Pairwise.nil,bf,⟨rfl,rfl,rfl,cv,fun _ _ _=>rfl⟩⟩
 ·have ur:=e3 bf ch
  obtain⟨g,cap,rfl,-⟩:=Row.pos ur aw;refine(ao6 w g cap l ur aC ho).mono ?_;rintro e w' ⟨rfl,ca,h1,ae,aH,bd⟩;refine⟨rfl,ca,h1,ae,?_,bd⟩;rw[h1.length_eq];exact ER aH (fun k hk=>(bf.lt k hk).1)
theorem apI {w:World}{o:Nat->Own}{aE n e8:Nat}{st:b5}{saw:aW}{kept:Value}(ez:fR w o aE n st)(fa:aQ w e8 [.pointer (some (aa aE 0)),I saw.a,I saw.b,I saw.c,I saw.d,I saw.e,kept] 186)(p:Place)(aw:p.Ok)(fK:∀d,d∈st.came p->(⟨p,d⟩:cn).Ok)
  (hw:∀x v,st.bh x=some v->0<=v.fL.rep∧v.fL.rep<5)(hlen:(st.came p).length<=1000000000)(ho:(st.came p).Nodup):
  Calls prog 152 #[bl e8,p.val] w fun e w'=>∃(v:Value) (l:List bF),e= .returned v∧l.Perm (jq saw st p)∧l.Pairwise lW∧w'.ownsRow w.heap.size 62 2 v l.length (l.flatMap bF.cells)∧ax w w':=by
 obtain⟨cg,bM,b6,bU,b4,bB,ah,h⟩:=ez;obtain⟨i0,aq,dC,dM,dK⟩:=iV Tryz.ZV;obtain⟨a_,bq⟩:=p;simp only[Place.val]at*;generalize bj:w.alloc (.cells #[ai a_,ai bq] 129)=W0;have bp:ax w W0:=by rw[<-bj];exact cj _ _
 have gT:aQ W0 w.heap.size [ai a_,ai bq] 129:=by rw[<-bj];exact cC w _
 have aS:=h.below bp;have QR:=fa.below bp;obtain⟨l,kC⟩:∃l,st.came ⟨a_,bq⟩=l:=⟨_,rfl⟩;have bf:=aS.rowAt ⟨a_,bq⟩;have tq:jq saw st ⟨a_,bq⟩=l.filter fun d=>mK saw st.bh ⟨⟨a_,bq⟩,d⟩:=by unfold jq;rw[kC]
 rw[kC]at bf fK hlen ho;have cW:∀f:dO (aR W0),(Instr.lookup 179 (.map (some bM)) (.agg #[ai a_,ai bq]) false).run prog f.w= .ok (rB b4 ⟨a_,bq⟩) f.w:=fun f=>L4 aS aw (f.ok.block _ aS.came.lt)
 obtain⟨cA,cap,sx,gg,jJ,eb⟩:=bf.row.shape;unfold maxLen at jJ;rw[sx]at cW;have c0:=aR.cell (show W0.cell? (aa e8 0)=some (.pointer (some (aa aE 0)))from QR.cell 0);have iG:=aR.cell (show W0.cell? (aa aE 6)=some (.map (some bM))from aS.U.U.cell 6);have c8:=aR.cell (show W0.cell? (aa (w.heap.size) 0)=some (ai a_)from gT.cell 0);have dr:=aR.cell (show W0.cell? (aa (w.heap.size) 1)=some (ai bq)from gT.cell 1);have aO:=J (⟨aS,gT,bp,eb,QR⟩:_∧_∧_∧_∧_);have cm:=J (⟨aw,fK,hw,hlen,ho,tq⟩:_∧_∧_∧_∧_∧_);have cw:=J (⟨aq,dC,dM,dK⟩:_∧_∧_∧_);have xh:=J kC;have di:=J bj;clear h aS gT bp eb bf sx aw fK kC bj hw hlen ho tq fa QR aq dC dM dK;go_enter func152,ntmps152;go_wp2_with fail
 rw[di.o];refine qm (aR W0) (by kernel_rfl) (by kernel_rfl) (cE).drew ?_;repeat(go_big_quiet_step (fail))
 refine gG ?_;intro _ ds;obtain⟨fq,rfl⟩:=ds;obtain⟨bR,aF⟩:=fq;try dsimp only
 clear c0 iG c8 dr cW;go_wp2_with fail
 go_loopw[5,18] (fun m i wr=>∃k:Nat,k<=l.length∧i=I k∧Hid (wr.ownsRow W0.heap.size 62 2 m ((l.take k).filter fun d=>mK saw st.bh ⟨⟨a_,bq⟩,d⟩).length (((l.take k).filter fun d=>mK saw st.bh ⟨⟨a_,bq⟩,d⟩).flatMap bF.cells)∧ax W0 wr)) (fun _ i _=>l.length-(intOf i).toNat)
 case atStart=>exact⟨0,ch,rfl,by simpa using jD _ _ _ _,aF⟩
 case round=>
  obtain⟨k,dU,rfl,hinv⟩:=hrel;by_cases cW:k<l.length
  ·obtain⟨g,eo,d0⟩:=aO.o.2.2.2.1 (k*2+0) (by omega)
   obtain⟨g1,aP,d1⟩:=aO.o.2.2.2.1 (k*2+1) (by omega);subst eo;cases aP;rw[hC _ 2 (fun _=>rfl) _ _ _ cW (by omega)]at d0 d1;simp only[bF.cells,jg,kK,j3]at d0 d1;have Aj:=bZ hinv.o.2 d0;have Ak:=bZ hinv.o.2 d1;have aL:Hid (((l.take (k+1)).filter fun d=>mK saw st.bh ⟨⟨a_,bq⟩,d⟩)=((l.take k).filter fun d=>mK saw st.bh ⟨⟨a_,bq⟩,d⟩)++(if mK saw st.bh ⟨⟨a_,bq⟩,l[k]⟩then[l[k]]else[])):=by
    unfold Hid;rw[kr cW,filter_append];congr 1;cases il:mK saw st.bh ⟨⟨a_,bq⟩,l[k]⟩<;>simp[il]
   have cp:Hid (((l.take k).filter fun d=>mK saw st.bh ⟨⟨a_,bq⟩,d⟩).length<=k):=by
    refine fx (Ff _ _) ?_;rw[ng];omega
   generalize ((l.take k).filter fun d=>mK saw st.bh ⟨⟨a_,bq⟩,d⟩)=es at*;obtain⟨d,aB⟩:∃d,l[k]=d:=⟨_,rfl⟩;have rE:(⟨⟨a_,bq⟩,d⟩:cn).Ok:=cm.o.2.1 d (by rw[<-aB];exact eT cW);rw[aB]at Aj Ak aL;clear d0 d1;generalize fg:wr.alloc (.cells #[I d.rep,I d.seq] 62)=W2;have bP:ax wr W2:=by rw[<-fg];exact cj _ _
   have kP:=hinv.o.2.trans (bP.mono hinv.o.2.size);have ae:=aO.o.1.below kP;have XJ:=aO.o.2.2.2.2.below kP;have mA:aQ W2 wr.heap.size [I d.rep,I d.seq] 62:=by rw[<-fg];exact cC wr _
   have s6:=aO.o.2.1.below kP;have fm:=jZ hinv.o.1 bP;have l2:=aO.o.2.1.below hinv.o.2;have c8:=l2.c0;have dr:=l2.c1;have ft:=l2.lt;have cM:=J (⟨kP,mA,rE,ae,XJ,fm⟩:_∧_∧_∧_∧_∧_);have pZ:=J fg;clear ae bP kP mA s6 aB rE fg XJ fm l2;go_wp2_with fail
   rw[pZ.o];refine(abU W2 e8 aE cg n saw kept ⟨⟨a_,bq⟩,d⟩ st.bh cM.o.2.2.2.2.1 (cM.o.2.2.2.1.U.U.cell 5) cM.o.2.2.2.1.bh cM.o.2.2.1 (cm.o.2.2.1 _)).mono ?_;rintro e bN ⟨rfl,b0⟩;have nu:=cM.o.1.trans (b0.mono cM.o.1.size);have EP:=jZ cM.o.2.2.2.2.2 b0;have BT:=cM.o.2.1.below b0;have v0:=BT.c0;have v1:=BT.c1;clear c8 dr Aj Ak;cases hs:mK saw st.bh ⟨⟨a_,bq⟩,d⟩
   ·rw[hs]at aL
    have bO:=J (⟨EP,nu⟩:_∧_);clear hs EP nu BT v0 v1 b0;go_wp2_with fail
    refine⟨⟨k+1,by omega,by go_num,?_⟩,by simp[intOf];omega⟩;rw[aL.o];unfold Hid;simpa using bO.o
   ·rw[hs]at aL
    have bO:=J (⟨EP,nu⟩:_∧_);clear hs EP nu BT b0;have y_:=bO.o.2.size;go_wp2_with(at_builtin;refine yw _ rfl _ _ 241 rfl W0.heap.size 62 i0 (.agg #[I 0,I 0]) 2 16 underlying241 cw.o.1 cw.o.2.1 cw.o.2.2.1 cw.o.2.2.2 rfl (by decide) _ _ _ rfl (bO.o.1.alloc _) (aa (bN.heap.size) 0) 1 1 [I d.rep,I d.seq] rfl rfl (A0 (show aQ _ _ _ 62 from cC bN _)) (by intro u hu;simp at hu;rcases hu with rfl|rfl<;>rfl) (by have:=cp.o;have:=cm.o.2.2.2.1;unfold maxLen;omega) (by have:=cp.o;have:=cm.o.2.2.2.1;omega) (by simp;omega) ?_;intro v1 cc Gz Cj aj7)
    refine⟨⟨k+1,by omega,by go_num,?_⟩,by simp[intOf];omega⟩;rw[aL.o];refine⟨?_,(bO.o.2.alloc y_ _).grown Cj (by simp;omega) (fun j af=>(bO.o.1.lt j af).1)⟩;simpa using Gz
  ·have mG:k=l.length:=by omega
   subst mG;rw[tI]at hinv;have cz:=cy hinv.o;clear hinv cW;go_wp2_with fail
   refine(ao7 _ _ _ _ cz.o.1 (fx (Ff _ _) cm.o.2.2.2.1) (cm.o.2.2.2.2.1.sublist Ht)).mono ?_;rintro e w2 ⟨rfl,ca,gJ,gV,tl,sl⟩;have bX:=J (⟨gJ,gV,tl,sl⟩:_∧_∧_∧_);clear gJ gV tl sl;go_wp2_with fail
   go_ret;obtain⟨gJ,gV,tl,sl⟩:=bX.o;have hb:=cz.o.2.grown sl cz.o.2.size (fun j af=>(cz.o.1.lt j af).1);refine⟨_,ca,rfl,by rw[cm.o.2.2.2.2.2];exact gJ,gV,ER (e3 tl ch) (fun j af=>fx aO.o.2.2.1.size (tl.lt j af).1),aO.o.2.2.1.trans (hb.mono aO.o.2.2.1.size)⟩
structure s3 (w:World)(o:Nat->Own)(aE n e8:Nat)(st:b5)(saw:aW)(kept:Value):Prop where
 hR:fR w o aE n st
 U:aQ w e8 [.pointer (some (aa aE 0)),I saw.a,I saw.b,I saw.c,I saw.d,I saw.e,kept] 186
 wf:st.h5
 ea:∀p,(st.came p).length<=1000000000
section
variable {w w':World}{o:Nat->Own}{aE n e8:Nat}{st:b5}{saw:aW}{kept:Value}
theorem s3.below (h:s3 w o aE n e8 st saw kept)(hb:ax w w'):s3 w' o aE n e8 st saw kept:=⟨h.hR.below hb,h.U.below hb,h.wf,h.ea⟩
theorem s3.told (h:s3 w o aE n e8 st saw kept)(p:Place)(aw:p.Ok):
  Calls prog 152 #[bl e8,.agg #[ai p.key,ai p.el]] w fun e w'=>∃(v:Value) (l:List bF),e= .returned v∧l.Perm (jq saw st p)∧l.Pairwise lW∧w'.ownsRow w.heap.size 62 2 v l.length (l.flatMap bF.cells)∧ax w w':=
 apI h.hR h.U p aw (fun d aB=>h.wf.ok p d aB) (fun x v av=>⟨(h.wf.fL x v av).eE,(h.wf.fL x v av).ql⟩) (h.ea p) (h.wf.once p)
theorem apJ (h:s3 w o aE n e8 st saw kept)(aC:l.Perm (jq saw st p)):l.length<=1000000000:=by
 rw[aC.length_eq];exact fx (Ff _ _) (h.ea p)
theorem ac1 (h:s3 w o aE n e8 st saw kept)(aC:l.Perm (jq saw st p)):∀d∈l,(⟨p,d⟩:cn).Ok:=fun d aB=>h.wf.ok p d (by have:=aC.mem_iff.1 aB;unfold jq at this;exact(ra.1 this).1)
end
theorem ahJ (a b s:Int)(v:ByteArray)(W:World):(Instr.field 239 (.agg #[I a,I b,I s,ai v]) 1).run prog W= .ok (I s) W:=by kernel_rfl
theorem ahK (a b s:Int)(v:ByteArray)(W:World):(Instr.field 239 (.agg #[I a,I b,I s,ai v]) 2).run prog W= .ok (ai v) W:=by kernel_rfl
def sK (bh:cn->Option gQ)(p:Place)(l:List bF):Int:=l.foldl (fun a x=>wrap64 (a+(hS bh ⟨p,x⟩).sum)) 0
theorem apm (bh:cn->Option gQ)(p:Place)(l:List bF)(d:bF):sK bh p (l++[d])=wrap64 (sK bh p l+(hS bh ⟨p,d⟩).sum):=by unfold sK;simp
theorem ao2 {w:World}{o:Nat->Own}{aE n e8:Nat}{st:b5}{saw:aW}{kept:Value}(dJ:s3 w o aE n e8 st saw kept)(key:ByteArray)(hk:key.size<=maxLen):
  Calls prog 107 #[bl e8,ai key] w fun e w'=>∃l:List bF,l.Perm (jq saw st ⟨key,cK⟩)∧e= .returned (I (sK st.bh ⟨key,cK⟩ l))∧ax w w':=by
 generalize bj:w.alloc (.cells #[ai key,ai ⟨#[]⟩] 129)=W0;have bp:ax w W0:=by rw[<-bj];exact cj _ _
 have gT:aQ W0 w.heap.size [ai key,ai ⟨#[]⟩] 129:=by rw[<-bj];exact cC w _
 have B_:=dJ.below bp;have aw:(⟨key,cK⟩:Place).Ok:=⟨hk,by show(ByteArray.mk #[]).size<=_;exact ch⟩;have c8:=gT.c0;have dr:=gT.c1;have aO:=J (⟨B_,gT,bp,aw⟩:_∧_∧_∧_);have di:=J bj;clear dJ B_ gT bp aw bj;go_enter func107,ntmps107;go_upto_region 3 with(fail);rw[di.o];go_wp2_with fail
 refine(aO.o.1.told ⟨key,cK⟩ aO.o.2.2.2).mono ?_;rintro e an ⟨v,l,rfl,aC,qe,dd,aF⟩;obtain⟨cA,cap,rfl,gg,jJ,eb⟩:=Row.shape (e3 dd ch);unfold maxLen at jJ;have dn:=J (⟨aC,dd,eb,aF,ac1 aO.o.1 aC⟩:_∧_∧_∧_∧_);clear aC qe dd eb c8 dr;go_wp2_with fail
 go_loopw[5,15] (fun m i wr=>∃k:Nat,k<=l.length∧i=I k∧m=I (sK st.bh ⟨key,cK⟩ (l.take k))∧Hid (ax an wr)) (fun _ i _=>l.length-(intOf i).toNat)
 case atStart=>exact⟨0,ch,rfl,rfl,cE⟩
 case round=>
  obtain⟨k,dU,rfl,rfl,hinv⟩:=hrel;by_cases cW:k<l.length
  ·obtain⟨g,eo,d0⟩:=dn.o.2.2.1 (k*2+0) (by omega)
   obtain⟨g1,aP,d1⟩:=dn.o.2.2.1 (k*2+1) (by omega);subst eo;cases aP;rw[hC _ 2 (fun _=>rfl) _ _ _ cW (by omega)]at d0 d1;simp only[bF.cells,jg,kK,j3]at d0 d1;have Aj:=bZ hinv.o d0;have Ak:=bZ hinv.o d1;have uI:Hid (sK st.bh ⟨key,cK⟩ (l.take (k+1))=wrap64 (sK st.bh ⟨key,cK⟩ (l.take k)+(hS st.bh ⟨⟨key,cK⟩,l[k]⟩).sum)):=by
    unfold Hid;rw[kr cW,apm]
   obtain⟨d,aB⟩:∃d,l[k]=d:=⟨_,rfl⟩;have rE:(⟨⟨key,cK⟩,d⟩:cn).Ok:=dn.o.2.2.2.2 d (by rw[<-aB];exact eT cW);rw[aB]at Aj Ak uI;clear d0 d1;generalize fg:wr.alloc (.cells #[I d.rep,I d.seq] 62)=W2;have bP:ax wr W2:=by rw[<-fg];exact cj _ _
   have D2:=hinv.o.trans (bP.mono hinv.o.size);have kP:=dn.o.2.2.2.1.trans (D2.mono dn.o.2.2.2.1.size);obtain⟨cg,bM,b6,bU,b4,bB,ah,ae⟩:=(aO.o.1.below kP).hR;have cj:=aO.o.1.U.below kP;have mA:aQ W2 wr.heap.size [I d.rep,I d.seq] 62:=by rw[<-fg];exact cC wr _
   have s6:=aO.o.2.1.below kP;have c0:=aR.cell (show W2.cell? (aa e8 0)=some (.pointer (some (aa aE 0)))from cj.cell 0);have c5:=aR.cell (show W2.cell? (aa aE 5)=some (.map (some cg))from ae.U.U.cell 5);have qk:=aR.cell (show W2.cell? (aa (w.heap.size) 0)=some (ai key)from s6.cell 0);have dk:=aR.cell (show W2.cell? (aa (w.heap.size) 1)=some (ai ⟨#[]⟩)from s6.cell 1);have eY:=aR.cell (show W2.cell? (aa (wr.heap.size) 0)=some (I d.rep)from mA.cell 0);have q1:=aR.cell (show W2.cell? (aa (wr.heap.size) 1)=some (I d.seq)from mA.cell 1);have Np:∀f:dO (aR W2),(Instr.lookup 178 (.map (some cg)) (.agg #[ai key,ai ⟨#[]⟩,I d.rep,I d.seq]) false).run prog f.w= .ok (hS st.bh ⟨⟨key,cK⟩,d⟩).val f.w:=fun f=>E6 ae.bh rE (f.ok.block _ ae.bh.lt)
   obtain⟨bD,av⟩:∃bD,hS st.bh ⟨⟨key,cK⟩,d⟩=bD:=⟨_,rfl⟩;rw[av]at Np uI;have Yz:=ahJ bD.fL.rep bD.fL.seq bD.sum bD.value;obtain⟨acc,Az⟩:∃acc,sK st.bh ⟨key,cK⟩ (l.take k)=acc:=⟨_,rfl⟩;rw[Az]at uI;have cM:=J (⟨D2,kP⟩:_∧_);have pZ:=J fg;have Lf:=J Az;clear ae bP kP mA s6 aB rE fg cj av D2 Az;go_upto_region 6 with(fail);rw[pZ.o,Lf.o];refine qm (aR W2) (by kernel_rfl) (by kernel_rfl) (cE).drew ?_;repeat(go_big_quiet_step (fail))
   refine gG ?_;intro _ ds;obtain⟨fq,rfl⟩:=ds;obtain⟨dH,b0⟩:=fq;try dsimp only
   have jG:=J b0;clear c0 c5 qk dk eY q1 Np Yz b0;go_wp2_with fail
   refine⟨⟨k+1,by omega,by go_num,?_,cM.o.1.trans (jG.o.mono cM.o.1.size)⟩,by simp[intOf];omega⟩;rw[uI.o]
  ·have mG:k=l.length:=by omega
   subst mG;rw[tI];go_wp2_with fail
   go_ret;exact⟨l,dn.o.1,rfl,aO.o.2.2.1.trans ((dn.o.2.2.2.1.trans (hinv.o.mono dn.o.2.2.2.1.size)).mono aO.o.2.2.1.size)⟩
def vB (bh:cn->Option gQ)(p:Place)(l:List bF):List ByteArray:=l.map fun x=>(hS bh ⟨p,x⟩).value
theorem ao4 {w:World}{o:Nat->Own}{aE n e8:Nat}{st:b5}{saw:aW}{kept:Value}(dJ:s3 w o aE n e8 st saw kept)(key:ByteArray)(hk:key.size<=maxLen):
  Calls prog 108 #[bl e8,.string key] w fun e w'=>∃(v:Value) (l:List bF),l.Perm (jq saw st ⟨key,cK⟩)∧l.Pairwise lW∧e= .returned v∧w'.ownsRow w.heap.size 9 1 v (vB st.bh ⟨key,cK⟩ l).length (strs (vB st.bh ⟨key,cK⟩ l))∧Below w.heap.size w w':=by
 obtain⟨i0,aq,dC,dM,dK⟩:=info_parts Tryz.CL;have cw:=J (⟨aq,dC,dM,dK⟩:_∧_∧_∧_);clear aq dC dM dK;generalize bj:w.alloc (.cells #[.string key,.string ⟨#[]⟩] 129)=W0;have bp:Below w.heap.size w W0:=by rw[<-bj];exact(Below.refl _ _).alloc (Nat.le_refl _) _
 have gT:aQ W0 w.heap.size [.string key,.string ⟨#[]⟩] 129:=by rw[<-bj];exact heap_alloc_new w _
 have B_:=dJ.below bp;have aw:(⟨key,cK⟩:Place).Ok:=⟨hk,by show(ByteArray.mk #[]).size<=_;exact Nat.zero_le _⟩;have c8:W0.cell? ⟨w.heap.size,0,none⟩=some (.string key):=gT.cell 0;have dr:W0.cell? ⟨w.heap.size,1,none⟩=some (.string ⟨#[]⟩):=gT.cell 1;have aO:=J (⟨B_,gT,bp,aw⟩:_∧_∧_∧_);have di:=J bj;clear dJ B_ gT bp aw bj;go_enter func108,ntmps108;go_upto_region 3 with(fail);rw[di.o];go_wp2_with fail
 refine(aO.o.1.told ⟨key,cK⟩ aO.o.2.2.2).mono ?_;rintro e an ⟨v,l,rfl,aC,qe,dd,aF⟩;obtain⟨cA,cap,rfl,gg,jJ,eb⟩:=Row.shape (e3 dd (Nat.zero_le _));unfold maxLen at jJ;have dn:=J (⟨aC,dd,eb,aF,ac1 aO.o.1 aC,qe,apJ aO.o.1 aC⟩:_∧_∧_∧_∧_∧_∧_);clear aC qe dd eb c8 dr;go_wp2_with fail
 go_loopw[5,15] (fun m i wr=>∃k:Nat,k<=l.length∧i= .int .i64 k∧Hid (wr.ownsRow an.heap.size 9 1 m (vB st.bh ⟨key,cK⟩ (l.take k)).length (strs (vB st.bh ⟨key,cK⟩ (l.take k)))∧Below an.heap.size an wr)) (fun _ i _=>l.length-(intOf i).toNat)
 case atStart=>exact⟨0,Nat.zero_le _,rfl,by simpa[vB,strs]using World.ownsRow_nil _ _ _ _,Below.refl _ _⟩
 case round=>
  obtain⟨k,dU,rfl,hinv⟩:=hrel;by_cases cW:k<l.length
  ·obtain⟨g,eo,d0⟩:=dn.o.2.2.1 (k*2+0) (by omega)
   obtain⟨g1,aP,d1⟩:=dn.o.2.2.1 (k*2+1) (by omega);subst eo;cases aP;rw[hC _ 2 (fun _=>rfl) _ _ _ cW (by omega)]at d0 d1;simp only[bF.cells,getElem?_cons_zero,getElem?_cons_succ,Nat.add_zero]at d0 d1;have Aj:=cell_later hinv.o.2 d0;have Ak:=cell_later hinv.o.2 d1;have uI:Hid (vB st.bh ⟨key,cK⟩ (l.take (k+1))=vB st.bh ⟨key,cK⟩ (l.take k)++[(hS st.bh ⟨⟨key,cK⟩,l[k]⟩).value]):=by
    unfold Hid vB;rw[take_succ_eq_append_getElem cW,map_append];rfl
   have cp:Hid ((vB st.bh ⟨key,cK⟩ (l.take k)).length<=k):=by
    unfold Hid vB;rw[length_map,length_take];omega
   obtain⟨d,aB⟩:∃d,l[k]=d:=⟨_,rfl⟩;have rE:(⟨⟨key,cK⟩,d⟩:cn).Ok:=dn.o.2.2.2.2.1 d (by rw[<-aB];exact getElem_mem cW);rw[aB]at Aj Ak uI;clear d0 d1;generalize fg:wr.alloc (.cells #[.int .i64 d.rep,.int .i64 d.seq] 62)=W2;have bP:Below wr.heap.size wr W2:=by rw[<-fg];exact(Below.refl _ _).alloc (Nat.le_refl _) _
   have D2:Below an.heap.size an W2:=hinv.o.2.trans (bP.mono hinv.o.2.size);have kP:Below W0.heap.size W0 W2:=dn.o.2.2.2.1.trans (D2.mono dn.o.2.2.2.1.size);obtain⟨cg,bM,b6,bU,b4,bB,ah,ae⟩:=(aO.o.1.below kP).hR;have cj:=aO.o.1.U.below kP;have mA:aQ W2 wr.heap.size [.int .i64 d.rep,.int .i64 d.seq] 62:=by rw[<-fg];exact heap_alloc_new wr _
   have s6:=aO.o.2.1.below kP;have c0:W2.cell? ⟨e8,0,none⟩=some (.pointer (some ⟨aE,0,none⟩)):=cj.cell 0;have c5:W2.cell? ⟨aE,5,none⟩=some (.map (some cg)):=ae.U.U.cell 5;have qk:W2.cell? ⟨w.heap.size,0,none⟩=some (.string key):=s6.cell 0;have dk:W2.cell? ⟨w.heap.size,1,none⟩=some (.string ⟨#[]⟩):=s6.cell 1;have eY:W2.cell? ⟨wr.heap.size,0,none⟩=some (.int .i64 d.rep):=mA.cell 0;have q1:W2.cell? ⟨wr.heap.size,1,none⟩=some (.int .i64 d.seq):=mA.cell 1;have t1:e8<W2.heap.size:=cj.lt;have t2:aE<W2.heap.size:=ae.U.U.lt;have t3:w.heap.size<W2.heap.size:=s6.lt;have t4:wr.heap.size<W2.heap.size:=mA.lt;have Np:(Instr.lookup 178 (.map (some cg)) (.agg #[.string key,.string ⟨#[]⟩,.int .i64 d.rep,.int .i64 d.seq]) false).run prog W2.drew= .ok (hS st.bh ⟨⟨key,cK⟩,d⟩).val W2.drew:=E6 ae.bh rE (W:=W2.drew) rfl;obtain⟨bD,av⟩:∃bD,hS st.bh ⟨⟨key,cK⟩,d⟩=bD:=⟨_,rfl⟩;rw[av]at Np uI;have Yz:=ahK bD.fL.rep bD.fL.seq bD.sum bD.value;generalize vB st.bh ⟨key,cK⟩ (l.take k)=es at*;have fm:=jZ hinv.o.1 bP;have cM:=J (⟨D2,kP,fm⟩:_∧_∧_);have pZ:=J fg;clear ae bP kP mA s6 aB rE fg cj av D2 fm;go_upto_region 6 with(fail);rw[pZ.o];go_region_law(refine q6 rfl _ _ 41 rfl 9 i0 (.string ⟨#[]⟩) 1 16 underlying41 cw.o.1 cw.o.2.1 cw.o.2.2.1 cw.o.2.2.2 rfl (by decide) u5 es.length (strs es) (by simp[Act.eval]) (by exact World.ownsRow.alloc (e3 cM.o.2.2 (Nat.zero_le _)) _) ⟨W2.heap.size,0,none⟩ 1 1 [.string bD.value] (by simp[Act.eval]) rfl (by exact CP _ _ _) (by intro u hu;simp at hu;subst hu;rfl) (by have:=cp.o;have:=dn.o.2.2.2.2.2.2;unfold maxLen;omega) (by have:=cp.o;have:=dn.o.2.2.2.2.2.2;omega) ?_;intro v5 w5 cB b_ dW;have rj:=J (⟨cB,b_,dW⟩:_∧_∧_);clear cB b_ dW)
   all_goals go_wp2_with fail
   all_goals
    obtain⟨cB,b_,dW⟩:=rj.o;have dK:(W2.alloc (.cells #[.string bD.value] 9)).heap.size=W2.heap.size+1:=by simp
    have B3:=cM.o.1;have c7:Below an.heap.size an w5:=(B3.alloc B3.size (.cells #[.string bD.value] 9)).grown (row:=u5.ownBlock) ⟨b_.os,b_.tape,b_.output,b_.size,b_.block⟩ (by rw[dK];have:=B3.size;omega) (fun j af=>(cM.o.2.2.lt j af).1);refine⟨⟨k+1,by omega,by go_num,?_,c7⟩,by simp[intOf];omega⟩;rw[uI.o,Hg];refine ER (by simpa using cB) (fun j af=>?_);rcases dW with e|e
    ·rw[e]at af;exact(cM.o.2.2.lt j af).1
    ·rw[e]at af
     injection af with af
     have:=B3.size;subst af;simp;omega
  ·have mG:k=l.length:=by omega
   subst mG;rw[take_length]at hinv;go_wp2_with fail
   go_ret;have hb:Below w.heap.size w wr:=aO.o.2.2.1.trans ((dn.o.2.2.2.1.trans (hinv.o.2.mono dn.o.2.2.2.1.size)).mono aO.o.2.2.1.size);have hle:w.heap.size<=an.heap.size:=Nat.le_trans aO.o.2.2.1.size dn.o.2.2.2.1.size;exact⟨_,l,dn.o.1,dn.o.2.2.2.2.2.1,rfl,e3 hinv.o.1 hle,hb⟩
open Go.RowKit
abbrev strCells (s:ByteArray):List Value:=[ai s]
theorem ak7 (w:World)(v:Value)(l:List ByteArray)(bf:Row w 9 1 v l.length (l.flatMap strCells))(g:Nat)(lb:Array Value)(p:ByteArray->Bool)(v7:∀args w,(callFunc g args).run prog w= .ok (.enter g args) w)
  (fh:∀W,ax w W->∀d:ByteArray,d∈l->Calls prog g (#[ai d]++lb) W (bx (.bool (p d)) fun w'=>ax W w')):
  Calls prog 153 #[v,.func (.func g) #[] lb] w (bx (I (ze p l)) fun w'=>ax w w'):=by
 obtain⟨cA,cap,rfl,gg,hm,eb⟩:=bf.shape;unfold maxLen at hm;have dj:=J fh;have dn:=J eb;clear bf fh eb;go_enter func153,ntmps153;go_wp2_with fail
 go_loopw[8] (fun i wr=>∃k:Nat,k<=l.length∧i=I k∧Hid (∀j (af:j<l.length),j<k->p l[j]=false)∧ax w wr) (fun i _=>l.length-(intOf i).toNat)
 case atStart=>exact⟨0,ch,rfl,fun j _ h=>absurd h (De _),cE⟩
 case round=>
  obtain⟨k,hk,rfl,eV,ao⟩:=hrel;by_cases cW:k<l.length
  ·obtain⟨g0,eo,aS⟩:=dn.o (k*1+0) (by omega)
   subst eo;rw[hC _ 1 (fun _=>rfl) _ _ _ cW (by omega)]at aS;simp only[strCells,jg,j3,zM]at aS;have c0:=bZ ao aS;clear aS;have gU:=dj.o wr ao l[k] (eT cW);obtain⟨d,aB⟩:∃d,l[k]=d:=⟨_,rfl⟩;have bn:=J aB;rw[aB]at gU c0;clear aB;cases aw:p d
   ·rw[aw]at gU
    have hy:=J gU;have dp:=J aw;clear gU aw;go_wp2_with fail
    refine hy.o.mono ?_;rintro e an ⟨rfl,aF⟩;go_wp2_with fail
    exact⟨⟨k+1,by omega,by go_num,fun j af sk=>by
     by_cases c:j=k
     ·subst c;rw[bn.o];exact dp.o
     ·exact eV.o j af (by omega),ao.trans (aF.mono ao.size)⟩,by simp[intOf];omega⟩
   ·rw[aw]at gU
    have hy:=J gU;have dp:=J aw;clear gU aw;go_wp2_with fail
    refine hy.o.mono ?_;rintro e an ⟨rfl,aF⟩;go_wp2_with fail
    go_ret;exact⟨om (Sc cW (by rw[bn.o];exact dp.o) eV.o).symm,ao.trans (aF.mono ao.size)⟩
  ·go_wp2_with fail
   go_ret;exact⟨om (Sb fun j af=>eV.o j af (by omega)).symm,ao⟩
theorem ag3 (w:World)(v:Value)(l:List ByteArray)(bf:Row w 9 1 v l.length (l.flatMap strCells))(g:Nat)(lb:Array Value)(p:ByteArray->Bool)(v7:∀args w,(callFunc g args).run prog w= .ok (.enter g args) w)
  (fh:∀W,Touch (fun q=>v.ownBlock=some q) w W->∀d:ByteArray,d∈l->Calls prog g (#[ai d]++lb) W (bx (.bool (p d)) fun w'=>ax W w')):
  Calls prog 109 #[v,.func (.func g) #[] lb] w fun e w'=>∃v',e= .returned v'∧Row w' 9 1 v' (l.filter fun x=> !p x).length ((l.filter fun x=> !p x).flatMap strCells)∧v'.ownBlock=v.ownBlock∧Touch (fun q=>v.ownBlock=some q) w w':=by
 have ez:=ak7 w v l bf g lb p v7 (fun W ao=>fh W (Touch.dh ao));rcases Sa p l with⟨aP,ba⟩|⟨ek,vi,aP,pE,ba⟩
 ·rw[aP]at ez
  have cw:=J ez;have bc:=J bf;clear ez fh bf;go_enter func109,ntmps109;go_wp2_with fail
  refine cw.o.mono ?_;rintro e an ⟨rfl,aF⟩;go_wp2_with fail
  go_ret;refine⟨v,rfl,?_,rfl,Touch.dh aF⟩;rw[ba];exact Row.below bc.o aF
 ·rw[aP]at ez
  obtain⟨g0,cap,rfl,gg,hm,xN,-,-⟩:=bf.pos (by omega);unfold maxLen at hm;have Ct:((ek:Int)== -1)=false:=Bg.2 (by omega);have aL:=J (r8.start vi pE ba);have cw:=J ez;have bc:=J bf;have dj:=J fh;clear ez fh bf aP ba pE;go_enter func109,ntmps109;go_wp2_with fail
  refine cw.o.mono ?_;rintro e an ⟨rfl,aF⟩;go_wp2_with fail
  go_loopw[5,6] (fun i j wr=>∃(ii h9:Nat) (xs:List ByteArray),h9<=l.length∧ii<h9∧i=I ii∧j=I h9∧Hid (r8 p l xs ii h9∧Row wr 9 1 (bo g0 l.length cap) l.length (xs.flatMap strCells)∧Touch (fun q=>(bo g0 l.length cap).ownBlock=some q) w wr)) (fun _ j _=>l.length-(intOf j).toNat)
  case atStart=>exact⟨ek,ek+1,l,by omega,by omega,rfl,by go_num,aL.o,Row.below bc.o aF,Touch.dh aF⟩
  case round=>
   obtain⟨ii,h9,xs,hl,l6,rfl,rfl,a1⟩:=hrel;have hlen:=a1.o.1.len;by_cases pD:h9<l.length
   ·obtain⟨_,_,e,-,-,fW,eb,tg⟩:=Row.pos a1.o.2.1 (by omega)
    cases e;have c0:=eb (h9*1+0) (by omega);rw[hC _ 1 (fun _=>rfl) _ _ _ (by omega) (by omega)]at c0;have au:=a1.o.1.high h9 pD cv;rw[hg (by omega)]at au;rw[kt au]at c0;simp only[strCells,jg,j3,zM]at c0;clear eb tg au;obtain⟨d,aB⟩:∃d,l[h9]=d:=⟨_,rfl⟩;have bn:=J aB;rw[aB]at c0;clear aB;have hy:=J (dj.o wr a1.o.2.2 d (by rw[<-bn.o];exact eT pD));cases aw:p d
    ·unfold Hid at hy
     rw[aw]at hy;have dp:=J aw;have xg:=J hy;clear aw hy;go_wp2_with fail
     refine xg.o.mono ?_;rintro e w2 ⟨rfl,bP⟩;have p8:=Row.below a1.o.2.1 bP;obtain⟨_,_,e,-,-,YF,eb,tg⟩:=Row.pos p8 (by omega);cases e;have i0:=eb (ii*1+0) (by omega);have f0:=tg ii;rw[hC _ 1 (fun _=>rfl) _ _ _ (by omega) (by omega)]at i0;simp only[strCells,jg,j3,zM]at i0;have mv:=J p8;have jG:=J bP;clear eb tg p8 bP c0;generalize xs[ii]'(by omega)=zm at i0;go_wp2_with fail
     refine⟨⟨ii+1,h9+1,xs.set ii d,by omega,by omega,by go_num,by go_num,?_,?_,?_⟩,by simp[intOf];omega⟩
     ·have:=a1.o.1.rQ pD (by rw[bn.o];exact dp.o)
      rwa [bn.o]at this
     ·have a:=(ly mv.o ii (ai d)).1
      have aP:=uc strCells 1 (fun _=>rfl) xs ii 0 (by omega) (ai d) d (by omega) rfl;rw[j3,zM]at aP;rw[aP]at a;exact a
     ·have a:=a1.o.2.2.then ((Touch.dh jG.o))
      exact a.setCell (p:=(aa g0 ii)) (Or.inl rfl) _
    ·unfold Hid at hy
     rw[aw]at hy;have dp:=J aw;have xg:=J hy;clear aw hy;go_wp2_with fail
     refine xg.o.mono ?_;rintro e w2 ⟨rfl,b0⟩;clear c0;go_wp2_with fail
     exact⟨⟨ii,h9+1,xs,by omega,by omega,rfl,by go_num,a1.o.1.skip pD (by rw[bn.o];exact dp.o),Row.below a1.o.2.1 b0,a1.o.2.2.then (Touch.dh b0)⟩,by simp[intOf];omega⟩
   ·have Jv:h9=l.length:=by omega
    subst Jv;obtain⟨q1,dy,fE⟩:=a1.o.1.done;obtain⟨cc,hd,va,xO⟩:=P7 (P:=prog) (size:=1) (t:=41) (ty:=0) (z:=ai ⟨#[]⟩) (i:=ii) underlying41 (fun _=>by kernel_rfl) rfl (by intro u hu;simp[Value.cells]at hu;subst hu;rfl) a1.o.2.1 fE;simp only[zM]at hd;have HU:=J va;have Fw:=J xO;have fs:=J (⟨q1,dy⟩:_∧_);clear va xO q1 dy;go_wp2_with fail
    go_ret;refine⟨_,rfl,?_,rfl,a1.o.2.2.grown Fw.o (fun k e=>by cases e;exact Or.inl rfl)⟩;have:=HU.o;rw[IP _ 1 (fun _=>rfl),fs.o.1]at this;rw[<-fs.o.2];exact this
end Go.Proofs.YtiplgdkpnhamaaaGreatDoor
