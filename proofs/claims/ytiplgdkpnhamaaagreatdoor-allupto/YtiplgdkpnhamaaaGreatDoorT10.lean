import Derived.Test.YtiplgdkpnhamaaaGreatDoorT02
import Derived.Test.YtiplgdkpnhamaaaGreatDoorT09
import Derived.Deep.RegionWith
import Derived.Deep.DeepCutAuto
set_option maxHeartbeats 4000000
set_option maxRecDepth 100000
namespace Go.Proofs.YtiplgdkpnhamaaaGreatDoor
open Go.Proofs.Tryz List
open Go.RowKit
variable {A B:Tag->Prop}{a key:ByteArray}{acc told:List ByteArray}{de bw v bD:Value}{c_ xs:List cq}{b j k size:Nat}{bs:List Nat}{cs:List Value}{e ty:TypeId}{l:List aT}{r:Int}{t:Tag}{ag:List Int}{cr wr:World}
def qZ (key:ByteArray)(ops:List db)(acc:List ByteArray)(s:ByteArray):List ByteArray:=
 if(dR key s ops).isSome=false∨hZ (dR key s ops)=3 then ph acc s else acc
def rN (key:ByteArray)(ops:List db)(acc:List ByteArray)(s:ByteArray):List ByteArray:=
 if hZ (dR key s ops)=3 then ph acc s else acc
def uy (key:ByteArray)(ops:List db)(told:List ByteArray):List ByteArray:=(lG key ops).foldl (rN key ops) (told.foldl (qZ key ops) [])
structure yK (B:Nat)(cr wr:World)(l aG:Value)(acc told:List ByteArray):Prop where
 own:wr.ownsRow B 9 1 l acc.length (strs acc)
 row:wr.ownsRow 0 9 1 aG told.length (strs told)
 IE:∀q,l.ownBlock=some q->¬aG.ownBlock=some q
 cZ:Below B cr wr
theorem yK.below {B:Nat}{w':World}{l aG:Value}(h:yK B cr wr l aG acc told)(hb:ax wr w')(ao:B<=wr.heap.size):yK B cr w' l aG acc told:=
 ⟨jZ h.own hb,jZ h.row hb,h.IE,h.cZ.trans (hb.mono ao)⟩
theorem yK.with {B:Nat}{w':World}{l aG ca:Value}{s:ByteArray}(h:yK B cr wr l aG acc told)(ao:B<=wr.heap.size)
  (hw:w'.ownsRow 0 9 1 ca (ph acc s).length (strs (ph acc s)))(al:Touch (fun k=>l.ownBlock=some k) wr w')(hb:∀k,ca.ownBlock=some k->l.ownBlock=some k∨wr.heap.size<=k):yK B cr w' ca aG (ph acc s) told:=by
 refine⟨abn hw fun q ad=>?_,Row.ay h.row al (fun q ad hs=>h.IE q hs ad),fun q ad he=>?_,h.cZ.trans (al.toBelow ao (fun q ad=>(h.own.lt q ad).1))⟩
 ·rcases hb q ad with e|e
  ·exact(h.own.lt q e).1
  ·omega
 ·rcases hb q ad with e|e
  ·exact h.IE q e he
  ·have:=(h.row.lt q he).2;omega
theorem aoD (w:World)(az b n:Nat)(de v:Value)(c_ xs:List cq)(ts:List aT)(k:Nat)(key:ByteArray)(t:aT)(hn:xs.length<=6)(hk:k<xs.length)(eC:key.size<=maxLen)(G:qz w az n de c_ ts)
  (av:eh w b 2 v)(bf:Row w 217 5 v xs.length (xs.flatMap cq.cells))(eI:xs[k].fA=true)(al:uR w xs[k] t)(mc:t.saw.length=n)(fj:kindOf key=115)(MD:(setOf t.saw key ts).length<=40000000):
  Calls prog 88 #[.pointer (some (aa az 0)),.pointer (some (aa b 0)),I k,ai key] w fun e w'=>∃bz,e= .returned (oM 0 bz 0)∧w'.ownsRow w.heap.size 9 1 bz (uy key t.ops (setOf t.saw key ts)).length (strs (uy key t.ops (setOf t.saw key ts)))∧ax w w':=by
 obtain⟨g,cap,rfl,gg,hm,aM,aA,bm⟩:=bf.pos (by omega);have ft:b<w.heap.size:=hU w _ av;have aH:=aA (k*5+3) (by omega);have bd:=aA (k*5+4) (by omega);rw[hC _ 5 cq.k_ _ _ _ hk (by omega)]at aH bd;simp only[cq.cells,jg,kK]at aH bd;have cw:Hid (kE xs k=true):=by simp[Hid,kE,hk,eI]
 have bp:ax w (w.alloc (.cells #[I 0,.slice none 0 0] 66)):=cj _ _;have dE:(w.alloc (.cells #[I 0,.slice none 0 0] 66)).heap.size=w.heap.size+1:=by simp
 have ic:=J dE;clear dE;have ff:=J (bZ bp av);have bc:=J (Row.below bf bp);have gO:=J (G.below bp);have dA:=J (al.below bp);have cD:=J fj;have FF:=J mc;have Mq:=bZ bp aH;have Aq:=bZ bp bd;have kW:=bZ bp av;have yC:=J (Of w (I 0) (.slice none 0 0) 66);clear bf aA eI fj G al mc bm aH bd av;generalize bY:w.alloc (.cells #[I 0,.slice none 0 0] 66)=W at*;have MN:g<W.heap.size:=by have:=ic.o;omega
 go_enter func88,ntmps88;go_wp2_with fail
 have DB:=J bY;clear bY;refine(uw _ b _ xs k (by omega) ff.o bc.o).mono ?_;rintro e an ⟨he,rfl⟩;rw[cw.o]at he;subst he;go_wp2_with fail
 refine(EH key _ eC).mono ?_;rintro e w2 ⟨he,rfl⟩;rw[cD.o]at he;subst he;go_wp2_with fail
 refine(aoU _ az n de _ c_ ts t.saw key gO.o FF.o dA.o.saw).mono ?_;rintro e bN ⟨aG,rfl,wH,b0⟩;obtain⟨acT,Hh,rfl,-,-,-⟩:=Row.shape (e3 wH ch);have atd:=b0.size;have aeQ:Hid (yK w2.heap.size w2 bN (.slice none 0 0) (.slice acT (setOf t.saw key ts).length Hh) [] (setOf t.saw key ts)):=⟨jD _ _ _ _,e3 wH ch,fun q ad=>by simp[Value.ownBlock]at ad,b0⟩;have sj:=dA.o.ea;have Q7:=IG key t.ops;clear wH;generalize XR:setOf t.saw key ts=told at*;have aeP:=J XR;clear XR;go_wp2_with fail
 go_loopw[18,19] (fun l i wr=>∃(j:Nat) (acc:List ByteArray),j<=told.length∧i=I j∧acc=(told.take j).foldl (qZ key t.ops) []∧acc.length<=j∧yK w2.heap.size w2 wr l (.slice acT told.length Hh) acc told) (fun _ i _=>told.length-(intOf i).toNat)
 case atStart=>exact⟨0,[],ch,rfl,rfl,cv,aeQ.o⟩
 case round=>
  obtain⟨j,acc,af,rfl,Az,hlen,JW⟩:=hrel;have Dk:=J Az;have BE:=J JW;have fb:=JW.cZ.size;clear Az;by_cases pD:j<told.length
  ·obtain⟨ge,atZ,e,-,-,Jq,Cd,-⟩:=Row.pos JW.row (by omega)
   obtain⟨rfl,-,rfl⟩:=sN e;have AF:=Cd j (by omega);rw[Hf _ _ pD]at AF;clear e Cd JW;have aL:Hid ((told.take (j+1)).foldl (qZ key t.ops) []=qZ key t.ops acc told[j]):=by
    unfold Hid;rw[kr pD,foldl_append,<-Dk.o];rfl
   have Mr:=bZ BE.o.cZ Aq;have Pu:=J (dA.o.below BE.o.cZ);generalize told[j]=el at*;go_wp2_with fail
   refine(Ny key el _ g (k*5) _ t.ops (by omega) (by omega) Mr Pu.o.ops).mono ?_;rintro e cc ⟨c1,c2,c3,rfl,hX⟩;have ajd:=bZ hX AF;have asv:ge<cc.heap.size:=hU cc _ ajd;have BD:=J (BE.o.below (hX.alloc hX.size (.cells #[I (hZ (dR key el t.ops)),ai c1,ai c2,I c3] 171)) fb);have RS:=BD.o.cZ.size;by_cases gB:(dR key el t.ops).isSome=false∨hZ (dR key el t.ops)=3
   ·have mG:qZ key t.ops acc el=ph acc el:=by unfold qZ;rw[if_pos gB]
    rw[mG]at aL;have hle:=Hq acc el;have Va:=J RS;clear mG RS;rcases gB with e7|e7
    ·rw[e7]
     clear e7;go_wp2_with fail
     refine(OK _ _ acc el (by omega) (e3 BD.o.own ch)).mono ?_;rintro e w5 ⟨v5,rfl,R2,RU,cJ⟩;go_wp2_with fail
     exact⟨⟨j+1,_,by omega,by go_num,aL.o.symm,by omega,BD.o.with Va.o R2 RU cJ⟩,by simp[intOf];omega⟩
    ·have rH:(hZ (dR key el t.ops)==3)=true:=by rw[e7];rfl
     clear e7;generalize pB:(dR key el t.ops).isSome=VI at*;clear pB;cases VI;all_goals
      go_wp2_with fail
      refine(OK _ _ acc el (by omega) (e3 BD.o.own ch)).mono ?_;rintro e w5 ⟨v5,rfl,R2,RU,cJ⟩;go_wp2_with fail
      exact⟨⟨j+1,_,by omega,by go_num,aL.o.symm,by omega,BD.o.with Va.o R2 RU cJ⟩,by simp[intOf];omega⟩
   ·have mG:qZ key t.ops acc el=acc:=by unfold qZ;rw[if_neg gB]
    rw[mG]at aL;have e7:(dR key el t.ops).isSome=true:=by
     cases au:(dR key el t.ops).isSome
     ·exact absurd (Or.inl au) gB
     ·rfl
    have rH:(hZ (dR key el t.ops)==3)=false:=by simp;exact fun h=>gB (Or.inr h)
    clear mG gB RS;rw[e7];clear e7;go_wp2_with fail
    exact⟨⟨j+1,acc,by omega,by go_num,aL.o.symm,by omega,BD.o⟩,by simp[intOf];omega⟩
  ·have Cn:told.take j=told:=lQ (by omega)
   rw[Cn]at Dk;clear Cn;have Mr:=bZ BE.o.cZ Aq;have Pu:=J (dA.o.below BE.o.cZ);have kS:g<wr.heap.size:=hU wr _ Mr;clear JW;go_wp2_with fail
   refine(WC key _ g (k*5) _ t.ops (by omega) kS Mr Pu.o.ops).mono ?_;rintro e cc ⟨bB,rfl,Cf,hX⟩;obtain⟨v8,DU,rfl,-,-,-⟩:=Row.shape (e3 Cf ch);have Ll:Hid (yK w2.heap.size w2 cc u18 (.slice v8 (lG key t.ops).length DU) acc (lG key t.ops)):=⟨jZ BE.o.own hX,e3 Cf ch,fun q ad he=>by
    have a:=(Cf.lt q he).1;have b:=(BE.o.own.lt q ad).2;omega,BE.o.cZ.trans (hX.mono fb)⟩
   clear Cf;generalize Xy:lG key t.ops=es at*;have ad8:=J Xy;clear Xy;go_wp2_with fail
   go_loopw[18,23] (fun l i C9=>∃(gK:Nat) (kx:List ByteArray),gK<=es.length∧i=I gK∧kx=(es.take gK).foldl (rN key t.ops) acc∧kx.length<=acc.length+gK∧yK w2.heap.size w2 C9 l (.slice v8 es.length DU) kx es) (fun _ i _=>es.length-(intOf i).toNat)
   case atStart=>exact⟨0,acc,ch,rfl,rfl,cv,Ll.o⟩
   case round=>
    obtain⟨gK,kx,m_,rfl,Jf,Jz,CC⟩:=hrel;have Bu:=J Jf;have LC:=J CC;have akC:=CC.cZ.size;clear Jf;by_cases Y0:gK<es.length
    ·obtain⟨ge,ahi,e,-,-,Jq,Cd,-⟩:=Row.pos CC.row (by omega)
     obtain⟨rfl,-,rfl⟩:=sN e;have AF:=Cd gK (by omega);rw[Hf _ _ Y0]at AF;clear e Cd CC;have jh:Hid ((es.take (gK+1)).foldl (rN key t.ops) acc=rN key t.ops kx es[gK]):=by
      unfold Hid;rw[kr Y0,foldl_append,<-Bu.o];rfl
     have Xs:=bZ LC.o.cZ Aq;have aeR:=J (dA.o.below LC.o.cZ);have YH:g<wr.heap.size:=hU wr _ Xs;generalize es[gK]=el at*;go_wp2_with fail
     refine(Ny key el _ g (k*5) _ t.ops (by omega) YH Xs aeR.o.ops).mono ?_;rintro e w5 ⟨c1,c2,c3,rfl,c7⟩;have aje:=bZ c7 AF;have asw:ge<w5.heap.size:=hU w5 _ aje;have mw:=J (LC.o.below (c7.alloc c7.size (.cells #[I (hZ (dR key el t.ops)),ai c1,ai c2,I c3] 171)) akC);have aeL:=J mw.o.cZ.size;by_cases y2:hZ (dR key el t.ops)=3
     ·have mG:rN key t.ops kx el=ph kx el:=by unfold rN;rw[if_pos y2]
      rw[mG]at jh;have hle:=Hq kx el;have rH:(hZ (dR key el t.ops)==3)=true:=by rw[y2];rfl
      clear mG y2;go_wp2_with fail
      refine(OK _ _ kx el (by omega) (e3 mw.o.own ch)).mono ?_;rintro e eS ⟨v6,rfl,R3,Nk,Ea⟩;go_wp2_with fail
      exact⟨⟨gK+1,_,by omega,by go_num,jh.o.symm,by omega,mw.o.with aeL.o R3 Nk Ea⟩,by simp[intOf];omega⟩
     ·have mG:rN key t.ops kx el=kx:=by unfold rN;rw[if_neg y2]
      rw[mG]at jh;have rH:(hZ (dR key el t.ops)==3)=false:=by simp;exact y2
      clear mG y2;go_wp2_with fail
      exact⟨⟨gK+1,kx,by omega,by go_num,jh.o.symm,by omega,mw.o⟩,by simp[intOf];omega⟩
    ·have Cn:es.take gK=es:=lQ (by omega)
     rw[Cn]at Bu;clear Cn;obtain⟨e_,iD,oY,-,-,-⟩:=Row.shape (e3 CC.own ch);subst oY;obtain⟨eE,cB,Oh,zr⟩:=yC.o.later DB.o CC.cZ;have aiH:=cy (bp.trans (CC.cZ.mono bp.size));clear CC;go_wp2_with fail
     refine iX (v:=oM 0 (.slice e_ kx.length iD) 0) (by simp[results,results88,go_sem,eE,cB]) rfl ⟨_,rfl,?_,?_⟩
     ·have e:uy key t.ops (setOf t.saw key ts)=kx:=by
       unfold uy;rw[aeP.o,ad8.o,Bu.o,Dk.o]
      rw[e];have h1:=ic.o;exact e3 (Df (Df LC.o.own (a:=(aa (w.heap.size) 0)) (by show w.heap.size<w2.heap.size;omega) _) (a:=(aa (w.heap.size) 1)) (by show w.heap.size<w2.heap.size;omega) _) (by omega)
     ·exact(aiH.o.setCell cv _).setCell cv _
structure aZ where
 hs:List aT
 ag:List Int
 bH:Nat->Option aT
def du (d:aZ)(tx:Int):Option aT:=if 0<=tx then d.bH tx.toNat else none
def ud (bH:Nat->Option aT):Nat:=(List.range 6).findIdx fun k=>(bH k).isNone
def fP (bH:Nat->Option aT)(k:Nat)(t:Option aT):Nat->Option aT:=fun j=>if j=k then t else bH j
theorem qp (bH:Nat->Option aT)(k:Nat)(t:Option aT):fP bH k t k=t:=by simp[fP]
theorem nJ {bH:Nat->Option aT}{t:Option aT}(h:j≠k):fP bH k t j=bH j:=by simp[fP,h]
theorem Qw {bH:Nat->Option aT}(hk:k<6)(h:∀j,j<k->(bH j).isSome=true)(ae:bH k=none):ud bH=k:=by
 unfold ud;rw[findIdx_eq (by simpa using hk)];refine⟨by simp[ae],fun j af=>?_⟩;have:=h j af;rw[mn]at this;obtain⟨t,al⟩:=this;simp[al]
theorem ah4 {bH:Nat->Option aT}(h:∀j,j<6->(bH j).isSome=true):ud bH=6:=by
 unfold ud;have:(List.range 6).findIdx (fun k=>(bH k).isNone)=(List.range 6).length:=by
  rw[findIdx_eq_length];intro x au;have:=h x (by simpa using au);rw[mn]at this;obtain⟨t,al⟩:=this;simp[al]
 simpa using this
def fu (tE:Option aT)(key:ByteArray)(ts:List aT)(n:Nat):Int×List ByteArray×Int:=
 match tE with
 |none=>(0,[],4)
 |some t=>
  if kindOf key=99 then(wrap64 (nV t.saw key ts+sumOf key t.ops),[],0)
  else if kindOf key=114 then(0,(match dR key cK t.ops with|some o=>[o.value]|none=>lr t.saw key ts n),0)
  else if kindOf key=115 then(0,uy key t.ops (setOf t.saw key ts),0)
  else(0,[],2)
def h6 (tE:Option aT)(p:db):Int:=
 match tE with
 |none=>4
 |some t=>
  if ¬kindOf p.key=kF p.kind then 2
  else if(p.kind=1∧(p.cH< -1000000∨1000000<p.cH))∨(¬p.kind=1∧8<p.value.size)then 3
  else if 16<=t.ops.length then 5
  else 0
def pt (d:aZ):aZ:=if ud d.bH<6 then{d with bH:=fP d.bH (ud d.bH) (some ⟨0,0,d.ag,[]⟩)}else d
def tX (d:aZ):Value:=if ud d.bH<6 then .tuple #[I (ud d.bH),I 0]else .tuple #[I 0,I 5]
def jx (d:aZ)(tx:Int)(p:db):aZ:=
 match du d tx with
 |none=>d
 |some t=>if h6 (some t) p=0 then{d with bH:=fP d.bH tx.toNat (some {t with ops:=t.ops++[p]})}else d
def II (d:aZ)(tx:Int):aZ:={d with bH:=fP d.bH tx.toNat none}
def done (i:Nat)(d:aZ)(t:aT):aT:=⟨i,d.ag.getD i 0+1,t.saw,t.ops⟩
def p4 (i:Nat)(d:aZ)(tx:Int):aZ:=
 match du d tx with
 |none=>d
 |some t=>if t.ops.length=0 then II d tx else⟨d.hs++[done i d t],d.ag.set i (d.ag.getD i 0+1),fP d.bH tx.toNat none⟩
def sa (i:Nat)(d:aZ)(tx:Int):Value:=
 match du d tx with
 |none=> .tuple #[.agg #[I 0,I 0],I 4]
 |some t=>if t.ops.length=0 then .tuple #[.agg #[I 0,I 0],I 0]else .tuple #[.agg #[I i,I (d.ag.getD i 0+1)],I 0]
def tU (d:aZ)(tx:Int):aZ:=if(du d tx).isSome then II d tx else d
def vR (d:aZ)(tx:Int):Value:=if(du d tx).isSome then I 0 else I 4
theorem b3.fp {w w':World}{o o':Nat->Tag}{n:Nat}{xs:List Value}(h:b3 w o t e size v n xs)(hb:∀q,q<w.heap.size->o q=t->w'.heap[q]?=w.heap[q]?∧o' q=t):b3 w' o' t e size v n xs:=
 ⟨h.row.move fun k hk=>(hb k (h.lt hk) (h.tag k hk)).1,fun q ad=>(hb q (h.lt ad) (h.tag q ad)).2⟩
theorem cP.fp {w w':World}{o o':Nat->Tag}(h:cP w o t b cs ty)(hb:∀q,q<w.heap.size->o q=t->w'.heap[q]?=w.heap[q]?∧o' q=t):cP w' o' t b cs ty:=
 ⟨h.U.move (hb b h.U.lt h.tag).1,(hb b h.U.lt h.tag).2⟩
structure k8 (w:World)(o:Nat->Tag)(s i b n:Nat)(bD v ah bw:Value)(xs:List cq)(d:aZ):Prop where
 U:cP w o (s+2,i,0) b [I i,bD,v,ah,bw] 165
 ag:b3 w o (s+3,i,0) 3 1 bD d.ag.length (ints d.ag)
 row:b3 w o (s+4,i,0) 217 5 v xs.length (xs.flatMap cq.cells)
 len:d.ag.length=n
 ea:xs.length<=6
 bH:∀k (h:k<xs.length),xs[k].fA=(d.bH k).isSome
 s5:∀k,xs.length<=k->d.bH k=none
 tx:∀k (h:k<xs.length) t,d.bH k=some t->t.saw.length=n∧t.ops.length<=16∧b3 w o (s+5,i,k) 3 1 xs[k].sv n (ints t.saw)∧b3 w o (s+6,i,k) 171 4 xs[k].bU t.ops.length (t.ops.flatMap db.cells)
def kv (w:World)(o:Nat->Tag)(s i b n:Nat)(d:aZ):Prop:=∃bD v ah bw xs,k8 w o s i b n bD v ah bw xs d
def lu (s i:Nat)(t:Tag):Prop:=t=(s+2,i,0)∨t=(s+3,i,0)∨t=(s+4,i,0)∨∃k,t=(s+5,i,k)∨t=(s+6,i,k)
theorem k8.move {w w':World}{o o':Nat->Tag}{s i n:Nat}{ah:Value}{d:aZ}(h:k8 w o s i b n bD v ah bw xs d)
  (hm:∀q,q<w.heap.size->lu s i (o q)->w'.heap[q]?=w.heap[q]?∧o' q=o q):k8 w' o' s i b n bD v ah bw xs d:=by
 have f:∀t,lu s i t->∀q,q<w.heap.size->o q=t->w'.heap[q]?=w.heap[q]?∧o' q=t:=fun t al q ad e=>by
  have:=hm q ad (by rw[e];exact al);exact⟨this.1,this.2.trans e⟩
 refine⟨h.U.fp (f _ (Or.inl rfl)),h.ag.fp (f _ (Or.inr (Or.inl rfl))),h.row.fp (f _ (Or.inr (Or.inr (Or.inl rfl)))),h.len,h.ea,h.bH,h.s5,fun k hk t al=>?_⟩;obtain⟨a,hz,c,e⟩:=h.tx k hk t al;exact⟨a,hz,c.fp (f _ (Or.inr (Or.inr (Or.inr ⟨k,Or.inl rfl⟩)))),e.fp (f _ (Or.inr (Or.inr (Or.inr ⟨k,Or.inr rfl⟩))))⟩
theorem k8.ay {w w':World}{o o':Nat->Tag}{s i n:Nat}{ah:Value}{d:aZ}(h:k8 w o s i b n bD v ah bw xs d)(k:ct A w o w' o')(eK:∀t,lu s i t->¬A t):k8 w' o' s i b n bD v ah bw xs d:=
 h.move fun q ad e=>⟨k.ay.block q ad (eK _ e),k.same q ad⟩
structure qE (w:World)(o:Nat->Tag)(s az n:Nat)(a6 de:Value)(bs:List Nat)(c_:List cq)(ts:List aT):Prop where
 U:cP w o (s+8,0,0) az [I n,a6,de] 89
 rs:b3 w o (s+8,1,0) 96 1 a6 bs.length (bs.map fun b=>Value.pointer (some (aa b 0)))
 all:b3 w o (s+8,2,0) 217 5 de c_.length (c_.flatMap cq.cells)
 len:c_.length=ts.length
 tx:∀j (h:j<ts.length),(c_[j]'(by omega)).rep=ts[j].rep∧(c_[j]'(by omega)).seq=ts[j].seq∧ts[j].saw.length=n∧ts[j].ops.length<=16∧(0<=ts[j].rep∧ts[j].rep<n)∧
  b3 w o (s+9,j,0) 3 1 (c_[j]'(by omega)).sv n (ints ts[j].saw)∧b3 w o (s+10,j,0) 171 4 (c_[j]'(by omega)).bU ts[j].ops.length (ts[j].ops.flatMap db.cells)
 ea:ts.length<=2000000
def uQ (w:World)(o:Nat->Tag)(s az n:Nat)(bs:List Nat)(ts:List aT):Prop:=∃a6 de c_,qE w o s az n a6 de bs c_ ts
def B0 (s:Nat)(t:Tag):Prop:=(∃k,t=(s+8,k,0))∨∃j,t=(s+9,j,0)∨t=(s+10,j,0)
theorem qE.move {w w':World}{o o':Nat->Tag}{s az n:Nat}{a6:Value}{ts:List aT}(h:qE w o s az n a6 de bs c_ ts)
  (hm:∀q,q<w.heap.size->B0 s (o q)->w'.heap[q]?=w.heap[q]?∧o' q=o q):qE w' o' s az n a6 de bs c_ ts:=by
 have f:∀t,B0 s t->∀q,q<w.heap.size->o q=t->w'.heap[q]?=w.heap[q]?∧o' q=t:=fun t al q ad e=>by
  have:=hm q ad (by rw[e];exact al);exact⟨this.1,this.2.trans e⟩
 refine⟨h.U.fp (f _ (Or.inl ⟨_,rfl⟩)),h.rs.fp (f _ (Or.inl ⟨_,rfl⟩)),h.all.fp (f _ (Or.inl ⟨_,rfl⟩)),h.len,fun j af=>?_,h.ea⟩;obtain⟨a,b,c,e,r,p,q⟩:=h.tx j af;exact⟨a,b,c,e,r,p.fp (f _ (Or.inr ⟨j,Or.inl rfl⟩)),q.fp (f _ (Or.inr ⟨j,Or.inr rfl⟩))⟩
theorem qE.ay {w w':World}{o o':Nat->Tag}{s az n:Nat}{a6:Value}{ts:List aT}(h:qE w o s az n a6 de bs c_ ts)(k:ct A w o w' o')(eK:∀t,B0 s t->¬A t):qE w' o' s az n a6 de bs c_ ts:=
 h.move fun q ad e=>⟨k.ay.block q ad (eK _ e),k.same q ad⟩
theorem qE.IV {w:World}{o:Nat->Tag}{s az n:Nat}{a6:Value}{ts:List aT}(h:qE w o s az n a6 de bs c_ ts):qz w az n de c_ ts:=
 ⟨h.U.U.cell 0,h.U.U.cell 2,h.all.row,h.len,fun j af=>by
  obtain⟨a,b,c,e,r,p,q⟩:=h.tx j af;exact⟨a,b,by rw[c];exact p.row,q.row,e⟩,fun j af=>(h.tx j af).2.2.2.2.1,fun j af=>(h.tx j af).2.2.1,h.ea⟩
theorem ah3 {w:World}{o:Nat->Tag}{s i n:Nat}{ah:Value}{d:aZ}(h:k8 w o s i b n bD v ah bw xs d):(lX xs<6->ud d.bH=lX xs)∧(6<=lX xs->ud d.bH=6):=by
 have hle:lX xs<=xs.length:=by unfold lX;exact findIdx_le_length
 have X4:∀j,j<lX xs->(d.bH j).isSome=true:=fun j af=>by
  have Em:j<xs.length:=by omega
  have:=not_of_lt_findIdx (p:=fun x:cq=> !x.fA) (xs:=xs) af;rw[<-h.bH j Em];simpa using this
 refine⟨fun ep=>Qw ep X4 ?_,fun ep=>ah4 fun j af=>X4 j (by omega)⟩;by_cases aC:lX xs<xs.length
 ·have:=findIdx_getElem (p:=fun x:cq=> !x.fA) (xs:=xs) (w:=aC)
  have e:=h.bH (lX xs) aC;rw[Bool.not_eq_true']at this;have ba:(d.bH (lX xs)).isSome=false:=by rw[<-e];exact this
  cases aB:d.bH (lX xs)
  ·rfl
  ·rw[aB]at ba;cases ba
 ·exact h.s5 _ (by omega)
theorem NQ {w:World}{o:Nat->Tag}{s i n:Nat}{ah:Value}{d:aZ}(h:k8 w o s i b n bD v ah bw xs d)(tx:Int):kE xs tx=(du d tx).isSome:=by
 unfold kE du;by_cases aS:0<=tx
 ·rw[if_pos aS]
  by_cases aC:tx<xs.length
  ·rw[dif_pos ⟨aS,aC⟩];exact h.bH _ (by omega)
  ·rw[dif_neg (fun c=>aC c.2),h.s5 _ (by omega)];rfl
 ·rw[if_neg aS,dif_neg (fun c=>aS c.1)];rfl
theorem NR {w:World}{o:Nat->Tag}{s i n:Nat}{ah:Value}{d:aZ}(h:k8 w o s i b n bD v ah bw xs d){tx:Int}{t:aT}(al:du d tx=some t):∃k:Nat,tx=k∧k<xs.length∧d.bH k=some t:=by
 unfold du at al;split at al
 ·rename_i aS
  refine⟨tx.toNat,by omega,?_,al⟩;by_cases aC:tx.toNat<xs.length
  ·exact aC
  ·rw[h.s5 _ (by omega)]at al;cases al
 ·cases al
theorem Tryz.ZY:(prog.info? 41).map (fun i=>(i.zero,i.size,i.bytes))=some (some (.slice none 0 0),1,24):=by kernel_rfl
theorem CP (w:World)(cs:List Value)(t:TypeId):∀j u,cs[j]?=some u->(w.alloc (.cells cs.toArray t)).drew.cell? (((aa (w.heap.size) 0):Addr).add j)=some u:=by
 have h:=cC w (.cells cs.toArray t);exact A0 h
theorem Tryz.ZW:(prog.info? 44).map (fun i=>(i.zero,i.size,i.bytes))=some (some (.slice none 0 0),1,24):=by kernel_rfl
theorem abA {α:Type}{l:List α}{x:α}(hk:k<=l.length):(putAt l k x)[j]?=if j=k then some x else l[j]?:=by
 unfold putAt;split
 ·rename_i h
  rw[Bm];by_cases e:k=j
  ·subst e;simp[h]
  ·rw[if_neg e,if_neg (fun c=>e c.symm)]
 ·have e:k=l.length:=by omega
  subst e;by_cases e:j=l.length
  ·subst e;simp
  ·rw[if_neg e]
   by_cases af:j<l.length
   ·rw[w7 af]
   ·rw[yq (by omega),yr (by simp;omega),yr (by omega)]
theorem abB {α:Type}{l:List α}{x:α}(hk:k<=l.length):(putAt l k x).length=max l.length (k+1):=by
 unfold putAt;split<;>simp<;>omega
theorem k8.below {w w':World}{o:Nat->Tag}{s i n:Nat}{ah:Value}{d:aZ}(h:k8 w o s i b n bD v ah bw xs d)(ao:ax w w'):k8 w' o s i b n bD v ah bw xs d:=
 h.move fun q ad _=>⟨ao.block q ad,rfl⟩
theorem qE.below {w w':World}{o:Nat->Tag}{s az n:Nat}{a6:Value}{ts:List aT}(h:qE w o s az n a6 de bs c_ ts)(ao:ax w w'):qE w' o s az n a6 de bs c_ ts:=
 h.move fun q ad _=>⟨ao.block q ad,rfl⟩
theorem ct.dh {w w':World}{o:Nat->Tag}(ao:ax w w'):ct A w o w' o:=⟨Touch.dh ao,fun _ _=>rfl⟩
theorem afY {w w':World}{o:Nat->Tag}{s i n:Nat}{ah sv v':Value}{d:aZ}(h:k8 w o s i b n bD v ah bw xs d)(ep:lX xs<6)
  (P:Lb w w' b i bD v ah bw d.ag xs (lX xs) sv v'):
  ∃o',k8 w' o' s i b n bD v' ah bw (putAt xs (lX xs) ⟨true,0,0,sv,.slice none 0 0⟩) {d with bH:=fP d.bH (lX xs) (some ⟨0,0,d.ag,[]⟩)}∧ct (lu s i) w o w' o':=by
 have hle:lX xs<=xs.length:=by unfold lX;exact findIdx_le_length
 generalize hk:lX xs=k at*;let f:Nat->Tag:=fun q=>if sv.ownBlock=some q then(s+5,i,k)else(s+4,i,0)
 have nA:∀q,q<w.heap.size->gX o w.heap.size f q=o q:=fun q ad=>nF ad
 have aD:ct (lu s i) w o w' (gX o w.heap.size f):=by
  refine⟨P.ay.mono fun q ad e=>?_,nA⟩;rcases e with e|e
  ·rw[e,h.U.tag];exact Or.inl rfl
  ·rw[h.row.tag q e];exact Or.inr (Or.inr (Or.inl rfl))
 have hold:∀t,t≠(s+2,i,0)->t≠(s+4,i,0)->∀q,q<w.heap.size->o q=t->w'.heap[q]?=w.heap[q]?∧gX o w.heap.size f q=t:=fun t ae bd q ad e=>by
  refine⟨P.ay.block q ad fun c=>?_,(nA q ad).trans e⟩;rcases c with c|c
  ·exact ae (by rw[<-e,c];exact h.U.tag)
  ·exact bd (by rw[<-e];exact h.row.tag q c)
 refine⟨gX o w.heap.size f,⟨⟨P.U,(nA b h.U.U.lt).trans h.U.tag⟩,h.ag.fp (hold _ (by simp) (by simp)),⟨P.row,fun q ad=>?_⟩,h.len,?_,fun j af=>?_,fun j af=>?_,fun j af t al=>?_⟩,aD⟩
 ·rcases P.own q ad with c|c
  ·rw[nA q (h.row.lt c)];exact h.row.tag q c
  ·rw[qj c]
   show(if sv.ownBlock=some q then _ else _)=_
   rw[if_neg (P.IE q ad)]
 ·rw[abB hle];have:=h.ea;omega
 ·have e:=abA (x:=(⟨true,0,0,sv,.slice none 0 0⟩:cq)) (j:=j) hle
  rw[hg af]at e;by_cases sk:j=k
  ·subst sk
   rw[if_pos rfl]at e;rw[kt e];simp[fP]
  ·rw[if_neg sk]at e
   have Em:j<xs.length:=(w8.1 e.symm).1;rw[hg Em]at e;rw[kt e,h.bH j Em];simp[fP,sk]
 ·rw[abB hle]at af
  show fP d.bH k _ j=none
  rw[nJ (by omega)];exact h.s5 j (by omega)
 ·have e:=abA (x:=(⟨true,0,0,sv,.slice none 0 0⟩:cq)) (j:=j) hle
  rw[hg af]at e;by_cases sk:j=k
  ·subst sk
   rw[if_pos rfl]at e;have ma:=(qp d.bH j (some ⟨0,0,d.ag,[]⟩)).symm.trans al;cases ma;rw[kt e];refine⟨h.len,by simp,⟨?_,fun q ad=>?_⟩,⟨by simpa using jD _ _ _ _,fun q ad=>by simp[Value.ownBlock]at ad⟩⟩
   ·rw[<-h.len];exact e3 P.saw ch
   ·rw[qj (P.saw.lt q ad).1]
    show(if sv.ownBlock=some q then _ else _)=_
    rw[if_pos ad]
  ·rw[if_neg sk]at e
   have Em:j<xs.length:=(w8.1 e.symm).1;rw[hg Em]at e;have ma:=(nJ sk).symm.trans al;obtain⟨cO,a2,a3,a4⟩:=h.tx j Em t ma;rw[kt e];exact⟨cO,a2,a3.fp (hold _ (by simp) (by simp)),a4.fp (hold _ (by simp) (by simp))⟩
theorem WH {w w':World}{o:Nat->Tag}{s i n:Nat}{ah:Value}{d:aZ}(h:k8 w o s i b n bD v ah bw xs d)(hk:k<xs.length)
  (bf:Row w' 217 5 v xs.length ((xs.set k {xs[k]with fA:=false}).flatMap cq.cells))(al:Touch (fun q=>v.ownBlock=some q) w w'):
  k8 w' o s i b n bD v ah bw (xs.set k {xs[k]with fA:=false}) {d with bH:=fP d.bH k none}∧ct (lu s i) w o w' o:=by
 have hold:∀t,t≠(s+4,i,0)->∀q,q<w.heap.size->o q=t->w'.heap[q]?=w.heap[q]?∧o q=t:=fun t bd q ad e=>
  ⟨al.block q ad fun c=>bd (by rw[<-e];exact h.row.tag q c),e⟩
 refine⟨⟨h.U.fp (hold _ (by simp)),h.ag.fp (hold _ (by simp)),⟨by rw[k5];exact bf,h.row.tag⟩,h.len,by rw[k5];exact h.ea,fun j af=>?_,fun j af=>?_,fun j af t JV=>?_⟩,⟨al.mono fun q _ e=>by rw[h.row.tag q e];exact Or.inr (Or.inr (Or.inl rfl)),fun _ _=>rfl⟩⟩
 ·rw[k5]at af
  by_cases e:k=j
  ·subst e;simp[fP]
  ·rw[w9 e,h.bH j af]
   show _=(fP d.bH k none j).isSome
   rw[nJ (fun c=>e c.symm)]
 ·rw[k5]at af
  by_cases e:j=k
  ·subst e;exact qp _ _ _
  ·exact(nJ e).trans (h.s5 j af)
 ·rw[k5]at af
  by_cases e:j=k
  ·subst e
   have c:=(qp d.bH j none).symm.trans JV;cases c
  ·have c:=(nJ e).symm.trans JV
   obtain⟨cO,a2,a3,a4⟩:=h.tx j af t c;rw[w9 (fun c=>e c.symm)];exact⟨cO,a2,a3.fp (hold _ (by simp)),a4.fp (hold _ (by simp))⟩
theorem adw (v:List Int)(key:ByteArray)(ts:List aT)(t:aT):∀(es acc:List ByteArray),(es.foldl (q5 v key ts t) acc).length<=acc.length+es.length
 |[],acc=>by simp
 |e::es,acc=>by
  have a:=aoR v key ts t acc e;have b:=adw v key ts t es (q5 v key ts t acc e);simp only[sO,lP];omega
theorem ack (v:List Int)(key:ByteArray)(ts:List aT)(eI:∀t,t∈ts->t.ops.length<=16):(setOf v key ts).length<=16*ts.length:=by
 have:∀(us:List aT) (acc:List ByteArray),(∀t,t∈us->t.ops.length<=16)->(us.foldl (rX v key ts) acc).length<=acc.length+16*us.length:=by
  intro us;induction us with
  |nil=>intro acc _;simp
  |cons u us ih=>
   intro acc h;have a:(rX v key ts acc u).length<=acc.length+16:=by
    unfold rX;split
    ·have:=adw v key ts u (lG key u.ops) acc
     have:=IG key u.ops;have:=h u (by simp);omega
    ·omega
   have b:=ih (rX v key ts acc u) (fun t al=>h t (by simp[al]));simp only[sO,lP];omega
 simpa[setOf]using this ts [] eI
structure DJ (t:aT)(ts:List aT):Prop where
 pos:∀r (h:r<t.saw.length),0<=t.saw[r]∧t.saw[r]<=2000000
 full:∀r (h:r<t.saw.length) (s:Nat),(s:Int)+1<=t.saw[r]->∃u,u∈ts∧kY (r:Int) ((s:Int)+1) u=true
theorem Tr (w:World)(o:Nat->Tag)(s i b az n:Nat)(bs:List Nat)(d:aZ)(ts:List aT)(tx:Int)(key:ByteArray)(h:kv w o s i b n d)(G:uQ w o s az n bs ts)(b2:n<=5)(eC:key.size<=maxLen)
  (im:∀t,du d tx=some t->DJ t ts):
  Calls prog 88 #[.pointer (some (aa az 0)),.pointer (some (aa b 0)),I tx,ai key] w fun e w'=>∃bz,e= .returned (oM (fu (du d tx) key ts n).1 bz (fu (du d tx) key ts n).2.2)∧
   w'.ownsRow w.heap.size 9 1 bz (fu (du d tx) key ts n).2.1.length (strs (fu (du d tx) key ts n).2.1)∧ax w w':=by
 obtain⟨bD,v,ah,bw,xs,h⟩:=h;obtain⟨a6,de,c_,G⟩:=G;have eI:=NQ h tx;cases aB:du d tx with
 |none=>
  rw[aB]at eI;refine(aoB w az b v xs tx key h.ea (h.U.U.cell 2) h.row.row eI).mono ?_;rintro e w' ⟨rfl,ao⟩;exact⟨_,rfl,by simpa[fu,strs]using jD _ _ _ _,ao⟩
 |some t=>
  obtain⟨k,rfl,hk,gi⟩:=NR h aB;have dJ:=im t aB;have qX:xs[k].fA=true:=by rw[h.bH k hk,gi];rfl
  obtain⟨cO,a2,a3,a4⟩:=h.tx k hk t gi;have aD:uR w xs[k] {t with rep:=xs[k].rep,seq:=xs[k].seq}:=⟨rfl,rfl,by show Row w _ 1 _ t.saw.length _;rw[cO];exact a3.row,a4.row,a2⟩;have MO:=G.IV;by_cases Gc:kindOf key=99
  ·have fl:fu (some t) key ts n=(wrap64 (nV t.saw key ts+sumOf key t.ops),[],0):=by simp[fu,Gc]
   rw[fl];refine(aoz w az b n de v c_ xs ts k key _ h.ea hk eC MO (h.U.U.cell 2) h.row.row qX aD cO Gc).mono ?_;rintro e w' ⟨rfl,ao⟩;exact⟨_,rfl,by simpa[strs]using jD _ _ _ _,ao⟩
  ·by_cases B1:kindOf key=114
   ·cases kj:dR key cK t.ops with
    |some p=>
     have fl:fu (some t) key ts n=(0,[p.value],0):=by simp[fu,B1,kj]
     rw[fl];refine(aoC w az b n de v c_ xs ts k key _ p h.ea hk eC MO (h.U.U.cell 2) h.row.row qX aD cO B1 kj).mono ?_;rintro e w' ⟨bz,rfl,aC,ao⟩;exact⟨bz,rfl,aC,ao⟩
    |none=>
     have fl:fu (some t) key ts n=(0,lr t.saw key ts n,0):=by simp[fu,B1,kj]
     rw[fl];refine(aoE w az b n de v c_ xs ts k key _ h.ea hk eC MO (h.U.U.cell 2) h.row.row qX aD cO B1 kj b2 dJ.pos dJ.full).mono ?_;rintro e w' ⟨bz,rfl,aC,ao⟩;exact⟨bz,rfl,aC,ao⟩
   ·by_cases Ga:kindOf key=115
    ·have fl:fu (some t) key ts n=(0,uy key t.ops (setOf t.saw key ts),0):=by simp[fu,Ga]
     rw[fl];refine(aoD w az b n de v c_ xs ts k key _ h.ea hk eC MO (h.U.U.cell 2) h.row.row qX aD cO Ga ?_).mono ?_
     ·have:=ack t.saw key ts (fun u hu=>by obtain⟨j,af,rfl⟩:=fQ.1 hu;exact(G.tx j af).2.2.2.1)
      have:=G.ea;show(setOf t.saw key ts).length<=40000000
      omega
     ·rintro e w' ⟨bz,rfl,aC,ao⟩
      exact⟨bz,rfl,aC,ao⟩
    ·have fl:fu (some t) key ts n=(0,[],2):=by simp[fu,Gc,B1,Ga]
     rw[fl];have aS:kindOf key=0:=by
      by_cases hs:1<=key.size∧key.size<=8
      ·rw[Sm hs]at Gc B1 Ga⊢
       split at Gc
       ·rename_i c
        rw[if_pos c]at B1 Ga;rcases c with c|c|c
        ·exact absurd c Gc
        ·exact absurd c B1
        ·exact absurd c Ga
       ·rename_i c;rw[if_neg c]
      ·exact J_ hs
     refine(aoA w az b v xs k key h.ea hk eC (h.U.U.cell 2) h.row.row qX aS).mono ?_;rintro e w' ⟨rfl,ao⟩;exact⟨_,rfl,by simpa[strs]using jD _ _ _ _,ao⟩
structure dS (B:Tag->Prop)(w:World)(o:Nat->Tag)(w':World)(o':Nat->Tag):Prop where
 ay:Touch (fun q=>B (o q)) w w'
 same:∀q,q<w.heap.size->¬B (o q)->o' q=o q
theorem ct.da {w w':World}{o o':Nat->Tag}(h:ct A w o w' o')(hs:∀t,A t->B t):dS B w o w' o':=⟨h.ay.mono fun _ _=>hs _,fun q ad _=>h.same q ad⟩
theorem dS.mono {w w':World}{o o':Nat->Tag}(h:dS A w o w' o')(hs:∀t,A t->B t):dS B w o w' o':=⟨h.ay.mono fun _ _=>hs _,fun q ad hb=>h.same q ad fun a=>hb (hs _ a)⟩
theorem dS.trans {w an w2:World}{o o1 dx:Nat->Tag}(h:dS B w o an o1)(k:dS B an o1 w2 dx):dS B w o w2 dx:=by
 refine⟨⟨k.ay.os.trans h.ay.os,k.ay.tape.trans h.ay.tape,k.ay.output.trans h.ay.output,fx h.ay.size k.ay.size,fun q ad hb=>?_⟩,fun q ad hb=>?_⟩
 ·rw[k.ay.block q (hV ad h.ay.size) (by rw[h.same q ad hb];exact hb),h.ay.block q ad hb]
 ·rw[k.same q (hV ad h.ay.size) (by rw[h.same q ad hb];exact hb),h.same q ad hb]
theorem dS.at {w w':World}{o o':Nat->Tag}(h:dS B w o w' o'){q:Nat}(ad:q<w.heap.size)(hb:¬B (o q)):w'.heap[q]?=w.heap[q]?∧o' q=o q:=⟨h.ay.block q ad hb,h.same q ad hb⟩
theorem k8.da {w w':World}{o o':Nat->Tag}{s i n:Nat}{ah:Value}{d:aZ}(h:k8 w o s i b n bD v ah bw xs d)(k:dS B w o w' o')(ao:∀t,lu s i t->¬B t):k8 w' o' s i b n bD v ah bw xs d:=
 h.move fun _ ad e=>k.at ad (ao _ e)
theorem qE.da {w w':World}{o o':Nat->Tag}{s az n:Nat}{a6:Value}{ts:List aT}(h:qE w o s az n a6 de bs c_ ts)(k:dS B w o w' o')(ao:∀t,B0 s t->¬B t):qE w' o' s az n a6 de bs c_ ts:=
 h.move fun _ ad e=>k.at ad (ao _ e)
theorem b3.da {w w':World}{o o':Nat->Tag}{n:Nat}{xs:List Value}(h:b3 w o t e size v n xs)(k:dS B w o w' o')(ao:¬B t):b3 w' o' t e size v n xs:=
 h.fp fun q ad e=>⟨(k.at ad (by rw[e];exact ao)).1,(k.at ad (by rw[e];exact ao)).2.trans e⟩
theorem cP.da {w w':World}{o o':Nat->Tag}(h:cP w o t b cs ty)(k:dS B w o w' o')(ao:¬B t):cP w' o' t b cs ty:=
 h.fp fun q ad e=>⟨(k.at ad (by rw[e];exact ao)).1,(k.at ad (by rw[e];exact ao)).2.trans e⟩
theorem b3.rename {w:World}{o:Nat->Tag}{n:Nat}{xs:List Value}(h:b3 w o t e size v n xs)(r:Tag->Tag):b3 w (fun q=>r (o q)) (r t) e size v n xs:=
 ⟨h.row,fun q ad=>by show r (o q)=r t;rw[h.tag q ad]⟩
theorem cP.rename {w:World}{o:Nat->Tag}(h:cP w o t b cs ty)(r:Tag->Tag):cP w (fun q=>r (o q)) (r t) b cs ty:=
 ⟨h.U,by show r (o b)=r t;rw[h.tag]⟩
def gives (s i k m:Nat)(t:Tag):Tag:=if t=(s+5,i,k)then(s+9,m,0)else if t=(s+6,i,k)then(s+10,m,0)else t
theorem aik (s i k m:Nat):gives s i k m (s+5,i,k)=(s+9,m,0):=by simp[gives]
theorem aij (s i k m:Nat):gives s i k m (s+6,i,k)=(s+10,m,0):=by simp[gives]
theorem Mp {s i m:Nat}(h1:t≠(s+5,i,k))(ae:t≠(s+6,i,k)):gives s i k m t=t:=by simp[gives,h1,ae]
def vY (s i:Nat)(t:Tag):Prop:=t=(s+8,0,0)∨t=(s+8,2,0)∨t=(s+3,i,0)∨t=(s+4,i,0)
def Ad (s i:Nat)(t:Tag):Prop:=lu s i t∨B0 s t
theorem agN {w w':World}{o o':Nat->Tag}{s i az n:Nat}{ah a6 yL:Value}{ts:List aT}{d:aZ}{t:aT}(h:k8 w o s i b n bD v ah bw xs d)(G:qE w o s az n a6 de bs c_ ts)
  (hk:k<xs.length)(gi:d.bH k=some t)(aq:i<d.ag.length)(mc:ts.length<2000000)
  (C:jv (vY s i) w o w' o' (s+8,0,0) (s+8,2,0) (s+2,i,0) (s+3,i,0) (s+4,i,0) az b n i a6 yL bD v ah bw (d.ag.set i (d.ag[i]+1)) (c_++[{xs[k]with fA:=false,rep:=i,seq:=d.ag[i]+1}]) (xs.set k {xs[k]with fA:=false})):
  ∃dx,k8 w' dx s i b n bD v ah bw (xs.set k {xs[k]with fA:=false}) ⟨d.hs++[done i d t],d.ag.set i (d.ag.getD i 0+1),fP d.bH k none⟩∧qE w' dx s az n a6 yL bs (c_++[{xs[k]with fA:=false,rep:=i,seq:=d.ag[i]+1}]) (ts++[done i d t])∧dS (Ad s i) w o w' dx:=by
 have AH:d.ag.getD i 0=d.ag[i]:=by simp[aq]
 have aC:=h.len;obtain⟨cO,a2,a3,a4⟩:=h.tx k hk t gi;have rQ:∀{ed:Tag} {e:TypeId} {size:Nat} {v:Value} {n:Nat} {bb:List Value},b3 w o ed e size v n bb->¬vY s i ed->b3 w' (fun q=>gives s i k ts.length (o' q)) (gives s i k ts.length ed) e size v n bb:=fun aw aA=>(aw.ay C.ay aA).rename _
 have J9:∀{ed:Tag} {e:TypeId} {size:Nat} {v:Value} {n:Nat} {bb:List Value},b3 w o ed e size v n bb->¬vY s i ed->ed≠(s+5,i,k)->ed≠(s+6,i,k)->b3 w' (fun q=>gives s i k ts.length (o' q)) ed e size v n bb:=fun aw aA h1 ae=>by
  have a:=rQ aw aA;rw[Mp h1 ae]at a;exact a
 have hQ:∀{ed:Tag} {e:TypeId} {size:Nat} {v:Value} {n:Nat} {bb:List Value},b3 w' o' ed e size v n bb->ed≠(s+5,i,k)->ed≠(s+6,i,k)->b3 w' (fun q=>gives s i k ts.length (o' q)) ed e size v n bb:=fun aw h1 ae=>by
  have a:=aw.rename (gives s i k ts.length);rw[Mp h1 ae]at a;exact a
 have ak:∀{ed:Tag} {hz:Nat} {cs:List Value} {ty:TypeId},cP w' o' ed hz cs ty->ed≠(s+5,i,k)->ed≠(s+6,i,k)->cP w' (fun q=>gives s i k ts.length (o' q)) ed hz cs ty:=fun aw h1 ae=>by
  have a:=aw.rename (gives s i k ts.length);rw[Mp h1 ae]at a;exact a
 have fW:=G.len;refine⟨fun q=>gives s i k ts.length (o' q),⟨ak C.rep (by simp) (by simp),?_,hQ C.row (by simp) (by simp),?_,by rw[k5];exact h.ea,fun j af=>?_,fun j af=>?_,fun j af u hu=>?_⟩,
  ⟨ak C.hE (by simp) (by simp),J9 G.rs (by simp[vY]) (by simp) (by simp),hQ C.all (by simp) (by simp),by simp[fW],fun j af=>?_,by simp;omega⟩,⟨C.ay.ay.mono fun q _ aA=>?_,fun q ad hb=>?_⟩⟩
 ·rw[AH];exact hQ C.ag (by simp) (by simp)
 ·simp[aC]
 ·rw[k5]at af
  show _=(fP d.bH k none j).isSome
  by_cases e:k=j
  ·subst e;simp[fP]
  ·rw[w9 e,h.bH j af,nJ (fun c=>e c.symm)]
 ·rw[k5]at af
  by_cases e:j=k
  ·subst e;exact qp _ _ _
  ·exact(nJ e).trans (h.s5 j af)
 ·rw[k5]at af
  by_cases e:j=k
  ·subst e
   have c:=(qp d.bH j none).symm.trans hu;cases c
  ·have c:=(nJ e).symm.trans hu
   obtain⟨c1,c2,c3,c4⟩:=h.tx j af u c;rw[w9 (fun c=>e c.symm)];exact⟨c1,c2,J9 c3 (by simp[vY]) (by simp[e]) (by simp),J9 c4 (by simp[vY]) (by simp) (by simp[e])⟩
 ·rw[eN,ys]at af
  by_cases Cn:j<ts.length
  ·obtain⟨c1,c2,c3,c4,c5,iG,hA⟩:=G.tx j Cn
   simp only[Dg Cn,Dg (show j<c_.length by omega)];exact⟨c1,c2,c3,c4,c5,J9 iG (by simp[vY]) (by simp) (by simp),J9 hA (by simp[vY]) (by simp) (by simp)⟩
  ·have e:j=ts.length:=by omega
   subst e;have aP:(ts++[done i d t])[ts.length]'(by simp)=done i d t:=by simp
   have ba:(c_++[({xs[k]with fA:=false,rep:=i,seq:=d.ag[i]+1}:cq)])[ts.length]'(by simp;omega)={xs[k]with fA:=false,rep:=i,seq:=d.ag[i]+1}:=by
    rw[Fj (by omega)];simp[fW]
   rw[aP,ba];refine⟨rfl,by simp only[done];rw[AH],cO,a2,⟨by simp[done],by simp only[done];omega⟩,?_,?_⟩
   ·have c:=rQ a3 (by simp[vY])
    rw[aik]at c;exact c
   ·have c:=rQ a4 (by simp[vY])
    rw[aij]at c;exact c
 ·rcases aA with c|c|c|c
  ·exact Or.inr (Or.inl ⟨0,c⟩)
  ·exact Or.inr (Or.inl ⟨2,c⟩)
  ·exact Or.inl (Or.inr (Or.inl c))
  ·exact Or.inl (Or.inr (Or.inr (Or.inl c)))
 ·show gives s i k ts.length (o' q)=o q
  rw[C.ay.same q ad];exact Mp (fun e=>hb (Or.inl (Or.inr (Or.inr (Or.inr ⟨k,Or.inl e⟩))))) (fun e=>hb (Or.inl (Or.inr (Or.inr (Or.inr ⟨k,Or.inr e⟩)))))
def Ai (i:Nat)(d:aZ)(tx:Int)(ts:List aT):List aT:=
 match du d tx with
 |none=>ts
 |some t=>if t.ops.length=0 then ts else ts++[done i d t]
abbrev ptr (b:Nat):Value:= .pointer (some (aa b 0))
def pd (n:Nat):aZ:=⟨[],replicate n 0,fun _=>none⟩
structure Room (d:aZ):Prop where
 df:d.hs.length<=1100000
 ag:∀j (af:j<d.ag.length),0<=d.ag[j]∧d.ag[j]<=1100000
def vu (bs:List Nat):List Value:=bs.map fun b=>ptr b
def fN (s:Nat)(t:Tag):Prop:=s+1<=t.1∧t.1<=s+12
theorem Oe {s i:Nat}(h:lu s i t):fN s t:=by
 rcases h with rfl|rfl|rfl|⟨k,rfl|rfl⟩<;>exact⟨by simp,by simp⟩
theorem ais {s:Nat}(h:B0 s t):fN s t:=by
 rcases h with⟨k,rfl⟩|⟨k,rfl|rfl⟩<;>exact⟨by simp,by simp⟩
theorem aos {s i:Nat}(l6:i≠j)(h:lu s i t):¬lu s j t:=by
 rintro (e|e|e|⟨gC,e|e⟩)<;>rcases h with rfl|rfl|rfl|⟨k,rfl|rfl⟩<;>simp at e<;>omega
theorem Xn {s i:Nat}(h:B0 s t):¬lu s i t:=by
 rintro (e|e|e|⟨gC,e|e⟩)<;>rcases h with⟨k,rfl⟩|⟨k,rfl|rfl⟩<;>simp at e
section
variable {aX:World->(Nat->Tag)->Tag->Nat->Nat->Nat->aZ->Prop}{w w':World}{o o':Nat->Tag}{s aj az n m i:Nat}{aI ak:List Nat}{a6 a8 aG aK aN ah:Value}{ar:Int}{eG b1:List aZ}{ts:List aT}
theorem tw (w:World)(o:Nat->Tag)(bE:Obj)(t:Tag):dS B w o (w.alloc bE) (ee o w.heap.size t):=
 ⟨⟨rfl,rfl,rfl,by simp,fun q ad _=>iW w bE q ad⟩,fun q ad _=>sL (by omega)⟩
theorem cP.fresh (w:World)(o:Nat->Tag)(cs:List Value)(ty:TypeId)(t:Tag):cP (w.alloc (.cells cs.toArray ty)) (ee o w.heap.size t) t w.heap.size cs ty:=⟨cC w (.cells cs.toArray ty),Hl _ _ _⟩
end
theorem Oq {v:List Int}(h:∀r,v.getD r 0<=ag.getD r 0){s:Int}(hs:fc v r s=true):fc ag r s=true:=by
 unfold fc at hs⊢;rw[mo]at hs⊢;exact vC hs (h _)
theorem Qv {α:Type}(f:α->Bool):∀(l:List α) (b:Bool),l.foldl (fun acc u=>acc||f u) b=(b||l.any f)
 |[],b=>by simp
 |a::l,b=>by simp[Qv f l,Bool.or_assoc]
theorem NU (v:List Int)(key:ByteArray)(t:aT)(l:List aT):sD v key t l=l.any fun u=>fc v u.rep u.seq&&fc u.saw t.rep t.seq&&(dR key cK u.ops).isSome:=by
 unfold sD;have e:Ko v key t=fun acc u=>acc||(fc v u.rep u.seq&&fc u.saw t.rep t.seq&&(dR key cK u.ops).isSome):=by funext acc u;rfl
 rw[e,Qv];simp
theorem Qx (v:List Int)(key el:ByteArray)(t:aT)(l:List aT):mB v key el t l=l.any fun u=>fc v u.rep u.seq&&fc u.saw t.rep t.seq&&(dR key el u.ops).isSome&&decide (hZ (dR key el u.ops)=4):=by
 unfold mB;have e:IT v key el t=fun acc u=>acc||(fc v u.rep u.seq&&fc u.saw t.rep t.seq&&(dR key el u.ops).isSome&&decide (hZ (dR key el u.ops)=4)):=by funext acc u;rfl
 rw[e,Qv];simp
theorem Vy {α:Type}{f g:α->Bool}{l ts:List α}(aw:l.Perm (ts.filter g))(ajo:∀u,f u=true->g u=true):l.any f=ts.any f:=by
 rw[Bool.eq_iff_iff,zJ,zJ];constructor
 ·rintro ⟨u,hu,bm⟩
  exact⟨u,(ra.1 (aw.mem_iff.1 hu)).1,bm⟩
 ·rintro ⟨u,hu,bm⟩
  exact⟨u,aw.mem_iff.2 (ra.2 ⟨hu,ajo u bm⟩),bm⟩
theorem am9 {v:List Int}{t:aT}{ts:List aT}(aw:l.Perm (ts.filter fun u=>fc ag u.rep u.seq))(av:∀r,v.getD r 0<=ag.getD r 0):sD v key t l=sD v key t ts:=by
 rw[NU,NU];exact Vy aw fun u hu=>Oq av (by simp only[qv]at hu;exact hu.1.1)
theorem Xj {v:List Int}{el:ByteArray}{t:aT}{ts:List aT}(aw:l.Perm (ts.filter fun u=>fc ag u.rep u.seq))(av:∀r,v.getD r 0<=ag.getD r 0):mB v key el t l=mB v key el t ts:=by
 rw[Qx,Qx];exact Vy aw fun u hu=>Oq av (by simp only[qv]at hu;exact hu.1.1.1)
def ub (v:List Int)(key:ByteArray)(l:List aT):Int:=(l.map fun t=>if fc v t.rep t.seq then sumOf key t.ops else 0).sum
theorem wrap_add (a b:Int):wrap64 (wrap64 a+b)=wrap64 (a+b):=by unfold wrap64;omega
theorem We (v:List Int)(key:ByteArray)(l:List aT):nV v key l=wrap64 (ub v key l):=by
 have:∀(l:List aT) (a:Int),l.foldl (fun n t=>if fc v t.rep t.seq then wrap64 (n+sumOf key t.ops)else n) (wrap64 a)=wrap64 (a+ub v key l):=by
  intro l;induction l with
  |nil=>intro a;simp[ub]
  |cons t l ih=>
   intro a;rw[sO];have e:ub v key (t::l)=(if fc v t.rep t.seq then sumOf key t.ops else 0)+ub v key l:=by simp[ub]
   rw[e];by_cases h:fc v t.rep t.seq=true
   ·rw[if_pos h,if_pos h,wrap_add,ih,Int.add_assoc]
   ·rw[if_neg h,if_neg h,ih];congr 1;omega
 have h:=this l 0;rw[Int.zero_add,show wrap64 0=0 by unfold wrap64;omega]at h;exact h
theorem apn {l ca:List Int}(h:l.Perm ca):l.sum=ca.sum:=by
 induction h with
 |nil=>rfl
 |cons x _ ih=>simp[ih]
 |swap x y l=>simp;omega
 |trans _ _ h1 ae=>exact h1.trans ae
theorem Wk (v ag:List Int)(key:ByteArray)(av:∀r,v.getD r 0<=ag.getD r 0):∀ts:List aT,ub v key (ts.filter fun u=>fc ag u.rep u.seq)=ub v key ts
 |[]=>rfl
 |t::ts=>by
  have ih:=Wk v ag key av ts;have e:ub v key (t::ts)=(if fc v t.rep t.seq then sumOf key t.ops else 0)+ub v key ts:=by simp[ub]
  rw[e,filter_cons];by_cases h:fc ag t.rep t.seq=true
  ·rw[if_pos h]
   have ba:ub v key (t::ts.filter fun u=>fc ag u.rep u.seq)=(if fc v t.rep t.seq then sumOf key t.ops else 0)+ub v key (ts.filter fun u=>fc ag u.rep u.seq):=by simp[ub]
   rw[ba,ih]
  ·rw[if_neg h,ih,if_neg (fun c=>h (Oq av c))];omega
theorem counter_same {v:List Int}{ts:List aT}(aw:l.Perm (ts.filter fun u=>fc ag u.rep u.seq))(av:∀r,v.getD r 0<=ag.getD r 0):nV v key l=nV v key ts:=by
 rw[We,We,<-Wk v ag key av ts];congr 1;exact apn (aw.map _)
theorem ap7 {ts:List aT}(hu:ts.Pairwise fun u v=>¬(u.rep=v.rep∧u.seq=v.seq)){a b:aT}(aU:a∈ts)(hb:b∈ts)(h:a.rep=b.rep∧a.seq=b.seq):a=b:=by
 obtain⟨i,aq,rfl⟩:=fQ.1 aU;obtain⟨j,af,rfl⟩:=fQ.1 hb;rw[vD]at hu;rcases Nat.lt_trichotomy i j with c|c|c
 ·exact absurd h (hu i j aq af c)
 ·subst c;rfl
 ·exact absurd ⟨h.1.symm,h.2.symm⟩ (hu j i af aq c)
theorem WY {ts:List aT}(hu:ts.Pairwise fun u v=>¬(u.rep=v.rep∧u.seq=v.seq))(l_:∀u,u∈l->u∈ts){s:Int}{u:aT}(za:u∈l)(aB:kY r s u=true):u4 l r s=u:=by
 obtain⟨i,aq,h1,-,aH⟩:=Qr ⟨u,za,aB⟩;rw[aH];unfold kY at h1 aB;rw[mo]at h1 aB;exact ap7 hu (l_ _ (eT aq)) (l_ u za) ⟨h1.1.trans aB.1.symm,h1.2.trans aB.2.symm⟩
theorem abX {v:List Int}{ts:List aT}{r:Nat}(aw:l.Perm (ts.filter fun u=>fc ag u.rep u.seq))(av:∀r,v.getD r 0<=ag.getD r 0)(hu:ts.Pairwise fun u v=>¬(u.rep=v.rep∧u.seq=v.seq))
  (oW:∀s:Nat,(s:Int)+1<=ag.getD r 0->∃u,u∈ts∧kY (r:Int) ((s:Int)+1) u=true):∀m:Nat,(m:Int)<=v.getD r 0->pQ v key l r m=pQ v key ts r m
 |0,_=>rfl
 |m+1,hm=>by
  rw[Ob,Ob,abX aw av hu oW m (by omega)];congr 1;have mf:=av r;obtain⟨u,ZE,aB⟩:=oW m (by omega);have jk:=aB;unfold kY at jk;rw[mo]at jk;have za:u∈l:=aw.mem_iff.2 (ra.2 ⟨ZE,by
   unfold fc;rw[mo,jk.1,jk.2];simp only[kL];omega⟩)
  rw[WY hu (fun x au=>(ra.1 (aw.mem_iff.1 au)).1) za aB,WY hu (fun x au=>au) ZE aB];unfold tA;rw[am9 aw av]
theorem abZ {v:List Int}{ts:List aT}(aw:l.Perm (ts.filter fun u=>fc ag u.rep u.seq))(av:∀r,v.getD r 0<=ag.getD r 0)(hu:ts.Pairwise fun u v=>¬(u.rep=v.rep∧u.seq=v.seq))(n:Nat)
  (oW:∀r,r<n->∀s:Nat,(s:Int)+1<=ag.getD r 0->∃u,u∈ts∧kY (r:Int) ((s:Int)+1) u=true)(AQ:∀r,0<=v.getD r 0):∀k,k<=n->lr v key l k=lr v key ts k
 |0,_=>rfl
 |k+1,hk=>by
  have aS:=AQ k;rw[Oc,Oc,abZ aw av hu n oW AQ k (by omega),abX aw av hu (oW k (by omega)) _ (by omega)]
theorem Ke:∀a:List UInt8,Op.bytesLess a a=false
 |[]=>rfl
 |x::a=>by simp[Op.bytesLess,Ke a]
theorem NC:∀{a b c:List UInt8},Op.bytesLess a b=true->Op.bytesLess b c=true->Op.bytesLess a c=true
 |_,[],_,h,_=>by simp[Op.bytesLess]at h
 |_,_::_,[],_,h=>by simp[Op.bytesLess]at h
 |[],_::_,_::_,_,_=>rfl
 |x::a,y::b,z::c,h1,ae=>by
  simp only[Op.bytesLess,Bool.or_eq_true,mo,qv,beq_iff_eq]at h1 ae⊢;rcases h1 with h1|⟨rfl,h1⟩
  ·rcases ae with ae|⟨rfl,ae⟩
   ·exact Or.inl (UInt8.lt_trans h1 ae)
   ·exact Or.inl h1
  ·rcases ae with ae|⟨rfl,ae⟩
   ·exact Or.inl ae
   ·exact Or.inr ⟨rfl,NC h1 ae⟩
theorem GR:∀a b:List UInt8,a=b∨Op.bytesLess a b=true∨Op.bytesLess b a=true
 |[],[]=>Or.inl rfl
 |[],_::_=>Or.inr (Or.inl rfl)
 |_::_,[]=>Or.inr (Or.inr rfl)
 |x::a,y::b=>by
  by_cases e:x=y
  ·subst e
   rcases GR a b with h|h|h
   ·left;rw[h]
   ·right;left;simp[Op.bytesLess,h]
   ·right;right;simp[Op.bytesLess,h]
  ·rcases Nat.lt_or_gt_of_ne (fun c=>e (UInt8.toNat_inj.1 c))with h|h
   ·right;left;simp[Op.bytesLess,UInt8.lt_iff_toNat_lt.2 h]
   ·right;right;simp[Op.bytesLess,UInt8.lt_iff_toNat_lt.2 h]
theorem apH {b:ByteArray}(h:a.toList=b.toList):a=b:=yb.1 (by rw[h];simp)
theorem C4 (a:ByteArray):strLt a a=false:=Ke _
theorem Oy {b c:ByteArray}(h1:strLt a b=true)(ae:strLt b c=true):strLt a c=true:=NC h1 ae
theorem KR (a b:ByteArray):a=b∨strLt a b=true∨strLt b a=true:=(GR a.toList b.toList).imp apH id
def my (l:List ByteArray):Prop:=l.Pairwise fun a b=>strLt a b=true
theorem TC:∀{l m:List ByteArray},my l->my m->(∀a,a∈l↔a∈m)->l=m
 |[],[],_,_,_=>rfl
 |[],b::m,_,_,h=>by have:=(h b).2 (by simp);simp at this
 |a::l,[],_,_,h=>by have:=(h a).1 (by simp);simp at this
 |a::l,b::m,aC,hm,h=>by
  obtain⟨aU,Cr⟩:=xa.1 aC;obtain⟨hb,qa⟩:=xa.1 hm;have e:a=b:=by
   rcases h3.1 ((h a).1 (by simp))with c|c
   ·exact c
   ·rcases h3.1 ((h b).2 (by simp))with c'|c'
    ·exact c'.symm
    ·have x:=Oy (aU b c') (hb a c)
     rw[C4]at x;cases x
  subst e;congr 1;refine TC Cr qa fun x=>⟨fun au=>?_,fun au=>?_⟩
  ·rcases h3.1 ((h x).1 (by simp[au]))with c|c
   ·subst c;have y:=aU x au;rw[C4]at y;cases y
   ·exact c
  ·rcases h3.1 ((h x).2 (by simp[au]))with c|c
   ·subst c;have y:=hb x au;rw[C4]at y;cases y
   ·exact c
theorem abv (L:List ByteArray)(s:ByteArray)(aJ:my L)(hs:∀a,a∈L->a≠s):∀k,k<=L.length->place L s k<=k∧(∀j (h:j<L.length),j<place L s k->strLt L[j] s=true)∧(∀j (h:j<L.length),place L s k<=j->j<k->strLt s L[j]=true)
 |0,_=>⟨cv,fun j _ h=>by simp[place]at h,fun j _ _ h=>by omega⟩
 |k+1,hk=>by
  have dU:k<L.length:=by omega
  have aM:L.getD k cK=L[k]:=by simp[dU]
  obtain⟨i1,i2,i3⟩:=abv L s aJ hs k (by omega);unfold place;rw[aM];split
  ·rename_i br
   refine⟨by omega,i2,fun j af h1 ae=>?_⟩;by_cases c:j=k
   ·subst c;exact br
   ·exact i3 j af h1 (by omega)
  ·rename_i br
   refine⟨cv,fun j af h=>?_,fun j _ h1 ae=>by omega⟩;have gi:strLt L[k] s=true:=by
    rcases KR L[k] s with c|c|c
    ·exact absurd c (hs _ (eT dU))
    ·exact c
    ·exact absurd c br
   by_cases c:j=k
   ·subst c;exact gi
   ·exact Oy ((vD.1 aJ) j k af dU (by omega)) gi
theorem Ug {L:List ByteArray}(aJ:my L)(s:ByteArray):my (ph L s)∧∀a,a∈ph L s↔a∈L∨a=s:=by
 unfold ph;split
 ·rename_i h
  obtain⟨a,aU,aB⟩:=zJ.1 h;have e:=sM aB;subst e;exact⟨aJ,fun x=>⟨Or.inl,fun c=>c.elim id (fun e=>e▸aU)⟩⟩
 ·rename_i h
  have hs:∀a,a∈L->a≠s:=fun a aU e=>h (zJ.2 ⟨a,aU,by simp[e]⟩)
  obtain⟨dk,eu,eL⟩:=abv L s aJ hs L.length cv;generalize place L s L.length=k at*;refine⟨?_,fun a=>?_⟩
  ·unfold o8 my
   rw[pairwise_append];refine⟨aJ.sublist (take_sublist _ _),xa.2 ⟨fun b hb=>?_,aJ.sublist (drop_sublist _ _)⟩,fun a aU b hb=>?_⟩
   ·obtain⟨i,aq,rfl⟩:=mem_drop_iff_getElem.1 hb
    exact eL _ (by omega) (by omega) (by omega)
   ·obtain⟨i,aq,rfl⟩:=mem_take_iff_getElem.1 aU
    have ajG:i<k:=by omega
    rcases h3.1 hb with c|c
    ·subst c;exact eu i (by omega) ajG
    ·obtain⟨j,af,rfl⟩:=mem_drop_iff_getElem.1 c
     exact(vD.1 aJ) i _ (by omega) (by omega) (by omega)
  ·unfold o8
   rw[hT,h3];constructor
   ·rintro (c|c|c)
    ·exact Or.inl (Fg c)
    ·exact Or.inr c
    ·exact Or.inl (Db c)
   ·rintro (c|c)
    ·rw[<-take_append_drop k L,hT]at c
     exact c.elim Or.inl (fun d=>Or.inr (Or.inr d))
    ·exact Or.inr (Or.inl c)
theorem acj (v:List Int)(key:ByteArray)(ts:List aT)(t:aT):∀(es acc:List ByteArray),my acc->my (es.foldl (q5 v key ts t) acc)∧∀a,a∈es.foldl (q5 v key ts t) acc↔a∈acc∨(a∈es∧hZ (dR key a t.ops)=3∧mB v key a t ts=false)
 |[],acc,h=>⟨h,fun a=>by simp⟩
 |e::es,acc,h=>by
  have step:my (q5 v key ts t acc e)∧∀a,a∈q5 v key ts t acc e↔a∈acc∨(a=e∧hZ (dR key e t.ops)=3∧mB v key e t ts=false):=by
   unfold q5;split
   ·rename_i aH
    split
    ·rename_i aM
     exact⟨h,fun a=>by simp[aM]⟩
    ·rename_i aM
     obtain⟨r,m⟩:=Ug h e;refine⟨r,fun a=>?_⟩;rw[m];have vh:mB v key e t ts=false:=by simpa using aM
     simp[aH,vh]
   ·rename_i aH
    exact⟨h,fun a=>by simp[aH]⟩
  obtain⟨r,m⟩:=acj v key ts t es _ step.1;refine⟨r,fun a=>?_⟩;rw[sO,m,step.2,h3];constructor
  ·rintro ((c|⟨rfl,c2,c3⟩)|⟨c1,c2,c3⟩)
   ·exact Or.inl c
   ·exact Or.inr ⟨Or.inl rfl,c2,c3⟩
   ·exact Or.inr ⟨Or.inr c1,c2,c3⟩
  ·rintro (c|⟨c1|c1,c2,c3⟩)
   ·exact Or.inl (Or.inl c)
   ·subst c1;exact Or.inl (Or.inr ⟨rfl,c2,c3⟩)
   ·exact Or.inr ⟨c1,c2,c3⟩
theorem Ow (v:List Int)(key:ByteArray)(ts:List aT):∀(us:List aT) (acc:List ByteArray),my acc->my (us.foldl (rX v key ts) acc)∧∀a,a∈us.foldl (rX v key ts) acc↔a∈acc∨∃t,t∈us∧fc v t.rep t.seq=true∧a∈lG key t.ops∧hZ (dR key a t.ops)=3∧mB v key a t ts=false
 |[],acc,h=>⟨h,fun a=>by simp⟩
 |t::us,acc,h=>by
  have step:my (rX v key ts acc t)∧∀a,a∈rX v key ts acc t↔a∈acc∨(fc v t.rep t.seq=true∧a∈lG key t.ops∧hZ (dR key a t.ops)=3∧mB v key a t ts=false):=by
   unfold rX;split
   ·rename_i hs
    obtain⟨r,m⟩:=acj v key ts t (lG key t.ops) acc h;exact⟨r,fun a=>by rw[m];simp[hs]⟩
   ·rename_i hs
    exact⟨h,fun a=>by simp[hs]⟩
  obtain⟨r,m⟩:=Ow v key ts us _ step.1;refine⟨r,fun a=>?_⟩;rw[sO,m,step.2];constructor
  ·rintro ((c|c)|⟨u,hu,c⟩)
   ·exact Or.inl c
   ·exact Or.inr ⟨t,by simp,c⟩
   ·exact Or.inr ⟨u,by simp[hu],c⟩
  ·rintro (c|⟨u,hu,c⟩)
   ·exact Or.inl (Or.inl c)
   ·rcases h3.1 hu with e|e
    ·subst e;exact Or.inl (Or.inr c)
    ·exact Or.inr ⟨u,e,c⟩
theorem aoV {v:List Int}{ts:List aT}(aw:l.Perm (ts.filter fun u=>fc ag u.rep u.seq))(av:∀r,v.getD r 0<=ag.getD r 0):setOf v key l=setOf v key ts:=by
 obtain⟨cB,m1⟩:=Ow v key l l [] List.Pairwise.nil;obtain⟨b_,m2⟩:=Ow v key ts ts [] List.Pairwise.nil;refine TC cB b_ fun a=>?_
 refine(m1 a).trans (Iff.trans ?_ (m2 a).symm);constructor
 ·rintro (c|⟨u,hu,h1,ae,aH,bd⟩)
  ·simp at c
  ·exact Or.inr ⟨u,(ra.1 (aw.mem_iff.1 hu)).1,h1,ae,aH,by rw[<-Xj aw av];exact bd⟩
 ·rintro (c|⟨u,hu,h1,ae,aH,bd⟩)
  ·simp at c
  ·exact Or.inr ⟨u,aw.mem_iff.2 (ra.2 ⟨hu,Oq av h1⟩),h1,ae,aH,by rw[Xj aw av];exact bd⟩
theorem an5 {t:aT}{ts:List aT}{n:Nat}(aw:l.Perm (ts.filter fun u=>fc ag u.rep u.seq))(av:∀r,0<=t.saw.getD r 0∧t.saw.getD r 0<=ag.getD r 0)(hu:ts.Pairwise fun u v=>¬(u.rep=v.rep∧u.seq=v.seq))
  (oW:∀r,r<n->∀s:Nat,(s:Int)+1<=ag.getD r 0->∃u,u∈ts∧kY (r:Int) ((s:Int)+1) u=true):fu (some t) key l n=fu (some t) key ts n:=by
 have iq:∀r,t.saw.getD r 0<=ag.getD r 0:=fun r=>(av r).2
 simp only[fu,counter_same aw iq,aoV aw iq,abZ aw iq hu n oW (fun r=>(av r).1) n cv]
theorem ag7 {w w':World}{o:Nat->Tag}{s i n:Nat}{ah pJ:Value}{d:aZ}{t:aT}{p:db}(h:k8 w o s i b n bD v ah bw xs d)(hk:k<xs.length)(al:d.bH k=some t)(nt:t.ops.length<16)
  (P:Le w w' v xs k t.ops p pJ):
  ∃o',k8 w' o' s i b n bD v ah bw (xs.set k {xs[k]with bU:=pJ}) {d with bH:=fP d.bH k (some {t with ops:=t.ops++[p]})}∧ct (lu s i) w o w' o':=by
 have au:xs[k]?=some xs[k]:=hg hk;have bf:=P.row _ au;have eP:=P.ay _ au;have dd:=P.own _ au;obtain⟨bT,c6,e0,fZ⟩:=h.tx k hk t al;have nA:∀q,q<w.heap.size->gX o w.heap.size (fun _=>(s+6,i,k)) q=o q:=fun q ad=>nF ad
 have aD:ct (lu s i) w o w' (gX o w.heap.size (fun _=>(s+6,i,k))):=by
  refine⟨eP.mono fun q ad e=>?_,nA⟩;rcases e with e|e
  ·rw[h.row.tag q e];exact Or.inr (Or.inr (Or.inl rfl))
  ·rw[fZ.tag q e];exact Or.inr (Or.inr (Or.inr ⟨k,Or.inr rfl⟩))
 have hold:∀ed,ed≠(s+4,i,0)->ed≠(s+6,i,k)->∀q,q<w.heap.size->o q=ed->w'.heap[q]?=w.heap[q]?∧gX o w.heap.size (fun _=>(s+6,i,k)) q=ed:=fun ed bd ep q ad e=>by
  refine⟨eP.block q ad fun c=>?_,(nA q ad).trans e⟩;rcases c with c|c
  ·exact bd (by rw[<-e];exact h.row.tag q c)
  ·exact ep (by rw[<-e];exact fZ.tag q c)
 refine⟨_,⟨h.U.fp (hold _ (by simp) (by simp)),h.ag.fp (hold _ (by simp) (by simp)),⟨by rw[k5];exact bf,fun q ad=>(nA q (h.row.lt ad)).trans (h.row.tag q ad)⟩,h.len,by rw[k5];exact h.ea,fun j af=>?_,fun j af=>?_,fun j af u hu=>?_⟩,aD⟩
 ·rw[k5]at af
  show _=(fP d.bH k _ j).isSome
  by_cases e:k=j
  ·subst e
   rw[qp];simp[h.bH k hk,al]
  ·rw[w9 e,h.bH j af,nJ (fun c=>e c.symm)]
 ·rw[k5]at af
  exact(nJ (by omega)).trans (h.s5 j af)
 ·rw[k5]at af
  by_cases e:j=k
  ·subst e
   have c:some ({t with ops:=t.ops++[p]}:aT)=some u:=(qp d.bH j _).symm.trans hu;cases c;rw[w_];refine⟨bT,by simp;omega,e0.fp (hold _ (by simp) (by simp)),⟨P.ops,fun q ad=>?_⟩⟩;rcases dd q ad with c|c
   ·exact(nA q (fZ.lt c)).trans (fZ.tag q c)
   ·exact qj c
  ·have c:=(nJ e).symm.trans hu
   obtain⟨cO,a2,a3,a4⟩:=h.tx j af u c;rw[w9 (fun c=>e c.symm)];exact⟨cO,a2,a3.fp (hold _ (by simp) (by simp)),a4.fp (hold _ (by simp) (by simp[e]))⟩
end Go.Proofs.YtiplgdkpnhamaaaGreatDoor
namespace Go.Proofs.YtiplgdkpnhamaaaGreatDoor.Tv
open Go.Proofs.Tryz List
open Go.RowKit
structure gH (aX:World->(Nat->Tag)->Tag->Nat->Nat->Nat->aZ->Prop):Prop where
 move:∀{w w':World} {o o':Nat->Tag} {t:Tag} {b n i:Nat} {d:aZ},aX w o t b n i d->(∀q,q<w.heap.size->o q=t->w'.heap[q]?=w.heap[q]?∧o' q=t)->aX w' o' t b n i d
 PV:∀(w:World) (o:Nat->Tag) (t:Tag) (b n i:Nat) (d:aZ),aX w o t b n i d->Room d->Calls prog 27 #[ptr b] w fun e w'=>e= .returned (tX d)∧∃o',aX w' o' t b n i (pt d)∧ct (·=t) w o w' o'
 add:∀(w:World) (o:Nat->Tag) (t:Tag) (b n i:Nat) (d:aZ) (tx:Int) (p:db),aX w o t b n i d->Room d->p.kind=1->p.key.size<=maxLen->Calls prog 28 #[ptr b,I tx,ai p.key,I p.cH] w fun e w'=>e= .returned (I (h6 (du d tx) p))∧∃o',aX w' o' t b n i (jx d tx p)∧ct (·=t) w o w' o'
 write:∀(w:World) (o:Nat->Tag) (t:Tag) (b n i:Nat) (d:aZ) (tx:Int) (p:db),aX w o t b n i d->Room d->p.kind=2->p.key.size<=maxLen->p.value.size<=maxLen->Calls prog 30 #[ptr b,I tx,ai p.key,ai p.value] w fun e w'=>e= .returned (I (h6 (du d tx) p))∧∃o',aX w' o' t b n i (jx d tx p)∧ct (·=t) w o w' o'
 insert:∀(w:World) (o:Nat->Tag) (t:Tag) (b n i:Nat) (d:aZ) (tx:Int) (p:db),aX w o t b n i d->Room d->p.kind=3->p.key.size<=maxLen->p.value.size<=maxLen->Calls prog 38 #[ptr b,I tx,ai p.key,ai p.value] w fun e w'=>e= .returned (I (h6 (du d tx) p))∧∃o',aX w' o' t b n i (jx d tx p)∧ct (·=t) w o w' o'
 remove:∀(w:World) (o:Nat->Tag) (t:Tag) (b n i:Nat) (d:aZ) (tx:Int) (p:db),aX w o t b n i d->Room d->p.kind=4->p.key.size<=maxLen->p.value.size<=maxLen->Calls prog 44 #[ptr b,I tx,ai p.key,ai p.value] w fun e w'=>e= .returned (I (h6 (du d tx) p))∧∃o',aX w' o' t b n i (jx d tx p)∧ct (·=t) w o w' o'
 read:∀(w:World) (o:Nat->Tag) (t bt:Tag) (b n i:Nat) (d:aZ) (tx:Int) (key:ByteArray),aX w o t b n i d->Room d->bt≠t->key.size<=maxLen->Calls prog 33 #[ptr b,I tx,ai key] w fun e w'=>∃bz o',e= .returned (oM (fu (du d tx) key d.hs n).1 bz (fu (du d tx) key d.hs n).2.2)∧
  aX w' o' t b n i d∧ct (·=t) w o w' o'∧b3 w' o' bt 9 1 bz (fu (du d tx) key d.hs n).2.1.length (strs (fu (du d tx) key d.hs n).2.1)
 Wa:∀(w:World) (o:Nat->Tag) (t:Tag) (b n i:Nat) (d:aZ) (tx:Int),aX w o t b n i d->Room d->Calls prog 32 #[ptr b,I tx] w fun e w'=>e= .returned (sa i d tx)∧∃o',aX w' o' t b n i (p4 i d tx)∧ct (·=t) w o w' o'
 abort:∀(w:World) (o:Nat->Tag) (t:Tag) (b n i:Nat) (d:aZ) (tx:Int),aX w o t b n i d->Room d->Calls prog 34 #[ptr b,I tx] w fun e w'=>e= .returned (vR d tx)∧∃o',aX w' o' t b n i (tU d tx)∧ct (·=t) w o w' o'
 KY:∀(w:World) (o:Nat->Tag) (t bt:Tag) (b n i:Nat) (d:aZ),aX w o t b n i d->Room d->bt≠t->Calls prog 22 #[ptr b] w fun e w'=>∃bz o',e= .returned bz∧aX w' o' t b n i d∧ct (·=t) w o w' o'∧b3 w' o' bt 3 1 bz d.ag.length (ints d.ag)
end Go.Proofs.YtiplgdkpnhamaaaGreatDoor.Tv
namespace Go.Proofs.YtiplgdkpnhamaaaGreatDoor
open Go.Proofs.Tryz List
open Go.RowKit
variable {B:Tag->Prop}{c0 c1 v:Value}{e ty:TypeId}{j k size:Nat}{t ed:Tag}{w2:World}{xs:List Value}
structure gw where
 kind:Int
 a:Int
 b:Int
 c:Int
 key:ByteArray
 text:ByteArray
def gw.cells (p:gw):List Value:=[.int .i64 p.kind,.int .i64 p.a,.int .i64 p.b,.int .i64 p.c,.string p.key,.string p.text]
abbrev gw.agg (p:gw):Value:= .agg #[I p.kind,I p.a,I p.b,I p.c,ai p.key,ai p.text]
structure gw.Ok (p:gw):Prop where
 a0: -9223372036854775808<=p.a
 cO:p.a<=9223372036854775807
 key:p.key.size<=maxLen
 text:p.text.size<=maxLen
theorem afV (d:aZ):∃x y:Int,tX d= .tuple #[I x,I y]:=by
 unfold tX;split
 ·exact⟨_,_,rfl⟩
 ·exact⟨_,_,rfl⟩
theorem Oi {w:World}{o:Nat->Tag}{bs:List Nat}{i:Nat}(h:b3 w o t e 1 v bs.length (vu bs))(aq:i<bs.length):∃g cap,v=bo g bs.length cap∧bs.length<=cap∧g<w.heap.size∧w.cell? (aa g i)=some (ptr bs[i]):=by
 obtain⟨g,cap,rfl,aA,-,aM,eb,-⟩:=h.row.pos (by omega);exact⟨g,cap,rfl,aA,aM,by rw[eb i (by omega)];simp[vu,aq]⟩
theorem wP {s i:Nat}:∀t:Tag,t=(s+1,i,0)->fN s t:=fun t e=>by subst e;exact⟨by simp,by simp⟩
section
variable {aX:World->(Nat->Tag)->Tag->Nat->Nat->Nat->aZ->Prop}{w w' W dP:World}{o o':Nat->Tag}{s aj az n m i:Nat}{aI ak:List Nat}{a6 a8 aG aK aN ah:Value}{ar:Int}{eG b1:List aZ}{ts:List aT}
theorem cP.jo {b:Nat}{cs:List Value}(h:cP w o ed b cs ty)(t:Tag):cP w (ee o w.heap.size t) ed b cs ty:=h.fp fun q ad e=>⟨rfl,(sL (by omega)).trans e⟩
theorem dS.jo (h:dS B w o W o')(t:Tag):dS B w o W (ee o' W.heap.size t):=⟨h.ay,fun q ad hb=>(sL (by have:=h.ay.size;omega)).trans (h.same q ad hb)⟩
theorem dS.below (h:dS B w o W o')(ao:ax W dP):dS B w o dP o':=
 h.trans ((ct.dh (A:=B) ao).da fun _=>id)
theorem amx {q:Nat}(al:o q=t)(x y:Value):dS (·=t) w o ((w.setCell (aa q 0) x).setCell (aa q 1) y) o:=
 ⟨((Touch.refl (fun q=>o q=t) w).setCell (p:=(aa q 0)) (Or.inl al) x).setCell (p:=(aa q 1)) (Or.inl al) y,fun _ _ _=>rfl⟩
theorem aga (h:Ad s i t):fN s t:=h.elim Oe ais
theorem VU:¬Ad s i (s+12,k,0):=by
 rintro ((e|e|e|⟨x,e|e⟩)|⟨x,e⟩|⟨x,e|e⟩)<;>simp at e
theorem afo {iv:Nat->Tag}(M:dS B (W.alloc (.cells #[c0,c1] ty)).drew o w2 iv)(al:o W.heap.size=t)(ao:¬B t):cP w2 iv t W.heap.size [c0,c1] ty:=by
 have hs:W.heap.size<(W.alloc (.cells #[c0,c1] ty)).drew.heap.size:=by show W.heap.size<(W.alloc (.cells #[c0,c1] ty)).heap.size;simp
 have a:=M.at hs (by rw[al];exact ao);refine⟨?_,a.2.trans al⟩;have:=cC W (.cells #[c0,c1] ty);exact a.1.trans this
end
theorem agL (i:Nat)(d:aZ)(tx:Int):∃x y z:Int,sa i d tx= .tuple #[.agg #[I x,I y],I z]:=by
 unfold sa;split
 ·exact⟨0,0,4,rfl⟩
 ·split
  ·exact⟨0,0,0,rfl⟩
  ·exact⟨_,_,_,rfl⟩
section
variable {aX:World->(Nat->Tag)->Tag->Nat->Nat->Nat->aZ->Prop}{w w' W dP:World}{o o':Nat->Tag}{s aj az n m i:Nat}{aI ak:List Nat}{a6 a8 aG aK aN ah:Value}{ar:Int}{eG b1:List aZ}{ts:List aT}
def vz (s:Nat)(j:Nat)(t:Tag):Prop:=t=(s+11,0,0)∨t=(s+11,2,0)∨t=(s+11,3,0)∨t=(s+12,j,0)
def uW (s:Nat)(j:Nat)(t:Tag):Prop:=t=(s+11,0,0)∨t=(s+11,4,0)∨t=(s+11,5,0)∨t=(s+12,j,0)
theorem OA (h:vz s j t):fN s t:=by rcases h with rfl|rfl|rfl|rfl<;>exact⟨by simp,by simp⟩
theorem L9 (h:uW s j t):fN s t:=by rcases h with rfl|rfl|rfl|rfl<;>exact⟨by simp,by simp⟩
theorem Vx {w5:World}(c7:Below (W.alloc (.cells #[c0,c1] ty)).drew.heap.size (W.alloc (.cells #[c0,c1] ty)).drew w5)(al:o W.heap.size=t):cP w5 (gX o (W.alloc (.cells #[c0,c1] ty)).drew.heap.size fun _=>(s+12,6,0)) t W.heap.size [c0,c1] ty:=by
 have hs:W.heap.size<(W.alloc (.cells #[c0,c1] ty)).drew.heap.size:=by show W.heap.size<(W.alloc (.cells #[c0,c1] ty)).heap.size;simp
 refine⟨?_,(nF hs).trans al⟩;have:=cC W (.cells #[c0,c1] ty);exact(c7.block _ hs).trans this
theorem b3.jo (h:b3 w o ed e size v k xs)(t:Tag):b3 w (ee o w.heap.size t) ed e size v k xs:=h.fp fun q ad e=>⟨rfl,(sL (by omega)).trans e⟩
theorem b3.wN (h:b3 w o ed e size v k xs)(bE:Obj)(t:Tag):b3 (w.alloc bE) (ee o w.heap.size t) ed e size v k xs:=h.fp fun q ad e=>⟨iW w bE q ad,(sL (by omega)).trans e⟩
end
theorem Oj (a:Int)(l:List ByteArray):EZ a a l l=true:=by simp[EZ]
theorem afi (d:aZ)(tx:Int):∃x:Int,vR d tx=I x:=by
 unfold vR;split
 ·exact⟨_,rfl⟩
 ·exact⟨_,rfl⟩
section
variable {n:Nat}{a7:List aZ}{ts:List aT}{i:Nat}{d d':aZ}
theorem Z_ (key:ByteArray)(ops:List db):∀(l acc:List ByteArray),(l.foldl (qZ key ops) acc).length<=acc.length+l.length
 |[],acc=>by simp
 |a::l,acc=>by
  have h:(qZ key ops acc a).length<=acc.length+1:=by
   unfold qZ;split
   ·exact Hq _ _
   ·omega
  have b:=Z_ key ops l (qZ key ops acc a);simp only[sO,lP];omega
theorem Z1 (key:ByteArray)(ops:List db):∀(l acc:List ByteArray),(l.foldl (rN key ops) acc).length<=acc.length+l.length
 |[],acc=>by simp
 |a::l,acc=>by
  have h:(rN key ops acc a).length<=acc.length+1:=by
   unfold rN;split
   ·exact Hq _ _
   ·omega
  have b:=Z1 key ops l (rN key ops acc a);simp only[sO,lP];omega
theorem abY (v:List Int)(key:ByteArray)(ts:List aT)(av:∀r,v.getD r 0<=1100000):∀n,(lr v key ts n).length<=1100000*n
 |0=>by simp[lr]
 |n+1=>by
  rw[Oc,eN];have a:=abY v key ts av n;have b:=Ts v key ts n (v.getD n 0).toNat;have c:=av n;omega
end
def uS:aZ:=pt (pd 2)
def xz:db:=⟨2,⟨#[114]⟩,⟨#[118]⟩,0⟩
theorem VF:ud (pd 2).bH=0:=Qw (by omega) (fun j af=>by omega) rfl
theorem afQ:tX (pd 2)= .tuple #[I 0,I 0]:=by
 unfold tX;rw[VF];rfl
theorem LV:du uS 0=some ⟨0,0,[0,0],[]⟩:=by
 unfold du uS pt;rw[if_pos (by omega),VF,if_pos (by omega)];rfl
theorem VG:kindOf ⟨#[114]⟩=114:=by decide
theorem VE:h6 (du uS 0) xz=0:=by
 rw[LV];have e:(⟨#[118]⟩:ByteArray).size=1:=rfl;simp[h6,xz,VG,kF,e]
def Ac:aZ:=jx uS 0 xz
theorem afR:du Ac 0=some ⟨0,0,[0,0],[xz]⟩:=by
 have e:Ac={uS with bH:=fP uS.bH 0 (some ⟨0,0,[0,0],[xz]⟩)}:=by
  unfold Ac jx;rw[LV];have h:=VE;rw[LV]at h;simp only[];rw[if_pos h];rfl
 rw[e];unfold du;rw[if_pos (by omega)];show fP uS.bH 0 _ 0=_
 exact qp _ _ _
theorem afS (hs:List aT):fu (du Ac 0) ⟨#[114]⟩ hs 2=(0,[⟨#[118]⟩],0):=by
 rw[afR];have aC:dR ⟨#[114]⟩ cK [xz]=some xz:=aaj (k:=0) (by simp) (by simp[l7,xz]) (fun j af h=>by simp at af;omega);simp only[fu,VG];rw[if_neg (by omega),if_pos trivial];simp only[aC];rfl
theorem PT (d:aZ)(h:d.hs=[])(av:d.ag=[0,0]):Room d:=⟨by rw[h];simp,fun j af=>by
 simp only[av]at af⊢;simp at af;rcases j with _|_|j
 ·simp
 ·simp
 ·omega⟩
theorem af3 {w an:World}{dx:Nat->Tag}(ao:ax w an)(T:ct (·=(1,0,0)) an (gX (fun _=>(0,0,0)) w.heap.size fun _=>(1,0,0)) w2 dx):ax w w2:=
 ⟨T.ay.os.trans ao.os,T.ay.tape.trans ao.tape,T.ay.output.trans ao.output,fx ao.size T.ay.size,fun q ad=>by
  rw[T.ay.block q (hV ad ao.size) (by rw[nF ad];simp)];exact ao.block q ad⟩
structure FM (w:World)(sv:Value)(ops:List gw):Prop where
 atx:∃cA cap,sv= .slice cA ops.length cap∧∀k (h:k<ops.length),∃aE wS,cA=some (aa aE wS)∧aE<w.heap.size∧∀j,j<6->w.cell? (aa aE (wS+k*6+j))=(ops[k].cells)[j]?
 ok:∀k (h:k<ops.length),(ops[k]).Ok
 ea:ops.length<=1048576
end Go.Proofs.YtiplgdkpnhamaaaGreatDoor
