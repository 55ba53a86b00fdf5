import Derived.Test.YtiplgdkpnhamaaaGreatDoorT01
import Derived.Deep.RegionWith
import Derived.Deep.DeepCutAuto
set_option maxHeartbeats 4000000
set_option maxRecDepth 100000
namespace Go.Proofs.YtiplgdkpnhamaaaGreatDoor
open Go.Proofs.Tryz List
open Go.RowKit
variable {dc bT c6 e0:Bool}{w:World}
theorem Ny (key el:ByteArray)(w:World)(b off:Nat)(v:Value)(ops:List db)(hn:ops.length<=1000000)(hb:b<w.heap.size)
  (av:w.cell? (aa b (off+4))=some v) (bf:Row w 171 4 v ops.length (ops.flatMap db.cells)):
  Calls prog 137 #[.pointer (some (aa b off)),ai key,ai el] w fun e w'=>
   ∃c1 c2 c3,e= .returned (.tuple #[.agg #[I (hZ (dR key el ops)),ai c1,ai c2,I c3],.bool (dR key el ops).isSome])∧ax w w':=
 (Kd key el w b off v ops hn hb av bf).mono fun _ _ h=>⟨_,_,_,h.1,h.2⟩
theorem F_ (bT c6 e0 fZ:Bool)(h:dc=true):Value.bool true= .bool (dc||(bT&&c6&&e0&&fZ)):=by simp[h]
theorem aiv {k:Int}(aS:¬dc=true)(h1:bT=true)(ae:c6=true)(aH:e0=true):Value.bool (k==4)= .bool (dc||(bT&&c6&&e0&&decide (k=4))):=by
 simp[aS,h1,ae,aH];rfl
theorem aiw (fZ:Bool)(aS:¬dc=true)(h1:bT=true)(ae:c6=true)(aH:¬e0=true):Value.bool false= .bool (dc||(bT&&c6&&e0&&fZ)):=by simp[aS,h1,ae,aH]
theorem aix (e0 fZ:Bool)(aS:¬dc=true)(h1:bT=true)(ae:¬c6=true):Value.bool false= .bool (dc||(bT&&c6&&e0&&fZ)):=by simp[aS,h1,ae]
theorem aiy (c6 e0 fZ:Bool)(aS:¬dc=true)(h1:¬bT=true):Value.bool false= .bool (dc||(bT&&c6&&e0&&fZ)):=by simp[aS,h1]
theorem al4 {W0:World}(key el:ByteArray)(w:World)(b off:Nat)(v:Value)(ops:List db)(hn:ops.length<=1000000)(hb:b<W0.heap.size)
  (av:W0.cell? (aa b (off+4))=some v) (bf:Row W0 171 4 v ops.length (ops.flatMap db.cells)) (h:ax W0 w):
  Calls prog 137 #[.pointer (some (aa b off)),ai key,ai el] w fun e w'=>
   ∃c1 c2 c3,e= .returned (.tuple #[.agg #[I (hZ (dR key el ops)),ai c1,ai c2,I c3],.bool (dR key el ops).isSome])∧ax w w':=
 Ny key el w b off v ops hn (hV hb h.size) (bZ h av) (Row.below bf h)
theorem al5 {W:World}(h:ax W w)(b:Nat):
  (∀i,b<W.heap.size->w.cell? (aa b i)=W.cell? (aa b i))∧(∀i,b<W.heap.size->w.frozen? (aa b i)=W.frozen? (aa b i))∧(b<W.heap.size->b<w.heap.size):=
 ⟨fun i hb=>h.cell (p:=(aa b i)) hb,fun i hb=>h.frozen (p:=(aa b i)) hb,fun hb=>hV hb h.size⟩
theorem Touch.toBelow {S:Nat->Prop}{B:Nat}{w':World}(h:Touch S w w')(ao:B<=w.heap.size)(hs:∀k,S k->B<=k):Below B w w':=
 ⟨h.os,h.tape,h.output,h.size,fun k hk=>h.block k (by omega) (fun s=>by have:=hs k s;omega)⟩
theorem abn {b hz:Nat}{e:TypeId}{size:Nat}{v:Value}{n:Nat}{xs:List Value}(h:w.ownsRow b e size v n xs)(hb:∀k,v.ownBlock=some k->hz<=k):w.ownsRow hz e size v n xs:=by
 refine⟨h.1,?_⟩;rcases h.2 with hn|⟨g,cap,cur,rfl,aS,rest⟩
 ·exact .inl hn
 ·exact .inr ⟨g,cap,cur,rfl,hb g rfl,rest⟩
theorem aoU (w:World)(az n:Nat)(de v:Value)(xs:List cq)(ts:List aT)(vec:List Int)(key:ByteArray)(G:qz w az n de xs ts)(jY:vec.length=n)
  (bf:Row w 3 1 v vec.length (ints vec)):
  Calls prog 139 #[.pointer (some (aa az 0)),v,ai key] w fun e w'=>∃v',e= .returned v'∧
   w'.ownsRow w.heap.size 9 1 v' (setOf vec key ts).length (strs (setOf vec key ts))∧ax w w':=by
 obtain⟨cA,cap,rfl,gg,um⟩:=G.shape;have MD:=G.Iq;have aU:=G.aU;have gO:=J G;have bc:=J bf;have dn:=J jY;clear G bf jY;go_enter func139,ntmps139;go_wp2;go_loopw[7,8] (fun l i wr=>∃(k:Nat) (acc:List ByteArray),k<=ts.length∧i=I k∧acc=(ts.take k).foldl (rX vec key ts) []∧acc.length<=k*16∧wr.ownsRow w.heap.size 9 1 l acc.length (strs acc)∧ax w wr) (fun _ i _=>ts.length-(intOf i).toNat)
 case atStart=>exact⟨0,[],ch,rfl,rfl,by simp,jD _ _ _ _,cE⟩
 case round=>
  obtain⟨k,acc,hk,rfl,Az,hlen,dd,ao⟩:=hrel;have Dk:=J Az;clear Az;have Gi:=bZ ao aU;clear aU;by_cases cW:k<ts.length
  ·have xf:=gO.o.below ao
   obtain⟨hD,x,rfl,Rc,h1,ae,-,bd,al,aJ,-⟩:=xf.pick k cW;have aL:Hid ((ts.take (k+1)).foldl (rX vec key ts) []=rX vec key ts acc ts[k]):=by
    unfold Hid;rw[kr cW,foldl_append,<-Dk.o];rfl
   have ard:=J xf;have dA:=J al;have RM:=J (Row.below bc.o ao);have aeO:=J (rfl:ts[k]=ts[k]);clear xf al Dk;generalize JU:ts[k]=t at*;have Vd:=J JU;clear JU aeO;go_wp2_with fail
   refine(Ha _ _ vec _ _ (by omega) (by have:=dn.o;omega) RM.o).mono ?_;rintro e an ⟨rfl,aF⟩;have v_:=ao.trans (aF.mono ao.size);have hc:=jZ dd aF;have QW:=bZ aF Gi;have QA:=bZ aF bd;have BC:=J (dA.o.below aF);clear Gi h1 ae bd;cases wE:fc vec t.rep t.seq
   ·have a1:rX vec key ts acc t=acc:=by unfold rX;rw[wE];rfl
    rw[a1]at aL;clear a1;go_wp2_with fail
    exact⟨⟨k+1,acc,by omega,by go_num,aL.o.symm,by omega,hc,v_⟩,by simp[intOf];omega⟩
   ·have a1:rX vec key ts acc t=(lG key t.ops).foldl (q5 vec key ts t) acc:=by unfold rX;rw[wE];rfl
    rw[a1]at aL;have Q7:=IG key t.ops;have sj:=BC.o.ea;clear a1 wE;go_wp2_with fail
    refine(WC key _ hD (k*5) x.bU t.ops (by omega) (by have:=aF.size;omega) QA BC.o.ops).mono ?_;rintro e w2 ⟨bB,rfl,Cf,bP⟩;have aiK:=v_.trans (bP.mono v_.size);have fm:=jZ hc bP;obtain⟨v8,DU,rfl,asn,aso,Yp⟩:=Row.shape (e3 Cf ch);have asm:=J Yp;have Ll:=J Cf;have ar2:=bZ bP QW;generalize lG key t.ops=es at*;clear Yp QW QA Cf;have wk:Hid (∀q,u7.ownBlock=some q->¬(Value.slice v8 es.length DU).ownBlock=some q):=fun q ad he=>by
     have a:=(Ll.o.lt q he).1;have b:=(hc.lt q ad).2;omega
    go_wp2_with fail
    go_loopw[7,12] (fun l i C9=>∃(j:Nat) (kx:List ByteArray),j<=es.length∧i=I j∧kx=(es.take j).foldl (q5 vec key ts t) acc∧kx.length<=acc.length+j∧C9.ownsRow w.heap.size 9 1 l kx.length (strs kx)
     ∧C9.ownsRow 0 9 1 (.slice v8 es.length DU) es.length (strs es)∧(∀q,l.ownBlock=some q->¬(Value.slice v8 es.length DU).ownBlock=some q)∧ax w C9) (fun _ i _=>es.length-(intOf i).toNat)
    case atStart=>exact⟨0,acc,ch,rfl,rfl,by omega,fm,e3 Ll.o ch,wk.o,aiK⟩
    case round=>
     obtain⟨j,kx,af,rfl,Jf,Jz,gV,Q9,Yh,l0⟩:=hrel;have Bu:=J Jf;have Li:=J Yh;clear Jf Yh;have ar3:=bZ l0 gO.o.aU;by_cases pD:j<es.length
     ·obtain⟨ge,ahi,e,-,-,Jq,Cd,-⟩:=Row.pos Q9 (by omega)
      obtain⟨rfl,-,rfl⟩:=sN e;have AF:=Cd j (by omega);rw[Hf _ _ pD]at AF;clear e Cd;have jh:Hid ((es.take (j+1)).foldl (q5 vec key ts t) acc=q5 vec key ts t kx es[j]):=by
       unfold Hid;rw[kr pD,foldl_append,<-Bu.o];rfl
      have HJ:=gO.o.below l0;obtain⟨_,ev,e,ajw,-,-,-,aiF,sy,-,-⟩:=HJ.pick k cW;cases e;have JU:=Vd.o;rw[JU]at sy;have BD:=J sy;have Fw:=J HJ;have Dr:=J Q9;have Ds:=J gV;clear sy HJ JU Bu Q9 gV;generalize es[j]=el at*;go_wp2_with fail
      refine(Ny key el _ hD (k*5) ev.bU t.ops (by omega) ajw aiF BD.o.ops).mono ?_;rintro e bN ⟨c1,c2,c3,rfl,b0⟩;have Mt:=l0.trans (b0.mono l0.size);have UT:=J (jZ Ds.o b0);have UI:=J (jZ Dr.o b0);by_cases rH:hZ (dR key el t.ops)=3
      ·have JS:q5 vec key ts t kx el=if mB vec key el t ts then kx else ph kx el:=by unfold q5;rw[if_pos rH]
       rw[JS]at jh;have Ri:(hZ (dR key el t.ops) !=3)=false:=by rw[rH];rfl
       clear JS rH;generalize (dR key el t.ops).isSome=VI at*;generalize hZ (dR key el t.ops)=hG at*;go_wp2_with fail
       go_loopw[15,16] (fun bU q Ui=>∃aY:Nat,aY<=ts.length∧q=I aY∧bU= .bool (mB vec key el t (ts.take aY))∧Below (bN.heap.size+1) (bN.alloc (.cells #[I hG,ai c1,ai c2,I c3] 171)) Ui) (fun _ q _=>ts.length-(intOf q).toNat)
       case atStart=>exact⟨0,ch,rfl,rfl,cE⟩
       case round=>
        obtain⟨aY,iA,rfl,rfl,ki⟩:=hrel;have c7:ax bN wr:=((cj _ _)).trans (ki.mono (by omega));have sd:=Mt.trans (c7.mono Mt.size);have y_:bN.heap.size+1<=wr.heap.size:=by have:=ki.size;simpa using this
        have yy:=gO.o.below sd;have MA:=yy.aU;have O8:=J (jZ UI.o c7);by_cases ij:aY<ts.length
        ·obtain⟨_,y,e,ajx,h1,ae,aH,bd,hu,akH,za⟩:=yy.pick aY ij
         cases e;obtain⟨_,aqU,e,-,t1,t2,-,-,-,-,-⟩:=yy.pick k cW;cases e;rw[Vd.o]at t1 t2;have uH:Hid (mB vec key el t (ts.take (aY+1))=IT vec key el t (mB vec key el t (ts.take aY)) ts[aY]):=by
          unfold Hid;rw[kr ij];exact aip _ _ _ _ _ _
         have HY:=J hu;have RN:=J (Row.below bc.o sd);have qR:=bZ c7 (bZ b0 AF);clear hu yy;generalize ts[aY]=u at*;go_wp2_with fail
         refine(Ha _ _ vec _ _ (by omega) (by have:=dn.o;omega) RN.o).mono ?_;rintro e cc ⟨rfl,dT⟩;have Je:=bZ dT MA;have eW:=bZ dT aH;have cI:=bZ dT t1;have dq:=bZ dT t2;have FG:=J (HY.o.below dT);go_upto_region 19 with(fail);go_cut[18] (fun b wc=>b= .bool (fc u.saw t.rep t.seq)∧ax cc wc)
         case first=>
          go_region_with(go_at_call 174;refine(Ha _ _ u.saw _ _ (by omega) (by omega) (by exact Row.move FG.o.saw (fun _ _=>rfl))).mono ?_;rintro e w5 ⟨rfl,gb⟩)
          all_goals
           go_wp2_with fail
           go_meet;exact⟨rfl,((cE).drew).trans gb⟩
         case rest=>
          obtain⟨rfl,gb⟩:=hcut;have MB:=bZ gb Je;have Yk:=bZ gb (bZ dT qR);have rP:=bZ gb (bZ dT bd);have HZ:=J (FG.o.below gb);have Re:hD<wc.heap.size:=by have:=dT.size;have:=gb.size;omega
          have asx:ge<wc.heap.size:=hU wc _ Yk;have asu:az<wc.heap.size:=hU wc _ MB;clear Je eW cI dq FG;go_upto_region 20 with(fail);go_cut[19,20] (fun p b adt=>∃aI,p= .pointer (some (aa aI 0))∧adt.cell? (aa aI 0)=some (I (hZ (dR key el u.ops)))∧b= .bool (dR key el u.ops).isSome∧ax wc adt)
          case first=>
           go_region_with(go_at_call 137;refine(al4 (W0:=wc) key el _ hD (aY*5) y.bU u.ops (by have:=HZ.o.ea;omega) Re rP HZ.o.ops (by first|exact(cE).drew|exact((cj _ _)).drew)).mono ?_;rintro e w5 ⟨d1,d2,d3,rfl,jb⟩;obtain⟨z0,h0,z2⟩:=al5 jb wc.heap.size)
           all_goals
            go_wp2_with fail
            go_meet
           all_goals first|with_reducible exact aoP jb|with_reducible exact aoQ jb (Nat.zero_lt_succ _)
          case rest=>
           obtain⟨aI,rfl,wA,rfl,jb⟩:=hcut;rename_i at5
           have MC:=((ki.trans (dT.mono y_)).trans (gb.mono (fx y_ dT.size))).trans (jb.mono (fx (fx y_ dT.size) gb.size));unfold IT at uH;generalize mB vec key el t (ts.take aY)=dc at*;generalize fc vec u.rep u.seq=bT at*;generalize fc u.saw t.rep t.seq=c6 at*;generalize (dR key el u.ops).isSome=e0 at*;generalize hZ (dR key el u.ops)=atp at*;clear dT gb jb rP Yk MB ki;go_wp2_with fail
           all_goals refine⟨⟨aY+1,by omega,by go_num,?_,MC⟩,by simp[intOf];omega⟩
           all_goals(rw[uH.o];first|exact F_ _ _ _ _ ‹_›|exact aiv ‹_› ‹_› ‹_› ‹_›|exact aiw _ ‹_› ‹_› ‹_› ‹_›|exact aix _ _ ‹_› ‹_› ‹_›|exact aiy _ _ _ ‹_› ‹_›)
        ·have e:aY=ts.length:=by omega
         subst e;rw[tI];have Lq:=J (jZ UT.o c7);have qR:=bZ c7 (bZ b0 AF);cases YG:mB vec key el t ts
         ·rw[YG,if_neg (by simp)]at jh
          go_wp2_with fail
          refine(OK _ _ kx el (by omega) (e3 Lq.o ch)).mono ?_;rintro e eS ⟨v6,rfl,R3,Nk,Ea⟩;have ajy:∀q,v6.ownBlock=some q->w.heap.size<=q:=fun q ad=>by
           rcases Ea q ad with h|h
           ·exact(Lq.o.lt q h).1
           ·have:=sd.size;omega
          have dT:=sd.trans (Nk.toBelow sd.size (fun q ad=>(Lq.o.lt q ad).1));have asM:=Hq kx el;have ad7:=Row.ay O8.o Nk (fun q ad hs=>Li.o q hs ad);have ai7:∀q,v6.ownBlock=some q->¬(bo ge es.length DU).ownBlock=some q:=fun q ad he=>by
           rcases Ea q ad with h|h
           ·exact Li.o q h he
           ·have:=(O8.o.lt q he).2;omega
          go_wp2_with fail
          exact⟨⟨j+1,_,by omega,by go_num,jh.o.symm,by omega,abn R3 ajy,ad7,ai7,dT⟩,by simp[intOf];omega⟩
         ·rw[YG,if_pos rfl]at jh
          go_wp2_with fail
          exact⟨⟨j+1,kx,by omega,by go_num,jh.o.symm,by omega,Lq.o,O8.o,Li.o,sd⟩,by simp[intOf];omega⟩
      ·have JS:q5 vec key ts t kx el=kx:=by unfold q5;rw[if_neg rH]
       rw[JS]at jh;have Ri:(hZ (dR key el t.ops) !=3)=true:=by simp;exact rH
       clear JS rH;go_wp2_with fail
       exact⟨⟨j+1,kx,by omega,by go_num,jh.o.symm,by omega,UT.o.alloc _,UI.o.alloc _,Li.o,Mt.alloc Mt.size _⟩,by simp[intOf];omega⟩
     ·go_wp2
      have e:es.take j=es:=lQ (by omega);rw[e]at Bu;exact⟨⟨k+1,kx,by omega,by go_num,by rw[aL.o];exact Bu.o,by omega,gV,l0⟩,by simp[intOf];omega⟩
  ·go_wp2
   go_ret;refine⟨_,rfl,?_,ao⟩;rw[Dk.o,lQ (by omega)]at dd;exact dd
end Go.Proofs.YtiplgdkpnhamaaaGreatDoor
