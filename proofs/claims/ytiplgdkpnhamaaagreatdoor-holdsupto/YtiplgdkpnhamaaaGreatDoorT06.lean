import Derived.Test.YtiplgdkpnhamaaaGreatDoorT01
import Derived.Deep.RegionWith
set_option maxHeartbeats 2000000
set_option maxRecDepth 100000
namespace Go.Proofs.YtiplgdkpnhamaaaGreatDoor
open Go.Proofs.Tryz
open Go.RowKit
variable {dc bT c6:Bool}
theorem am4 (bT c6 e0:Bool)(h:dc=true):Value.bool true= .bool (dc||(bT&&c6&&e0)):=by simp[h]
theorem am5 {e0:Bool}(aS:¬dc=true)(h1:bT=true)(ae:c6=true):Value.bool e0= .bool (dc||(bT&&c6&&e0)):=by simp[aS,h1,ae]
theorem am6 (e0:Bool)(aS:¬dc=true)(h1:bT=true)(ae:¬c6=true):Value.bool false= .bool (dc||(bT&&c6&&e0)):=by simp[aS,h1,ae]
theorem am7 (c6 e0:Bool)(aS:¬dc=true)(h1:¬bT=true):Value.bool false= .bool (dc||(bT&&c6&&e0)):=by simp[aS,h1]
theorem aol (w:World)(az n:Nat)(de v:Value)(xs:List cq)(ts:List aT)(vec:List Int)(key:ByteArray)(G:qz w az n de xs ts)(jY:vec.length=n)(b2:n<=5)
  (bf:Row w 3 1 v vec.length (ints vec))(AQ:∀r (h:r<vec.length),0<=vec[r]∧vec[r]<=2000000)
  (oW:∀r (h:r<vec.length) (s:Nat),(s:Int)+1<=vec[r]->∃t,t∈ts∧kY (r:Int) ((s:Int)+1) t=true):
  Calls prog 138 #[.pointer (some (aa az 0)),v,ai key] w fun e w'=>∃v',e= .returned v'∧
   w'.ownsRow w.heap.size 9 1 v' (lr vec key ts n).length (strs (lr vec key ts n))∧ax w w':=by
 obtain⟨cA,cap,rfl,gg,um⟩:=G.shape;have MD:=G.Iq;have MQ:=G.hn;have gO:=cy G;have bc:=cy bf;have dn:=cy jY;have dp:=cy AQ;have cz:=cy oW;clear G bf jY AQ oW;obtain⟨i0,aq,dC,dM,dK⟩:=iV Tryz.CL;go_enter func138,ntmps138;go_wp2;go_loopw[7,8] (fun l r wr=>∃hQ:Nat,hQ<=n∧r=I hQ∧wr.ownsRow w.heap.size 9 1 l (lr vec key ts hQ).length (strs (lr vec key ts hQ))∧(lr vec key ts hQ).length<=hQ*2000000∧ax w wr) (fun _ r _=>n-(intOf r).toNat)
 case atStart=>exact⟨0,ch,rfl,by simpa[lr,strs]using jD _ _ _ _,by simp[lr],cE⟩
 case round=>
  obtain⟨hQ,su,rfl,dd,hlen,ao⟩:=hrel;have ajB:=bZ ao MQ;clear MQ;by_cases nZ:hQ<n
  ·have hF:hQ<vec.length:=by have:=dn.o;omega
   have aw:=dp.o hQ hF;have bm:=cz.o hQ hF;have UK:=cy bm;clear bm;obtain⟨bw,wW,rfl,rM,akJ,asC,CE,_⟩:=Row.pos bc.o (by omega);have kW:=CE hQ (by omega);rw[o9 _ _ hF]at kW;clear CE;have mf:vec.getD hQ 0=vec[hQ]:=by simp[hF]
   have aL:Hid (lr vec key ts (hQ+1)=lr vec key ts hQ++pQ vec key ts hQ vec[hQ].toNat):=by
    rw[<-mf];exact Oc _ _ _ _
   clear mf;obtain⟨m,hm⟩:=Int.eq_ofNat_of_zero_le aw.1;rw[hm]at kW aL UK aw;rw[kL]at aL;clear hm;generalize lr vec key ts hQ=base at*;go_wp2;go_loopw[7,9] (fun l s C9=>∃kp:Nat,kp<=m∧s=I ((kp:Int)+1)∧C9.ownsRow w.heap.size 9 1 l (base++pQ vec key ts hQ kp).length (strs (base++pQ vec key ts hQ kp))∧ax w C9) (fun _ s _=>m+1-(intOf s).toNat)
   case atStart=>exact⟨0,ch,rfl,by simpa[pQ]using dd,ao⟩
   case round=>
    obtain⟨kp,o4,rfl,fm,bP⟩:=hrel;have sA:=bZ bP kW;have asA:=bZ bP gO.o.hn;have ft:(base++pQ vec key ts hQ kp).length<=12000000:=by
     have:=Ts vec key ts hQ kp;rw[eN];omega
    clear ajB kW;by_cases xT:kp<m
    ·have jh:Hid (base++pQ vec key ts hQ (kp+1)=(base++pQ vec key ts hQ kp)++tA vec key ts (u4 ts hQ ((kp:Int)+1))):=by
      unfold Hid;rw[Ob,mN]
     obtain⟨i,qS,y1,eV,YA⟩:=Qr (UK.o kp (by omega));rw[YA]at jh;clear YA;have O2:=gO.o.below bP;obtain⟨hD,x,rfl,Rc,-,-,-,-,-,qV,-⟩:=O2.pick i qS;have zP:=cy O2;have aee:=cy y1;have vK:=cy eV;clear O2 y1 eV;generalize base++pQ vec key ts hQ kp=atB at*;go_wp2_with fail
     refine(WW _ az n hD cap xs ts _ _ zP.o i qS aee.o vK.o).mono ?_;rintro e an ⟨rfl,aF⟩;have O3:=zP.o.below aF;obtain⟨_,x,e,ajv,h1,ae,aH,bd,al,-,o3⟩:=O3.pick i qS;cases e;have dA:=cy al;have Pc:=cy O3;clear al O3;generalize Zz:ts[i]=t at*;have aeN:=cy Zz;clear Zz;go_wp2_with fail
     refine(Kd key cK _ hD (i*5) x.bU t.ops (by have:=dA.o.ea;omega) ajv bd dA.o.ops).mono ?_;rintro e w2 ⟨he,b0⟩;have Ar:=(bP.trans (aF.mono bP.size)).trans (b0.mono (fx bP.size aF.size));have sr:=jZ (jZ fm aF) b0;cases kj:dR key cK t.ops with
     |none=>
      have rF:e= .returned (.tuple #[.agg #[I 0,ai ⟨#[]⟩,ai ⟨#[]⟩,I 0],.bool false]):=by rw[he,kj];rfl
      subst rF;have JO:tA vec key ts t=[]:=by unfold tA;rw[kj]
      rw[JO,qu]at jh;clear he JO kj;go_wp2_with fail
      exact⟨⟨kp+1,by omega,by go_num,by rw[jh.o];exact sr.alloc _,Ar.alloc Ar.size _⟩,by simp[intOf];omega⟩
     |some o=>
      have rF:e= .returned (.tuple #[.agg #[I o.kind,ai o.key,ai o.value,I o.cH],.bool true]):=by rw[he,kj];rfl
      subst rF;have JO:tA vec key ts t=if sD vec key t ts then[]else[o.value]:=by unfold tA;rw[kj]
      have Ly:=cy JO;clear he JO kj h1 ae aH bd;have HJ:=Pc.o.below b0;go_wp2_with fail
      go_loopw[13,14] (fun bU q Ui=>∃aY:Nat,aY<=ts.length∧q=I aY∧bU= .bool (sD vec key t (ts.take aY))∧Below (w2.heap.size+1) (w2.alloc (.cells #[I o.kind,ai o.key,ai o.value,I o.cH] 171)) Ui) (fun _ q _=>ts.length-(intOf q).toNat)
      case atStart=>exact⟨0,ch,rfl,rfl,cE⟩
      case round=>
       obtain⟨aY,iA,rfl,rfl,ki⟩:=hrel;have c7:ax w2 wr:=((cj _ _)).trans (ki.mono (by omega));have sd:=Ar.trans (c7.mono Ar.size);have yy:=HJ.below c7;have MA:=yy.aU;by_cases cW:aY<ts.length
       ·obtain⟨_,y,e,ajx,h1,ae,aH,bd,hu,akH,za⟩:=yy.pick aY cW
        cases e;obtain⟨_,aqU,e,-,t1,t2,-,-,-,-,-⟩:=yy.pick i qS;cases e;rw[aeN.o]at t1 t2;have uH:Hid (sD vec key t (ts.take (aY+1))=Ko vec key t (sD vec key t (ts.take aY)) ts[aY]):=by
         unfold Hid;rw[kr cW];exact am8 _ _ _ _ _
        have HY:=cy hu;have Pd:=cy yy;have RN:=cy (Row.below bc.o sd);clear hu yy;generalize ts[aY]=u at*;go_wp2_with fail
        refine(Ha _ _ vec _ _ (by omega) (by have:=dn.o;omega) RN.o).mono ?_;rintro e bN ⟨rfl,dT⟩;have Je:=bZ dT MA;have eW:=bZ dT aH;have cI:=bZ dT t1;have dq:=bZ dT t2;have fo:=bZ dT bd;have FG:=cy (HY.o.below dT);clear MA h1 ae aH bd t1 t2;go_wp2_with fail
        go_region_with(go_at_call 174;refine(Ha _ _ u.saw _ _ (by omega) (by omega) (by exact Row.move FG.o.saw (fun _ _=>rfl))).mono ?_;rintro e cc ⟨rfl,gb⟩)
        all_goals
         have D0:ax bN cc:=((cE).drew).trans gb;have MB:=bZ D0 Je;have rP:=bZ D0 fo;have HZ:=cy (FG.o.below D0);have Re:hD<cc.heap.size:=by have:=dT.size;have:=D0.size;omega
         go_wp2_with fail
         refine(Kd key cK _ hD (aY*5) y.bU u.ops (by have:=HZ.o.ea;omega) Re rP HZ.o.ops).mono ?_;rintro e w5 ⟨he,jb⟩;obtain⟨c0,c1,c2,c3,rF⟩:∃c0 c1 c2 c3,e= .returned (.tuple #[.agg #[I c0,ai c1,ai c2,I c3],.bool (dR key cK u.ops).isSome]):=⟨_,_,_,_,he⟩;subst rF;clear he;have y_:w2.heap.size+1<=wr.heap.size:=by have:=ki.size;simpa using this
         have MC:Below (w2.heap.size+1) (w2.alloc (.cells #[I o.kind,ai o.key,ai o.value,I o.cH] 171)) w5:=
          ((ki.trans (dT.mono y_)).trans (D0.mono (fx y_ dT.size))).trans (jb.mono (fx (fx y_ dT.size) D0.size))
         have RT:w2.heap.size+1<=w5.heap.size:=by have:=MC.size;simpa using this
         unfold Ko at uH;generalize sD vec key t (ts.take aY)=dc at*;generalize fc vec u.rep u.seq=bT at*;generalize fc u.saw t.rep t.seq=c6 at*;generalize (dR key cK u.ops).isSome=e0 at*;clear gb D0 jb dT ki rP fo eW dq cI Je MB;go_wp2_with fail
         all_goals refine⟨⟨aY+1,by omega,by go_num,?_,MC.alloc RT _⟩,by simp[intOf];omega⟩
         all_goals(rw[uH.o];first|exact am4 _ _ _ ‹_›|exact am5 ‹_› ‹_› ‹_›|exact am6 _ ‹_› ‹_› ‹_›|exact am7 _ _ ‹_› ‹_›)
       ·have e:aY=ts.length:=by omega
        subst e;rw[tI];have asX:wr.cell? (aa (w2.heap.size) 2)=some (ai o.value):=by rw[ki.cell (p:=(aa (w2.heap.size) 2)) (by simp)];simp
        have RD:=jZ sr c7;have GK:w2.heap.size<wr.heap.size:=by have:=ki.size;simp at this;omega
        cases iJ:sD vec key t ts
        ·rw[iJ,if_neg (by simp)]at Ly
         rw[Ly.o]at jh;go_wp2_with(at_builtin;refine yw _ rfl _ _ 41 rfl w.heap.size 9 i0 (ai ⟨#[]⟩) 1 16 underlying41 aq dC dM dK rfl (by decide) _ _ _ rfl (RD.alloc _) (aa (wr.heap.size) 0) 1 1 [ai o.value] rfl rfl (qw _ _ _) (by intro u hu;simp at hu;subst hu;rfl) (by unfold maxLen;omega) (by omega) (by have:=sd.size;simp;omega) ?_;intro v1 eS xV oE aj8)
         have hL:eS.ownsRow w.heap.size 9 1 v1 (base++pQ vec key ts hQ (kp+1)).length (strs (base++pQ vec key ts hQ (kp+1))):=by
          rw[jh.o,Hg];simpa using xV
         have aiI:ax w eS:=(sd.alloc sd.size _).grown oE (by have:=sd.size;simp;omega) (fun j af=>(RD.lt j af).1);exact⟨⟨kp+1,by omega,by go_num,hL,aiI⟩,by simp[intOf];omega⟩
        ·rw[iJ,if_pos rfl]at Ly
         rw[Ly.o,qu]at jh;go_wp2;exact⟨⟨kp+1,by omega,by go_num,by rw[jh.o];exact RD,sd⟩,by simp[intOf];omega⟩
    ·have e:kp=m:=by omega
     subst e;have Na:=Ts vec key ts hQ kp;go_wp2;exact⟨⟨hQ+1,by omega,by go_num,by rw[aL.o];exact fm,by rw[aL.o,eN];omega,bP⟩,by simp[intOf];omega⟩
  ·go_wp2
   go_ret;have e:hQ=n:=by omega
   subst e;exact⟨_,rfl,dd,ao⟩
abbrev oM (sum:Int)(l:Value)(e:Int):Value:= .tuple #[.agg #[I sum,l],I e]
structure ae9 (w:World)(a c:Value)(t:TypeId):Prop where
 later:∀{W bN:World},w.alloc (.cells #[a,c] t)=W->ax W bN->
  bN.cell? (aa (w.heap.size) 0)=some a∧bN.cell? (aa (w.heap.size) 1)=some c∧(∀j,bN.frozen? (aa (w.heap.size) j)=false)∧w.heap.size<bN.heap.size
theorem Of (w:World)(a c:Value)(t:TypeId):ae9 w a c t:=⟨fun{W bN} h ao=>by
 subst h;have hs:w.heap.size<(w.alloc (.cells #[a,c] t)).heap.size:=by simp
 refine⟨?_,?_,fun j=>?_,hV hs ao.size⟩
 ·rw[ao.cell (p:=(aa (w.heap.size) 0)) hs];simp
 ·rw[ao.cell (p:=(aa (w.heap.size) 1)) hs];simp
 ·rw[ao.frozen (p:=(aa (w.heap.size) j)) hs];exact W_ _ _ _ _⟩
theorem aoB (w:World)(az b:Nat)(v:Value)(xs:List cq)(tx:Int)(key:ByteArray)(hn:xs.length<=6)
  (av:eh w b 2 v)(bf:Row w 217 5 v xs.length (xs.flatMap cq.cells))(eI:kE xs tx=false):
  Calls prog 88 #[.pointer (some (aa az 0)),.pointer (some (aa b 0)),I tx,ai key] w (bx (oM 0 (.slice none 0 0) 4) fun w'=>ax w w'):=by
 have ff:Hid ((w.alloc (.cells #[I 0,.slice none 0 0] 66)).cell? (aa b 2)=some v):=by
  unfold Hid;rw[xb _ _ _ (hU w _ av)];exact av
 have bc:=J (bf.alloc (.cells #[I 0,.slice none 0 0] 66));clear bf av;go_enter func88,ntmps88;go_wp2_with fail
 refine(uw _ b v xs tx (by omega) ff.o bc.o).mono ?_;rintro e an ⟨rfl,rfl⟩;go_wp2_with fail
 exact iX (v:=oM 0 (.slice none 0 0) 4) (by simp[results,results88,go_sem]) rfl ⟨rfl,(cj _ _)⟩
theorem aoA (w:World)(az b:Nat)(v:Value)(xs:List cq)(k:Nat)(key:ByteArray)(hn:xs.length<=6)(hk:k<xs.length)(eC:key.size<=maxLen)
  (av:eh w b 2 v)(bf:Row w 217 5 v xs.length (xs.flatMap cq.cells))(eI:xs[k].fA=true)(fj:kindOf key=0):
  Calls prog 88 #[.pointer (some (aa az 0)),.pointer (some (aa b 0)),I k,ai key] w (bx (oM 0 (.slice none 0 0) 2) fun w'=>ax w w'):=by
 obtain⟨g,cap,rfl,gg,hm,aM,aA,bm⟩:=bf.pos (by omega);have ft:b<w.heap.size:=hU w _ av;have cw:Hid (kE xs k=true):=by simp[Hid,kE,hk,eI]
 have ff:Hid ((w.alloc (.cells #[I 0,.slice none 0 0] 66)).cell? (aa b 2)=some (bo g xs.length cap)):=by
  unfold Hid;rw[xb _ _ _ ft];exact av
 have bc:=J (bf.alloc (.cells #[I 0,.slice none 0 0] 66));have cD:=J fj;clear bf aA eI fj;go_enter func88,ntmps88;go_wp2_with fail
 refine(uw _ b _ xs k (by omega) ff.o bc.o).mono ?_;rintro e an ⟨he,rfl⟩;rw[cw.o]at he;subst he;go_wp2_with fail
 refine(EH key _ eC).mono ?_;rintro e w2 ⟨he,rfl⟩;rw[cD.o]at he;subst he;go_wp2_with fail
 exact iX (v:=oM 0 (.slice none 0 0) 2) (by simp[results,results88,go_sem]) rfl ⟨rfl,(cj _ _)⟩
theorem aoz (w:World)(az b n:Nat)(de v:Value)(c_ xs:List cq)(ts:List aT)(k:Nat)(key:ByteArray)(t:aT)(hn:xs.length<=6)(hk:k<xs.length)(eC:key.size<=maxLen)(G:qz w az n de c_ ts)
  (av:eh w b 2 v)(bf:Row w 217 5 v xs.length (xs.flatMap cq.cells))(eI:xs[k].fA=true)(al:uR w xs[k] t)(mc:t.saw.length=n)(fj:kindOf key=99):
  Calls prog 88 #[.pointer (some (aa az 0)),.pointer (some (aa b 0)),I k,ai key] w (bx (oM (wrap64 (nV t.saw key ts+sumOf key t.ops)) (.slice none 0 0) 0) fun w'=>ax w w'):=by
 obtain⟨g,cap,rfl,gg,hm,aM,aA,bm⟩:=bf.pos (by omega);have ft:b<w.heap.size:=hU w _ av;have aH:=aA (k*5+3) (by omega);have bd:=aA (k*5+4) (by omega);rw[hC _ 5 cq.k_ _ _ _ hk (by omega)]at aH bd;simp only[cq.cells,jg,kK]at aH bd;have cw:Hid (kE xs k=true):=by simp[Hid,kE,hk,eI]
 have bp:ax w (w.alloc (.cells #[I 0,.slice none 0 0] 66)):=cj _ _;have ff:=J (bZ bp av);have bc:=J (Row.below bf bp);have gO:=J (G.below bp);have dA:=J (al.below bp);have cD:=J fj;have FF:=J mc;have Mq:=bZ bp aH;have Aq:=bZ bp bd;have kW:=bZ bp av;have yC:=J (Of w (I 0) (.slice none 0 0) 66);clear bf aA eI fj G al mc bm aH bd av;generalize bY:w.alloc (.cells #[I 0,.slice none 0 0] 66)=W at*;go_enter func88,ntmps88;go_wp2_with fail
 have DB:=J bY;clear bY;refine(uw _ b _ xs k (by omega) ff.o bc.o).mono ?_;rintro e an ⟨he,rfl⟩;rw[cw.o]at he;subst he;go_wp2_with fail
 refine(EH key _ eC).mono ?_;rintro e w2 ⟨he,rfl⟩;rw[cD.o]at he;subst he;go_wp2_with fail
 refine(agR _ az n de _ c_ ts t.saw key gO.o FF.o dA.o.saw).mono ?_;rintro e bN ⟨rfl,b0⟩;obtain⟨eE,cB,Oh,zr⟩:=yC.o.later DB.o b0;have aiE:=bZ b0 Aq;have Dz:=J (dA.o.below b0);have oy:=cy (bp.trans (b0.mono bp.size));go_wp2_with fail
 refine(acN key _ g (k*5) _ t.ops (by have:=Dz.o.ea;omega) aiE Dz.o.ops).mono ?_;rintro e cc ⟨rfl,rfl⟩;go_wp2_with fail
 refine iX (v:=oM (wrap64 (nV t.saw key ts+sumOf key t.ops)) (.slice none 0 0) 0) (by simp[results,results88,go_sem,eE,cB]) rfl ⟨rfl,?_⟩;exact(oy.o.setCell cv _).setCell cv _
theorem aoC (w:World)(az b n:Nat)(de v:Value)(c_ xs:List cq)(ts:List aT)(k:Nat)(key:ByteArray)(t:aT)(o:db)(hn:xs.length<=6)(hk:k<xs.length)(eC:key.size<=maxLen)(G:qz w az n de c_ ts)
  (av:eh w b 2 v)(bf:Row w 217 5 v xs.length (xs.flatMap cq.cells))(eI:xs[k].fA=true)(al:uR w xs[k] t)(mc:t.saw.length=n)(fj:kindOf key=114)(kj:dR key cK t.ops=some o):
  Calls prog 88 #[.pointer (some (aa az 0)),.pointer (some (aa b 0)),I k,ai key] w fun e w'=>∃bz,e= .returned (oM 0 bz 0)∧w'.ownsRow w.heap.size 9 1 bz 1 (strs [o.value])∧ax w w':=by
 obtain⟨g,cap,rfl,gg,hm,aM,aA,bm⟩:=bf.pos (by omega);have ft:b<w.heap.size:=hU w _ av;have aH:=aA (k*5+3) (by omega);have bd:=aA (k*5+4) (by omega);rw[hC _ 5 cq.k_ _ _ _ hk (by omega)]at aH bd;simp only[cq.cells,jg,kK]at aH bd;have cw:Hid (kE xs k=true):=by simp[Hid,kE,hk,eI]
 have bp:ax w (w.alloc (.cells #[I 0,.slice none 0 0] 66)):=cj _ _;have dE:(w.alloc (.cells #[I 0,.slice none 0 0] 66)).heap.size=w.heap.size+1:=by simp
 have ic:=J dE;clear dE;have ff:=J (bZ bp av);have bc:=J (Row.below bf bp);have gO:=J (G.below bp);have dA:=J (al.below bp);have cD:=J fj;have FF:=J mc;have Mq:=bZ bp aH;have Aq:=bZ bp bd;have kW:=bZ bp av;have yC:=J (Of w (I 0) (.slice none 0 0) 66);clear bf aA eI fj G al mc bm aH bd av;generalize bY:w.alloc (.cells #[I 0,.slice none 0 0] 66)=W at*;have MN:g<W.heap.size:=by have:=ic.o;omega
 go_enter func88,ntmps88;go_wp2_with fail
 have DB:=J bY;clear bY;refine(uw _ b _ xs k (by omega) ff.o bc.o).mono ?_;rintro e an ⟨he,rfl⟩;rw[cw.o]at he;subst he;go_wp2_with fail
 refine(EH key _ eC).mono ?_;rintro e w2 ⟨he,rfl⟩;rw[cD.o]at he;subst he;go_wp2_with fail
 refine(Kd key cK _ g (k*5) _ t.ops (by have:=dA.o.ea;omega) MN Aq dA.o.ops).mono ?_;rintro e bN ⟨he,b0⟩;have rF:e= .returned (.tuple #[.agg #[I o.kind,ai o.key,ai o.value,I o.cH],.bool true]):=by rw[he,kj];rfl
 subst rF;obtain⟨eE,cB,Oh,zr⟩:=yC.o.later DB.o b0;have oy:=cy (bp.trans (b0.mono bp.size));clear he kj;go_wp2_with fail
 refine iX (v:=oM 0 (bo (bN.heap.size+1) 1 1) 0) (by simp[results,results88,go_sem,eE,cB,zr]) rfl ⟨_,rfl,?_,?_⟩
 ·have hle:=oy.o.size
  have a:=World.ownsRow_lit (base:=w.heap.size) (e:=9) (size:=1) (((bN.setCell (aa (w.heap.size) 0) (I 0)).setCell (aa (w.heap.size) 1) (bo (bN.heap.size+1) 1 1)).alloc (.cells #[I o.kind,ai o.key,ai o.value,I o.cH] 171)) #[ai o.value] 1 (by simp;omega) (by unfold maxLen;omega) rfl;simpa[strs]using a
 ·exact(((oy.o.setCell cv _).setCell cv _).alloc (by have:=oy.o.size;simp;omega) _).alloc (by have:=oy.o.size;simp;omega) _
theorem aoE (w:World)(az b n:Nat)(de v:Value)(c_ xs:List cq)(ts:List aT)(k:Nat)(key:ByteArray)(t:aT)(hn:xs.length<=6)(hk:k<xs.length)(eC:key.size<=maxLen)(G:qz w az n de c_ ts)
  (av:eh w b 2 v)(bf:Row w 217 5 v xs.length (xs.flatMap cq.cells))(eI:xs[k].fA=true)(al:uR w xs[k] t)(mc:t.saw.length=n)(fj:kindOf key=114)(kj:dR key cK t.ops=Option.none)(b2:n<=5)(AQ:∀r (h:r<t.saw.length),0<=t.saw[r]∧t.saw[r]<=2000000)(oW:∀r (h:r<t.saw.length) (s:Nat),(s:Int)+1<=t.saw[r]->∃u,u∈ts∧kY (r:Int) ((s:Int)+1) u=true):
  Calls prog 88 #[.pointer (some (aa az 0)),.pointer (some (aa b 0)),I k,ai key] w fun e w'=>∃bz,e= .returned (oM 0 bz 0)∧w'.ownsRow w.heap.size 9 1 bz (lr t.saw key ts n).length (strs (lr t.saw key ts n))∧ax w w':=by
 obtain⟨g,cap,rfl,gg,hm,aM,aA,bm⟩:=bf.pos (by omega);have ft:b<w.heap.size:=hU w _ av;have aH:=aA (k*5+3) (by omega);have bd:=aA (k*5+4) (by omega);rw[hC _ 5 cq.k_ _ _ _ hk (by omega)]at aH bd;simp only[cq.cells,jg,kK]at aH bd;have cw:Hid (kE xs k=true):=by simp[Hid,kE,hk,eI]
 have bp:ax w (w.alloc (.cells #[I 0,.slice none 0 0] 66)):=cj _ _;have dE:(w.alloc (.cells #[I 0,.slice none 0 0] 66)).heap.size=w.heap.size+1:=by simp
 have ic:=J dE;clear dE;have ff:=J (bZ bp av);have bc:=J (Row.below bf bp);have gO:=J (G.below bp);have dA:=J (al.below bp);have cD:=J fj;have FF:=J mc;have Mq:=bZ bp aH;have Aq:=bZ bp bd;have kW:=bZ bp av;have yC:=J (Of w (I 0) (.slice none 0 0) 66);clear bf aA eI fj G al mc bm aH bd av;generalize bY:w.alloc (.cells #[I 0,.slice none 0 0] 66)=W at*;have MN:g<W.heap.size:=by have:=ic.o;omega
 go_enter func88,ntmps88;go_wp2_with fail
 have DB:=J bY;clear bY;refine(uw _ b _ xs k (by omega) ff.o bc.o).mono ?_;rintro e an ⟨he,rfl⟩;rw[cw.o]at he;subst he;go_wp2_with fail
 refine(EH key _ eC).mono ?_;rintro e w2 ⟨he,rfl⟩;rw[cD.o]at he;subst he;go_wp2_with fail
 refine(Kd key cK _ g (k*5) _ t.ops (by have:=dA.o.ea;omega) MN Aq dA.o.ops).mono ?_;rintro e bN ⟨he,b0⟩;have rF:e= .returned (.tuple #[.agg #[I 0,ai ⟨#[]⟩,ai ⟨#[]⟩,I 0],.bool false]):=by rw[he,kj];rfl
 subst rF;have I4:ax w2 (bN.alloc (.cells #[I 0,ai ⟨#[]⟩,ai ⟨#[]⟩,I 0] 171)):=b0.alloc b0.size _;have arT:=bZ b0 Mq;have oX:g<bN.heap.size:=by have:=b0.size;omega
 have Pc:=J (gO.o.below I4);have Dz:=J (dA.o.below I4);have dp:=J AQ;have cz:=J oW;clear he kj AQ oW;go_wp2_with fail
 refine(aol _ az n de _ c_ ts t.saw key Pc.o FF.o b2 Dz.o.saw dp.o cz.o).mono ?_;rintro e cc ⟨bz,rfl,sl,hX⟩;have Xv:=I4.trans (hX.mono I4.size);obtain⟨eE,cB,Oh,zr⟩:=yC.o.later DB.o Xv;have aiG:=cy (bp.trans (Xv.mono bp.size));obtain⟨e_,iD,rfl,-,-,-⟩:=Row.shape (e3 sl ch);have ael:=J sl;clear sl;generalize XC:lr t.saw key ts n=L at*;have xh:=J XC;clear XC;go_wp2_with fail
 refine iX (v:=oM 0 (.slice e_ L.length iD) 0) (by simp[results,results88,go_sem,eE,cB]) rfl ⟨_,rfl,?_,?_⟩
 ·rw[xh.o]
  have h1:=ic.o;have ae:=I4.size;have aH:(bN.alloc (.cells #[I 0,ai ⟨#[]⟩,ai ⟨#[]⟩,I 0] 171)).heap.size=bN.heap.size+1:=by simp
  exact e3 (Df (Df ael.o (a:=(aa (w.heap.size) 0)) (by show w.heap.size<(bN.alloc (.cells #[I 0,ai ⟨#[]⟩,ai ⟨#[]⟩,I 0] 171)).heap.size;omega) _) (a:=(aa (w.heap.size) 1)) (by show w.heap.size<(bN.alloc (.cells #[I 0,ai ⟨#[]⟩,ai ⟨#[]⟩,I 0] 171)).heap.size;omega) _) (fx (show w.heap.size<=w2.heap.size by omega) ae)
 ·exact(aiG.o.setCell cv _).setCell cv _
end Go.Proofs.YtiplgdkpnhamaaaGreatDoor
