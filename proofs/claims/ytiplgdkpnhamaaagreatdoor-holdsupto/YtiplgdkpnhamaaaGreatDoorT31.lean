import Derived.Test.YtiplgdkpnhamaaaGreatDoorT20
import Derived.Test.YtiplgdkpnhamaaaGreatDoorT30
set_option maxHeartbeats 4000000
set_option maxRecDepth 100000
namespace Go.Proofs.YtiplgdkpnhamaaaGreatDoor.Tv
open Go.Proofs.Tryz List
open Go.RowKit
attribute[local go_sem] Oper.semAt_some
def q7 (us:List aT)(z:e4):aT:=(us.find? fun u=>decide (u.rep.toNat=z.x.1.rep∧u.seq=z.x.1.seq)).getD ⟨0,0,[],[]⟩
theorem ada {us:List aT}{bb:List (dt×Nat)}(ll:bb.map Prod.fst=us.map cL)(ve:us.Pairwise fun a b=>¬(a.rep.toNat=b.rep.toNat∧a.seq=b.seq)){z:e4}(cF:z∈j1 bb):z.x∈bb∧q7 us z∈us∧cL (q7 us z)=z.x.1:=by
 obtain⟨k,hk,rfl⟩:=fQ.1 cF;rw[tH]at hk;have hlen:bb.length=us.length:=by have:=congrArg length ll;simpa using this
 have MX:k<us.length:=by omega
 have ex:((j1 bb)[k]'(by rw[tH];exact hk)).x=bb[k]:=by simp[j1]
 have aP:bb[k].1=cL us[k]:=by
  have:=congrArg (fun l=>l[k]?) ll;simp only[zK,hg hk,hg MX,Bo,Fm]at this;exact this
 refine⟨by rw[ex];exact eT hk,?_⟩;have aw:decide (us[k].rep.toNat=((j1 bb)[k]'(by rw[tH];exact hk)).x.1.rep∧us[k].seq=((j1 bb)[k]'(by rw[tH];exact hk)).x.1.seq)=true:=by
  rw[ex,aP];simp[cL]
 have hs:(us.find? fun u=>decide (u.rep.toNat=((j1 bb)[k]'(by rw[tH];exact hk)).x.1.rep∧u.seq=((j1 bb)[k]'(by rw[tH];exact hk)).x.1.seq)).isSome:=by
  rw[find?_isSome];exact⟨us[k],eT MX,aw⟩
 obtain⟨u,hu⟩:=mn.1 hs;have ZC:=find?_some hu;have Nl:=mem_of_find?_eq_some hu;have ahz:q7 us ((j1 bb)[k]'(by rw[tH];exact hk))=u:=by unfold q7;rw[hu];rfl
 rw[ahz];refine⟨Nl,?_⟩;rw[ex,aP]at ZC⊢;have JX:=sM ZC;obtain⟨m,hm,rfl⟩:=fQ.1 Nl;have n2:=vD.1 ve;by_cases c:m=k
 ·subst c;rfl
 ·by_cases c2:m<k
  ·exact absurd JX (n2 m k hm MX c2)
  ·exact absurd ⟨JX.1.symm,JX.2.symm⟩ (n2 k m MX hm (by omega))
def ae8 (bg:dD)(w:World)(p:Nat->Own)(b n i:Nat)(d:aZ)(us:List aT)(e:Ending)(w':World):Prop:=
 e= .returned (I 0)∧∃(p':Nat->Own) (bb:List (dt×Nat)) (xs:List e4),bb.map Prod.fst=us.map cL∧xs.Perm (j1 bb)∧(xs.Pairwise fun a b=>kJ b a=false)∧gP bg w' p' b n i (jO d (xs.map (q7 us)))∧nQ w p w' p'
theorem aoc {bg:dD}{w:World}{p:Nat->Own}{b n i:Nat}{d:aZ}(h:gP bg w p b n i d)(us:List aT)(rD:us.length<=50000000)(bI:∀kq,(∀v,v∈kq->v∈us)->dB n (jO d kq).hs->(jO d kq).hs.length<=1100000)(t:ByteArray)(j:Nat)(ag:aW)(af:j<5)
  (xX:∀W,ax w W->Calls prog 79 #[.func (.func 80) #[] #[],ai t,I n] W fun e w'=>ax W w'∧∃bz,e= .returned (.tuple #[qG j ag bz,I 0])∧pV W (us.map cL) bz w')
  (kD:∀u,u∈us->u.rep.toNat<5∧0<=u.seq∧u.seq<=9223372036854775807)(n_:∀v,v∈oh (us.map cL)->v.small)(ve:us.Pairwise fun a b=>¬(a.rep.toNat=b.rep.toNat∧a.seq=b.seq))
  (hL:∀kq u,(∀v,v∈kq->v∈us)->u∈us->dB n (jO d kq).hs->(jO d kq).ag=cb n (jO d kq).hs->uV (jO d kq) u=true->oO n (jO d kq).hs u):
  Calls prog 41 #[bl b,ai t] w (ae8 (oK bg j ag) w p b n i d us):=by
 refine callsIn_wide.1 (?_:CallsIn Fence.wide 6 _ _ _ _ _);refine callsIn_of_wp_marks func41 rfl trivial ?_ rfl;simp only[ntmps41,Bn,lP,w3,Nat.reduceAdd,Nat.reduceSub,Array.replicate_succ,Array.replicate_zero,push_toArray,append_toArray,w1,yo];refine wpIn_wide.2 ?_;generalize bj:w.alloc (.cells #[bl b] 45)=W0;have bp:ax w W0:=by rw[<-bj];exact cj _ _
 have cE:aQ W0 w.heap.size [bl b] 45:=by rw[<-bj];exact cC w _
 obtain⟨aE,st,b8,tbs,cX,av,aY,h⟩:=h;have aS:=h.below bp;obtain⟨-,c1,-⟩:=aS.cellOf;have eE:=cE.c0;have lj:=aS.U.U.lt;have r5:=J (xX W0 bp);have Zw:W0.heap.size=w.heap.size+1:=by rw[<-bj];simp
 have aO:=J (⟨h,⟨rD,bI⟩,kD,n_,ve,hL,bp,cE,aS,Zw⟩:_∧(_∧_)∧_∧_∧_∧_∧_∧_∧_∧_);have di:=J bj;clear h rD bI kD n_ ve hL xX bp cE aS bj Zw;go_upto_region 1 with(fail);rw[di.o];go_upto_region 2 with(go_at_call 79;refine r5.o.mono ?_;rintro e w2 ⟨bP,bz,rfl,QI⟩;obtain⟨cA,m,jV,rfl⟩:=QI.shape;have bu:=J (⟨bP,QI⟩:_∧_);have b_:=bZ bP eE;have dY:w.heap.size<w2.heap.size:=hU w2 _ b_;clear bP QI eE);generalize f_:w2.alloc (.cells #[I j,I ag.a,I ag.b,I ag.c,I ag.d,I ag.e,.slice cA m jV] 154)=dH;have b0:ax w2 dH:=by rw[<-f_];exact cj _ _
 have lT:aQ dH w2.heap.size [I j,I ag.a,I ag.b,I ag.c,I ag.d,I ag.e,.slice cA m jV] 154:=by rw[<-f_];exact cC w2 _
 obtain⟨bb,ll,xZ,zc⟩:=bu.o.2.ex;classical
 obtain⟨dk,jd⟩:∃dk:Nat->Own,dk=je p w.heap.size fun q=>if∃y∈bb,y.2=q then .held 5 else .other:=⟨_,rfl⟩
 have oy:ax w dH:=(aO.o.2.2.2.2.2.2.1.trans (bu.o.1.mono aO.o.2.2.2.2.2.2.1.size)).trans (b0.mono (fx aO.o.2.2.2.2.2.2.1.size bu.o.1.size));have B8:fH bg dH dk b n i d aE st b8 tbs cX av aY:=aO.o.1.move fun q ad _=>⟨oy.block q ad,by rw[jd];exact jz ad⟩
 have ij:=aao B8 af ag;have xi:=J ij;have dW:=bZ b0 b_;have a0:=lT.c0;have cO:=lT.c1;have a2:=lT.c2;have a3:=lT.c3;have a4:=lT.c4;have a5:=lT.c5;have ln:=lT.lt;have al1:=hU dH _ dW;have ck:=J (⟨b0,lT,ll,xZ,zc,jd,oy,B8⟩:_∧_∧_∧_∧_∧_∧_∧_);clear ij b0 lT f_ ll xZ zc jd oy B8 r5 di b_ c1 lj dY;go_upto_region 5 with(go_at_call 76;refine xi.o.mono ?_;rintro e cc ⟨rfl,pz,jK⟩;refine gE ?_);refine Lib.hid ?_;obtain⟨b0,lT,ll,xZ,zc,jd,oy,B8⟩:=ck.o;have as5:W0.heap.size=w.heap.size+1:=aO.o.2.2.2.2.2.2.2.2.2;have sw:W0.heap.size<=w2.heap.size:=bu.o.1.size;have Zr:=b0.size;have JK:∀q,w.heap.size<=q->dk q=if∃y∈bb,y.2=q then .held 5 else .other:=fun q ad=>by rw[jd];exact sE ad
 have Co:∀q,w.heap.size<=q->q<dH.heap.size->cc.heap[q]?=dH.heap[q]?:=fun q ad wB=>jK.ay.block q wB (by rw[JK q ad];split<;>simp)
 have mg:∀y,y∈bb->W0.heap.size<=y.2∧y.2<w2.heap.size:=fun y b9=>⟨(zc y b9).1,(zc y b9).2.lt⟩
 have N0:dk w.heap.size= .other:=by
  rw[JK _ cv,if_neg];rintro ⟨y,b9,e⟩;have:=(mg y b9).1;omega
 have anf:dk w2.heap.size= .other:=by
  rw[JK _ (by omega),if_neg];rintro ⟨y,b9,e⟩;have:=(mg y b9).2;omega
 have vS:=lT.move (Co _ (by omega) lT.lt);have Io:aQ cc w.heap.size [bl b] 45:=((aO.o.2.2.2.2.2.2.2.1.below bu.o.1).below b0).move (Co _ cv (by omega));have Cx:cc.ownsRow 0 139 8 (.slice cA m jV) bb.length (bb.flatMap ia):=by
  refine pL (jZ (e3 xZ ch) b0) fun q ad=>Co q ?_ ?_
  ·have:=(xZ.lt q ad).1;omega
  ·have:=(xZ.lt q ad).2;omega
 have sy:∀y,y∈bb->nT cc y∧dk y.2= .held 5:=fun y b9=>by
  have h1:=mg y b9;refine⟨cV.move (cV.move (zc y b9).2 (b0.block _ h1.2)) (Co _ (by omega) (by omega)),?_⟩;rw[JK _ (by omega),if_pos ⟨y,b9,rfl⟩]
 have aj1:m=bb.length:=by
  obtain⟨cf,c',dI,-⟩:=Row.shape Cx;cases dI;rfl
 subst aj1;have FO:=vS.iG;have od:=vS.lt;have JN:nQ w p cc dk:=by
  refine⟨?_,fun q ad e=>by rw[jd,jz ad]at e;exact e⟩;refine(Touch.dh oy).trans (jK.ay.mono fun q ad e=>?_);by_cases c:q<w.heap.size
  ·left
   rw[jd,jz c]at e;rw[e];simp
  ·exact Or.inr (by omega)
 have wv:=alp cc cA bb.length jV;have Fx:=J wv;have cd:=J (⟨pz,ll,mg,N0,Io,Cx,sy,JN,sw⟩:_∧_∧_∧_∧_∧_∧_∧_∧_);have att:=Io.lt;clear pz jK b0 lT ll xZ zc jd oy B8 JK Co mg N0 anf vS Io Cx sy JN wv ck a0 cO a2 a3 a4 a5 dW ln al1 xi Zr sw;go_wp2_with(go_at_call 81;refine Fx.o.mono ?_;rintro e w5 ⟨rfl,rfl⟩)
 obtain⟨pz,ll,mg,N0,Io,Cx,sy,JN,sw⟩:=cd.o;obtain⟨-,⟨rD,bI⟩,kD,n_,ve,hL,-⟩:=aO.o;have hlen:bb.length=us.length:=by have:=congrArg length ll;simpa using this
 have bm:∀x,x∈bb->x.1.rep<5∧0<=x.1.seq∧x.1.seq<=9223372036854775807:=fun x au=>by
  have h1:x.1∈us.map cL:=by rw[<-ll];exact gF.2 ⟨x,au,rfl⟩
  obtain⟨u,hu,e⟩:=gF.1 h1;rw[<-e];exact kD u hu
 have CJ:∀z,z∈j1 bb->(z.x∈bb∧q7 us z∈us∧cL (q7 us z)=z.x.1):=fun z cF=>ada ll ve cF
 have c7:ax cc (cc.alloc (.cells #[.slice cA bb.length jV] 106)):=cj _ _;have Ew:(cc.alloc (.cells #[.slice cA bb.length jV] 106)).heap.size=cc.heap.size+1:=by simp
 have ow:aQ (cc.alloc (.cells #[.slice cA bb.length jV] 106)) cc.heap.size [.slice cA bb.length jV] 106:=cC cc _;generalize tb:cc.alloc (.cells #[.slice cA bb.length jV] 106)=fY at*;have wF:=alq 5 cc.heap.size 0 bb (.slice cA bb.length jV) fY (ow.cell 0) (jZ Cx c7) (by omega) bm (by rw[ll];exact n_);have aS:s0 (oK bg j ag) b n i d w p w.heap.size fY.heap.size (j1 bb) (q7 us) (fun _=>False) [] fY:=by
  refine⟨⟨dk,pz.move fun q ad _=>⟨c7.block q ad,rfl⟩,⟨JN.ay.trans (Touch.dh c7),JN.stay⟩,fun q ad=>ad.elim,N0,fun z cF=>(sy _ (CJ z cF).1).2⟩,Io.below c7,fun z cF=>⟨cV.move (sy _ (CJ z cF).1).1 (c7.block _ (sy _ (CJ z cF).1).1.lt),?_⟩,fun z cF=>by simp at cF,fun q ad=>ad.elim,by omega,by omega,cv⟩;have:=(sy _ (CJ z cF).1).1.lt;omega
 have ari:=J hlen;clear hlen Ew;have qb:prog.follows .mixedOrders=true:=by kernel_rfl
 generalize Value.tuple #[qG (↑j) ag (Value.slice cA bb.length jV),Value.int IntKind.i64 0]=u8;generalize qG (↑j) ag (Value.slice cA bb.length jV)=u15;generalize Value.agg #[Value.int IntKind.i64 ↑j,Value.int IntKind.i64 ag.a,Value.int IntKind.i64 ag.b,Value.int IntKind.i64 ag.c,Value.int IntKind.i64 ag.d,Value.int IntKind.i64 ag.e]=u22;have Q_:Fence.wide.fn 57:=trivial;have Ch:Fence.wide.fn 82:=trivial;have MK:Fence.wide.fn 66:=trivial;refine(wpIn_wide (n:=6)).1 ?_;refine anT (n:=6) (by omega) (gf:=124) (lb:= #[bl cc.heap.size]) rfl (fun _ _=>rfl) wF cE (fun _=>rfl) (s0 (oK bg j ag) b n i d w p w.heap.size fY.heap.size (j1 bb) (q7 us)) (fun X Y pre bR W2 h aD ui=>s0.KQ h aD ui) (fun X pre W h q ad=>(s0.q_ h q ad).2) aS
  (fun x cf W X=>∃oo,X oo∧aQ W oo (ia x.x) 139∧cf={tmps:= #[bl b,ai t,Value.pointer (some {block:=w.heap.size,off:=0}),undef,Value.int IntKind.i64 0,Value.pointer (some {block:=w2.heap.size,off:=0}),Value.int IntKind.i64 0,Value.pointer (some {block:=oo,off:=0}),u8,ai t,bl b,Value.pointer (some {block:=b,off:=0}),Value.pointer (some {block:=b,off:=1}),Value.int IntKind.i64 ↑n,u8,u15,Value.int IntKind.i64 0,Value.int IntKind.i64 0,Value.bool false,undef,bl b,Value.pointer (some {block:=w2.heap.size,off:=0}),u22,Value.tuple #[],Value.pointer (some {block:=w2.heap.size,off:=6}),Value.slice cA bb.length jV,Value.func (Fn.func 124) #[] #[bl cc.heap.size],.agg #[I x.x.1.rep,I x.x.1.seq,I x.x.1.saw.a,I x.x.1.saw.b,I x.x.1.saw.c,I x.x.1.saw.d,I x.x.1.saw.e,.map (some x.x.2)],undef,undef,undef,undef,undef,undef,undef,undef,undef,undef],defers:=[]})
  ?hAx ?assign ?body ?done
 case hAx=>
  rintro x cf W X l r o ⟨oo,h1,ae,aH⟩ aC;refine⟨oo,h1,ae.move (World.putObj_heap_other fun e=>?_),aH⟩;rw[<-e]at aC;rw[aQ,aC]at ae;cases ae
 case assign=>
  rintro l X pre ⟨⟨⟨r,gM,⟨cY,s1,s2,fX,hI⟩,zE⟩,mb⟩,dZ⟩ W K au MZ ez cx;gi_wp2
  refine cx _ _ (fun q=>X q∨q=W.heap.size) (ez.KQ (Touch.dh ((cj _ _))) fun q ad=>?_) (fun q ad=>Or.inl ad) ((Touch.refl _ _).alloc _) ⟨W.heap.size,Or.inr rfl,cC W _,rfl⟩;rcases ad with ad|rfl
  ·exact⟨Or.inl ad,by have:=(ez.q_ q ad).2;simp;omega⟩
  ·exact⟨Or.inr cv,by simp⟩
 case body=>
  rintro l X pre ⟨⟨⟨r,gM,⟨cY,s1,s2,fX,hI⟩,zE⟩,mb⟩,dZ⟩ cf W au MZ ez ⟨oo,ar1,r_,rfl⟩;obtain⟨eu,aiS,ae,aH,bd,cS⟩:=ez.ex;obtain⟨aoI,st2,atV,atY,atH,sA,atr,uh⟩:=aiS;obtain⟨-,-,c2⟩:=uh.cellOf;have eE:=ez.box.c0;obtain⟨-,CD,tq⟩:=CJ _ au;obtain⟨u,hu⟩:∃u,q7 us ⟨(⟨r,gM,⟨cY,s1,s2,fX,hI⟩,zE⟩,mb),dZ⟩=u:=⟨_,rfl⟩;rw[hu]at CD tq;have fl:u.rep.toNat=r:=congrArg dt.rep tq;have es:u.seq=gM:=congrArg dt.seq tq;have px:bJ u.saw=⟨cY,s1,s2,fX,hI⟩:=congrArg dt.saw tq;obtain⟨d2,oA⟩:∃d2,jO d (pre.map (q7 us))=d2:=⟨_,rfl⟩;have gV:d2.hs.length<=1100000:=by
   rw[<-oA];exact bI (pre.map (q7 us)) (fun v iq=>by
    obtain⟨z,cF,rfl⟩:=gF.1 iq;exact(CJ z (ez.mem z cF)).2.1) uh.ok.df
  rw[oA]at uh;have n4:r<5:=by rw[<-fl];exact(kD u CD).1
  have JZ:=uh.Ua gV r;obtain⟨v,wI⟩:∃v,bJ d2.ag=v:=⟨_,rfl⟩;have rM:=fun dP (ao:ax W dP)=>(uh.below ao).Ub
  rw[wI]at rM JZ;have qQ:uV d2 u=vW r gM ⟨cY,s1,s2,fX,hI⟩ v:=by unfold uV;rw[fl,es,px,wI]
  have asL:=r_.lt;have ff:Hid (CallsIn (Fence.wide.inRound l) 3 prog 57 #[bl aoI] W.drew (bx v.val fun w'=>(w'.cell? (aa oo 0)=some (I r)∧w'.cell? (aa oo 1)=some (I gM)∧w'.cell? (aa oo 2)=some (I cY)∧w'.cell? (aa oo 3)=some (I s1)∧w'.cell? (aa oo 4)=some (I s2)∧w'.cell? (aa oo 5)=some (I fX)∧w'.cell? (aa oo 6)=some (I hI)∧w'.cell? (aa oo 7)=some (.map (some mb))∧oo<w'.heap.size)∧Hid (ax W w'))):=
   CallsIn.inRound l ((callsIn_wide.2 (rM W.drew (cE).drew)).mono (by
    rintro e w' ⟨rfl,ao⟩;have ig:ax W w':=(cE).drew.trans ao;have hz:=r_.below ig;exact⟨rfl,⟨hz.cell 0,hz.cell 1,hz.cell 2,hz.cell 3,hz.cell 4,hz.cell 5,hz.cell 6,hz.cell 7,hz.lt⟩,ig⟩))
  have dj:Hid (∀dP,ax W dP->CallsIn (Fence.wide.inRound l) 3 prog 82 #[.agg #[I r,I gM,I cY,I s1,I s2,I fX,I hI,.map (some mb)],v.val] dP (bx (.bool (vW r gM ⟨cY,s1,s2,fX,hI⟩ v)) fun w'=>Hid (ax dP w'))):=fun dP _=>
   CallsIn.inRound l (callsIn_wide.2 (agm dP r gM ⟨cY,s1,s2,fX,hI⟩ v (.map (some mb)) n4 (by omega) (by omega)))
  have c8:=r_.c0;have dr:=r_.c1;have en:=r_.c2;have d_:=r_.c3;have ev:=r_.c4;have gv:=r_.c5;have nf:=r_.iG;have wZ:=r_.hA;have lj:=uh.U.U.lt;have asK:=ez.box.lt;have jF:=J (⟨ez,r_,uh,ae,aH,bd,cS,hu,CD,tq,fl,es,px,oA,gV,qQ,au⟩:_∧_∧_∧_∧_∧_∧_∧_∧_∧_∧_∧_∧_∧_∧_∧_∧_);obtain⟨bM,Q4⟩:∃bM,vW r gM ⟨cY,s1,s2,fX,hI⟩ v=bM:=⟨_,rfl⟩;rw[Q4]at dj;have kg:=J Q4;clear ez r_ uh ae aH bd cS hu CD tq fl es px oA gV qQ Q4 rM wI JZ n4 MZ au;gi_wp2
  gi_region_with_o (first|(gi_at_call 57;refine ff.o.mono ?_;rintro e eS ⟨rfl,⟨z0,h0,z2,z3,z4,z5,Up,adM,adN⟩,dT⟩)|(gi_at_call 82;refine(dj.o _ dT.o).mono ?_;rintro e qs ⟨rfl,gb⟩))
  all_goals
   have s_:ax W qs:=dT.o.trans (gb.o.mono dT.o.size);obtain⟨ez,r_,uh,ae,aH,bd,cS,hu,CD,tq,fl,es,px,oA,gV,qQ,au⟩:=jF.o;rw[kg.o]at qQ;have Tm:=bZ s_ eE;have r9:=r_.below s_;have dm:=r9.c0;have dz:=r9.c1;have ei:=r9.c2;have fG:=r9.c3;have ib:=r9.c4;have j2:=r9.c5;have Be:=r9.iG;have K6:=r9.hA;have asQ:=r9.lt;have asO:=hU qs _ Tm;have yz:=J s_;cases bM with
   |false=>
    have eV:s0 (oK bg j ag) b n i d w p w.heap.size fY.heap.size (j1 bb) (q7 us) X (pre++[⟨(⟨r,gM,⟨cY,s1,s2,fX,hI⟩,zE⟩,mb),dZ⟩]) qs:=ez.no au (by rw[oA,hu];exact qQ) s_;have vK:=J (⟨eV,fun q ad=>s_.block q (ez.q_ q ad).2⟩:_∧∀q,X q->qs.heap[q]?=W.heap[q]?);clear ez r_ uh ae aH bd cS hu CD tq fl es px oA gV qQ au eV s_ r9 dT gb z0 h0 z2 z3 z4 z5 Up adM adN c8 dr en d_ ev gv nf wZ eE c2;gi_wp2
    exact⟨vK.o.1,yz.o.size,vK.o.2⟩
   |true=>
    have QU:=(ez.jr _ au).1;have Zc:oO n d2.hs u:=by
     have a:=hL (pre.map (q7 us)) u (fun v iq=>by
      obtain⟨z,cF,rfl⟩:=gF.1 iq;exact(CJ z (ez.mem z cF)).2.1) CD
     rw[oA]at a;exact a uh.ok.df uh.ok.ag qQ
    have sx:=acn (u:=u) (mb:=mb) (uh.below s_) gV Zc (by rw[tq];exact cV.move QU (s_.block _ QU.lt)) (cS _ au);rw[fl,es,px]at sx;have Pq:Hid (CallsIn (Fence.wide.inRound l) 3 prog 66 _ qs _):=CallsIn.inRound l (callsIn_wide.2 sx);clear sx Zc QU r_ uh r9 dT gb z0 h0 z2 z3 z4 z5 Up adM adN c8 dr en d_ ev gv nf wZ eE c2;have lA:=J (⟨ez,ae,aH,bd,cS,hu,fl,oA,qQ,au⟩:_∧_∧_∧_∧_∧_∧_∧_∧_∧_);clear ez ae aH bd cS hu fl oA qQ au CD tq es px gV s_;gi_wp2_with (gi_at_call 66;refine Pq.o.mono ?_;rintro e kI ⟨rfl,NZ,Mx,y7⟩;have aeH:=J (⟨Mx,y7⟩:_∧_);clear Mx y7)
    obtain⟨ez,ae,aH,bd,cS,hu,fl,oA,qQ,au⟩:=lA.o;obtain⟨Mx,y7⟩:=aeH.o;have s_:=yz.o;have aiM:=ez.KQ (Y:=X) (Touch.dh s_) fun q ad=>⟨Or.inl ad,hV (ez.q_ q ad).2 s_.size⟩
    have b9:=s0.yes aiM (W2:=kI) (p:=eu) (p':=NZ) au (by rw[hu];exact(kD u (hu▸(CJ _ au).2.1)).1) (by rw[oA,hu];exact qQ) ⟨ae.ay.trans (Touch.dh s_),ae.stay⟩ aH bd cS (by rw[oA,hu];exact Mx) (by rw[hu,fl];exact y7);exact⟨b9.1,fx s_.size y7.size,fun q ad=>(b9.2 q ad).trans (s_.block q (ez.q_ q ad).2)⟩
 case done=>
  rintro D xs W cy ⟨wz,Nh⟩ ez cx;have lA:=J (⟨wz,Nh,ez⟩:_∧_∧_);clear wz Nh ez;go_wp2_with fail
  refine⟨by simp,.inl ⟨_,_,rfl,run_takeDeferred cx,?_⟩⟩;obtain⟨wz,Nh,ez⟩:=lA.o;obtain⟨S5,g1,g2,-⟩:=(ez.KQ (Y:=fun _=>False) (OB (X:=fun q=>q=D) W (.deferred none) rfl) fun q ad=>ad.elim).ex;exact⟨_,results_tmp rfl _ _ _,rfl,S5,bb,xs,ll,wz,Nh,g1,g2⟩
end Go.Proofs.YtiplgdkpnhamaaaGreatDoor.Tv
namespace Go.Proofs.YtiplgdkpnhamaaaGreatDoor
open Go.Proofs.Tryz List
open Go.RowKit Go.Sort
variable {i j k:Nat}{l:List dt}
theorem Z6 (v o:aW)(hk:k<5):(v.join o).get k=max (v.get k) (o.get k):=by
 have:k=0∨k=1∨k=2∨k=3∨k=4:=by omega
 rcases this with rfl|rfl|rfl|rfl|rfl<;>rfl
theorem Wc {v w:aW}(h:∀k:Nat,k<5->v.get k<=w.get k){r:Nat}(aJ:r<5)(hs:v.get r<w.get r):v.count<w.count:=by
 have aS:v.a<=w.a:=h 0 (by omega);have h1:v.b<=w.b:=h 1 (by omega);have ae:v.c<=w.c:=h 2 (by omega);have aH:v.d<=w.d:=h 3 (by omega);have bd:v.e<=w.e:=h 4 (by omega);unfold aW.count;have:r=0∨r=1∨r=2∨r=3∨r=4:=by omega
 rcases this with rfl|rfl|rfl|rfl|rfl
 ·have:v.a<w.a:=hs;omega
 ·have:v.b<w.b:=hs;omega
 ·have:v.c<w.c:=hs;omega
 ·have:v.d<w.d:=hs;omega
 ·have:v.e<w.e:=hs;omega
structure ov (l:List dt):Prop where
 ok:∀t,t∈l->t.rep<5∧1<=t.seq∧t.saw.get t.rep<=t.seq-1
 up:l.Pairwise fun a b=>a.rep=b.rep->a.seq<b.seq
theorem Kj {eX:Nat->aW}{t:dt}(al:t.rep<5)(hk:k<5):(rT eX t).get k=if k=t.rep then t.seq-1 else max ((eX t.rep).get k) (t.saw.get k):=by
 unfold rT;rw[KW _ al,Z6 _ _ hk]
theorem SB (af:j<l.length)(eX:Nat->aW):oe eX (l.take (j+1))=qg (oe eX (l.take j)) l[j].rep (rT (oe eX (l.take j)) l[j]):=by
 rw[kr af,Nz]
theorem ov.lt (h:ov l)(aq:i<j)(af:j<l.length)(e:l[i].rep=l[j].rep):l[i].seq<l[j].seq:=vD.1 h.up i j (by omega) af aq e
theorem ov.own (_:ov l)(r:Nat){s:Int}(hs:1<=s):∀j,j<=l.length->(∀i (aq:i<l.length),i<j->l[i].rep=r->l[i].seq<s)->r<5->(oe nC (l.take j) r).get r<=s-1:=by
 intro j;induction j with
 |zero=>
  intro _ _ aJ;have:(mi.get r)=0:=by
   have:r=0∨r=1∨r=2∨r=3∨r=4:=by omega
   rcases this with rfl|rfl|rfl|rfl|rfl<;>rfl
  show(mi.get r)<=_
  omega
 |succ j ih=>
  intro af hb aJ;have hl:j<l.length:=by omega
  rw[SB hl];unfold qg;split
  ·rename_i c
   subst c;rw[Kj aJ aJ,if_pos rfl];have:=hb j hl (by omega) rfl;omega
  ·exact ih (by omega) (fun i aq l6=>hb i aq (by omega)) aJ
theorem ov.step {l:List dt}(h:ov l){j:Nat}(af:j<l.length)(r:Nat){k:Nat}(hk:k<5):(oe nC (l.take j) r).get k<=(oe nC (l.take (j+1)) r).get k:=by
 rw[SB af];unfold qg;split
 ·rename_i c
  subst c;obtain⟨h1,ae,aH⟩:=h.ok l[j] (eT af);rw[Kj h1 hk];split
  ·rename_i c
   subst c;exact h.own _ ae j (by omega) (fun i aq l6 e=>h.lt l6 af e) h1
  ·omega
 ·exact re _
theorem ov.mono (h:ov l)(r:Nat)(hk:k<5)(l6:i<=j)(af:j<=l.length):(oe nC (l.take i) r).get k<=(oe nC (l.take j) r).get k:=by
 obtain⟨m,rfl⟩:=Nat.exists_eq_add_of_le l6;clear l6;induction m with
 |zero=>exact re _
 |succ m ih=>exact vC (ih (by omega)) (h.step (j:=i+m) (by omega) r hk)
def q0 (l:List dt)(j:Nat)(af:j<l.length):aW:=rT (oe nC (l.take j)) l[j]
theorem Ki (af:j<l.length):q0 l j af=oe nC (l.take (j+1)) l[j].rep:=by
 rw[SB af];unfold qg;rw[if_pos rfl];rfl
theorem Kk:∀(l:List dt) (eX:Nat->aW) (j:Nat) (af:j<l.length),(wM eX l)[j]?=some (rT (oe eX (l.take j)) l[j])
 |[],_,_,af=>by simp at af
 |a::l,eX,0,_=>rfl
 |a::l,eX,j+1,af=>by
  have:=Kk l (qg eX a.rep (rT eX a)) j (by simpa using af);simpa[wM,oe]using this
theorem ov.aa0 (h:ov l)(aq:i<l.length)(af:j<l.length)(l6:i<=j)(e:l[i].rep=l[j].rep)(hk:k<5):(q0 l i aq).get k<=(q0 l j af).get k:=by
 rw[Ki,Ki,e];exact h.mono _ hk (by omega) (by omega)
theorem ov.acd (h:ov l)(af:j<l.length)(hk:k<5):l[j].saw.get k<=(q0 l j af).get k:=by
 obtain⟨h1,ae,aH⟩:=h.ok l[j] (eT af);unfold q0;rw[Kj h1 hk];split
 ·rename_i c;subst c;exact aH
 ·omega
theorem ov.Kp (h:ov l)(af:j<l.length):(q0 l j af).get l[j].rep=l[j].seq-1:=by
 obtain⟨h1,ae,aH⟩:=h.ok l[j] (eT af);unfold q0;rw[Kj h1 h1,if_pos rfl]
theorem aaX:∀{l:List (bF×aW)},(l.map Prod.fst).Nodup->∀{d:bF} {v:aW},(d,v)∈l->pc l d=some v
 |[],_,_,_,h=>by simp at h
 |x::l,hn,d,v,h=>by
  rw[map_cons,yt]at hn;show(pc l d).or _=_
  rcases h3.1 h with e|h
  ·subst e
   have eV:pc l d=none:=by
    have:∀(m:List (bF×aW)),d∉m.map Prod.fst->pc m d=none:=by
     intro m;induction m with
     |nil=>intro _;rfl
     |cons y m ih=>
      intro aB;rw[map_cons,h3]at aB;show(pc m d).or _=none
      rw[ih (fun c=>aB (Or.inr c)),if_neg (fun c=>aB (Or.inl c))];rfl
    exact this l hn.1
   rw[eV];simp
  ·rw[aaX hn.2 h];rfl
theorem ov.nodup (h:ov l):(l.map dt.dot).Nodup:=by
 rw[List.Nodup,zL];refine h.up.imp fun{a b} jy e=>?_
 have aP:(a.rep:Int)=b.rep:=congrArg bF.rep e;have ba:a.seq=b.seq:=congrArg bF.seq e;have:=jy (by omega);omega
theorem ov.amG (h:ov l)(af:j<l.length):pc (p5 l) l[j].dot=some (q0 l j af):=by
 have hlen:(oh l).length=l.length:=CO l nC;refine aaX (l:=p5 l) ?_ ?_
 ·unfold p5
  rw[map_fst_zip (by simp[hlen])];exact h.nodup
 ·unfold p5
  rw[mem_iff_getElem?];refine⟨j,?_⟩;rw[getElem?_zip_eq_some];exact⟨by simp[af],Kk l nC j af⟩
theorem ov.less (h:ov l)(hs:FL l)(oW:∀a,a∈l->∀b,b∈l->b.seq<=a.saw.get b.rep->∃c,c∈l∧c.rep=b.rep∧c.seq=a.saw.get b.rep)(aq:i<l.length)(af:j<l.length)(hw:(l[j].rep=l[i].rep∧l[j].seq<l[i].seq)∨l[j].seq<=l[i].saw.get l[j].rep):(q0 l j af).count<(q0 l i aq).count:=by
 obtain⟨i1,i2,i3⟩:=h.ok l[i] (eT aq);obtain⟨gr,gK,x1⟩:=h.ok l[j] (eT af);have V0:l[j].rep=l[i].rep->l[j].seq<l[i].seq->(q0 l j af).count<(q0 l i aq).count:=fun e br=>by
  have AK:j<i:=by
   by_cases c:j<i
   ·exact c
   ·by_cases c2:i=j
    ·subst c2;omega
    ·have:=h.lt (show i<j by omega) af e.symm;omega
  refine Wc (fun k hk=>h.aa0 af aq (by omega) e hk) gr ?_;rw[h.Kp af,e,h.Kp aq];omega
 rcases hw with⟨e,br⟩|hw
 ·exact V0 e br
 ·by_cases e:l[j].rep=l[i].rep
  ·exact V0 e (by rw[e]at hw;omega)
  ·obtain⟨c,aA,aP,ba⟩:=oW _ (eT aq) _ (eT af) hw
   obtain⟨m,hm,rfl⟩:=fQ.1 aA;have hk:=(J5 _ _).1 (hs _ (eT aq) l[j].rep gr);have aB:(⟨(l[j].rep:Nat),l[i].saw.get l[j].rep⟩:bF)=l[m].dot:=by
    show _=(⟨(l[m].rep:Nat),l[m].seq⟩:bF)
    rw[aP,ba]
   rw[aB,h.amG hm]at hk;have ajH:j<=m:=by
    by_cases c:j<=m
    ·exact c
    ·have:=h.lt (show m<j by omega) af aP;omega
   have le:∀k:Nat,k<5->(q0 l j af).get k<=(q0 l i aq).get k:=fun k kT=>
    vC (h.aa0 af hm ajH aP.symm kT) (vC (hk k kT) (h.acd aq kT))
   refine Wc le gr ?_;rw[h.Kp af];have:=h.acd aq gr;omega
end Go.Proofs.YtiplgdkpnhamaaaGreatDoor
