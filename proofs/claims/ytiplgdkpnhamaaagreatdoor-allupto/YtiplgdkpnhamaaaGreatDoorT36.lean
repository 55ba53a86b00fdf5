import Derived.Test.YtiplgdkpnhamaaaGreatDoorT31
import Derived.Laws.AppendOwnNone
set_option maxHeartbeats 8000000
set_option maxRecDepth 100000
namespace Go.Proofs.YtiplgdkpnhamaaaGreatDoor.Tv
open Go.Proofs.Tryz List
open Go.RowKit
variable {b i j k n r:Nat}{d d':aZ}{hs ts us:List aT}{o:Nat->Tag}{ops:List db}{p:Nat->Own}{s:Int}{t:Tag}{u:aT}{v:aW}{w:World}{bg:dD}
abbrev iO (hs:List aT)(r:Nat):List aT:=hs.filter fun u=>decide (u.rep=(r:Int))
theorem dB.less (h:dB n (hs++[u])):dB n hs:=⟨h.n5,fun j af=>by
 have a:=h.tx j (by simp;omega);rw[Dg af,take_append_of_le_length (by omega)]at a;exact a⟩
theorem dB.last (h:dB n (hs++[u])):oO n hs u:=by
 have a:=h.tx hs.length (by simp);rw[Fj cv,take_left' rfl]at a;simpa using a
theorem Ao:∀{hs:List aT},dB n hs->∀(r j:Nat) (af:j<(iO hs r).length),(iO hs r)[j].seq=(j:Int)+1∧(iO hs r)[j].rep=(r:Int):=by
 intro hs;induction hs using ya with
 |aS=>intro _ r j af;simp[iO]at af
 |h1 hs u ih=>
  intro h r j af;have bm:iO (hs++[u]) r=iO hs r++if u.rep=(r:Int)then[u]else[]:=by
   unfold iO;rw[filter_append];by_cases c:u.rep=(r:Int)<;>simp[c]
  by_cases c:j<(iO hs r).length
  ·have e:(iO (hs++[u]) r)[j]=(iO hs r)[j]:=by simp only[bm,Dg c]
   rw[e];exact ih h.less r j c
  ·have aC:=h.last
   by_cases c2:u.rep=(r:Int)
   ·have m_:j=(iO hs r).length:=by
     rw[bm,if_pos c2,eN,ys]at af;omega
    have e:(iO (hs++[u]) r)[j]=u:=by
     simp only[bm,if_pos c2];rw[Fj (by omega)];simp
    rw[e,aC.seq,c2,kL];exact⟨by rw[m_];rfl,rfl⟩
   ·rw[bm,if_neg c2,qu]at af;omega
def qo (hs:List aT)(x:dD)(v:aW)(r:Nat):List aT:=h8 hs r (max (x.gone r) (v.get r).toNat)
def fM (hs:List aT)(x:dD)(v:aW):List aT:=(List.range 5).flatMap (qo hs x v)
def s7 (hs:List aT)(x:dD)(v:aW)(r:Nat):Nat:=min (h8 hs r (x.gone r)).length ((v.get r).toNat-x.gone r)
theorem tf (hs:List aT)(r g:Nat):(h8 hs r g).length=(iO hs r).length-g:=length_drop
theorem Ce {g:Nat}(af:j<(h8 hs r g).length):(h8 hs r g)[j]=(iO hs r)[g+j]'(by have:=tf hs r g;omega):=getElem_drop ..
theorem Ot (hs:List aT)(x:dD)(v:aW)(r:Nat):(h8 hs r (x.gone r)).drop (s7 hs x v r)=qo hs x v r:=by
 unfold s7;rw[tf];show((iO hs r).drop (x.gone r)).drop _=(iO hs r).drop _
 rw[drop_drop];generalize (iO hs r)=l;by_cases c:(v.get r).toNat-x.gone r<=l.length-x.gone r
 ·congr 1;omega
 ·rw[drop_eq_nil_of_le,drop_eq_nil_of_le]
  ·omega
  ·omega
theorem Ma (h:dB n hs)(x:dD)(v:aW)(j:Nat)(af:j<(h8 hs r (x.gone r)).length):v.gI (cL (h8 hs r (x.gone r))[j]).dot=decide (j<s7 hs x v r):=by
 have aC:=tf hs r (x.gone r);have m_:x.gone r+j<(iO hs r).length:=by omega
 obtain⟨aP,ba⟩:=Ao h r _ m_;rw[Ce af];show decide ((iO hs r)[x.gone r+j].seq<=v.get (((iO hs r)[x.gone r+j].rep.toNat:Nat):Int))=_
 rw[aP,ba,kL,Bool.eq_iff_iff,mo,mo];unfold s7;constructor<;>intro c<;>omega
theorem Gm (hs:List aT)(r g:Nat):(h8 hs r g).length<=hs.length:=by
 unfold h8;rw[length_drop];have:=Ff (fun u:aT=>decide (u.rep=(r:Int))) hs;omega
theorem ak0 (v0 v1 v2 v3 v4:Value)(W:World):(Instr.index 107 (.agg #[v0,v1,v2,v3,v4]) (I 0)).run prog W= .ok v0 W:=by kernel_rfl
theorem ak1 (v0 v1 v2 v3 v4:Value)(W:World):(Instr.index 107 (.agg #[v0,v1,v2,v3,v4]) (I 1)).run prog W= .ok v1 W:=by kernel_rfl
theorem ak2 (v0 v1 v2 v3 v4:Value)(W:World):(Instr.index 107 (.agg #[v0,v1,v2,v3,v4]) (I 2)).run prog W= .ok v2 W:=by kernel_rfl
theorem ak3 (v0 v1 v2 v3 v4:Value)(W:World):(Instr.index 107 (.agg #[v0,v1,v2,v3,v4]) (I 3)).run prog W= .ok v3 W:=by kernel_rfl
theorem ak4 (v0 v1 v2 v3 v4:Value)(W:World):(Instr.index 107 (.agg #[v0,v1,v2,v3,v4]) (I 4)).run prog W= .ok v4 W:=by kernel_rfl
theorem R_ (av:List Value)(v0 v1 v2 v3 v4:Value)(e:av=[v0,v1,v2,v3,v4])(r:Nat)(aJ:r<av.length)(W:World):(Instr.index 107 (.agg #[v0,v1,v2,v3,v4]) (I r)).run prog W= .ok av[r] W:=by
 subst e;have:r=0∨r=1∨r=2∨r=3∨r=4:=by simp at aJ;omega
 rcases this with rfl|rfl|rfl|rfl|rfl
 ·exact ak0 v0 v1 v2 v3 v4 W
 ·exact ak1 v0 v1 v2 v3 v4 W
 ·exact ak2 v0 v1 v2 v3 v4 W
 ·exact ak3 v0 v1 v2 v3 v4 W
 ·exact ak4 v0 v1 v2 v3 v4 W
structure adO (w W0:World)(hs:List aT)(x:dD)(v:aW)(r:Nat)(bv:Value)(wr:World):Prop where
 cZ:ax W0 wr
 ex:∃iE:List (dt×Nat),iE.map Prod.fst=((List.range r).flatMap (qo hs x v)).map cL∧wr.ownsRow W0.heap.size 139 8 bv iE.length (iE.flatMap ia)∧∀z,z∈iE->nT w z
theorem KK (hs:List aT)(x:dD)(v:aW):∀r,((List.range r).flatMap (qo hs x v)).length<=r*hs.length:=by
 intro r;induction r with
 |zero=>simp
 |succ r ih=>
  rw[range_succ,r3,eN,kf,Bl,qu,w4];have:=Gm hs r (max (x.gone r) (v.get r).toNat);unfold qo at*;omega
def adP (w:World)(hs:List aT)(x:dD)(v:aW)(e:Ending)(w':World):Prop:=∃(bz:Value) (iE:List (dt×Nat)),e= .returned bz∧w'.ownsRow w.heap.size 139 8 bz iE.length (iE.flatMap ia)∧iE.map Prod.fst=(fM hs x v).map cL∧(∀z,z∈iE->nT w z)∧ax w w'
theorem Qt {α:Type}(f:α->List Value)(s:Nat)(bm:∀a,(f a).length=s):∀(l:List α) (m:Nat),(l.drop m).flatMap f=(l.flatMap f).drop (m*s)
 |[],m=>by simp
 |a::l,0=>by simp
 |a::l,m+1=>by
  rw[j4,kf,Qt f s bm l m,show(m+1)*s=(f a).length+m*s by rw[bm,w4];omega,drop_append];simp
theorem af7 {aE:Nat}{st:b5}{b8 tbs cX:Nat->Nat}{av aY:List Value}(h:fH bg w p b n i d aE st b8 tbs cX av aY)(bI:d.hs.length<=1100000)(v:aW):
  Calls prog 78 #[.pointer (some (aa b 3)),v.val] w (adP w d.hs bg v):=by
 obtain⟨i0,aq,dC,dM,dK⟩:=iV Tryz.Sf;have cw:=J (⟨aq,dC,dM,dK⟩:_∧_∧_∧_);clear aq dC dM dK;obtain⟨v0,v1,v2,v3,v4,vp⟩:∃v0 v1 v2 v3 v4,av=[v0,v1,v2,v3,v4]:=by
  have:=h.hlen;match av,this with
  |[a,b,c,d,e],_=>exact⟨a,b,c,d,e,rfl⟩
 generalize bj:w.alloc (.cells #[I v.a,I v.b,I v.c,I v.d,I v.e] 104)=W0;have bp:ax w W0:=by rw[<-bj];exact cj _ _
 have fV:aQ W0 w.heap.size v.cells 104:=by rw[<-bj];exact cC w _
 have aS:=h.below bp;have nU:∀k (hk:k<5),W0.cell? (aa b (3+k))=av[k]?:=fun k hk=>by rw[aS.U.U.cell (3+k),KE h.hlen k hk]
 rw[vp]at nU;have c0:W0.cell? (aa b 3)=some v0:=nU 0 (by omega);have c1:W0.cell? (aa b 4)=some v1:=nU 1 (by omega);have c2:W0.cell? (aa b 5)=some v2:=nU 2 (by omega);have c3:W0.cell? (aa b 6)=some v3:=nU 3 (by omega);have c4:W0.cell? (aa b 7)=some v4:=nU 4 (by omega);have lj:=aS.U.U.lt;have cm:=J (R_ av v0 v1 v2 v3 v4 vp);have aO:=J (⟨h,bI,bp,fV⟩:_∧_∧_∧_);have di:=J bj;have wD:=fV.lt;clear h bI bp fV aS nU bj;go_enter func78,ntmps78;go_upto_region 2 with(fail);rw[di.o];go_wp2_with fail
 clear c0 c1 c2 c3 c4 lj;go_loopw[5,12] (fun bv jA wr=>∃r:Nat,r<=5∧jA=I r∧Hid (adO w W0 d.hs bg v r bv wr)) (fun _ jA _=>5-(intOf jA).toNat)
 case atStart=>exact⟨0,ch,rfl,cE,[],by simp,jD _ _ _ _,by simp⟩
 case round=>
  obtain⟨r,n4,rfl,bO⟩:=hrel;obtain⟨iE,aP,ba,ey⟩:=bO.o.ex;by_cases aJ:r<5
  ·obtain⟨h,bI,bp,fV⟩:=aO.o
   have hF:r<av.length:=by rw[h.hlen];exact aJ
   obtain⟨bb,dz,ei,fG⟩:=(h.held r hF).ex;have ao:=bp.trans (bO.o.cZ.mono bp.size);have bf:wr.ownsRow 0 139 8 av[r] bb.length (bb.flatMap ia):=jZ ei.row ao;have mg:bb.length=(h8 d.hs r (bg.gone r)).length:=by have:=congrArg length dz;simpa using this
   have sj:=Gm d.hs r (bg.gone r);have zb:∀i (aq:i<bb.length),bb[i].1=cL ((h8 d.hs r (bg.gone r))[i]'(by omega)):=fun i aq=>by
    have:=congrArg (fun l=>l[i]?) dz;simp only[zK,hg aq,hg (show i<(h8 d.hs r (bg.gone r)).length by omega),Bo,Fm]at this;exact this
   obtain⟨k,hk⟩:∃k,s7 d.hs bg v r=k:=⟨_,rfl⟩;have dU:k<=bb.length:=by rw[<-hk,mg];unfold s7;omega
   have wi:=Wh wr 0 v bb av[r] bf (by omega) (fun y b9=>by
    obtain⟨i,aq,rfl⟩:=fQ.1 b9;rw[zb i aq];have af:i<(h8 d.hs r (bg.gone r)).length:=by omega
    have aC:=tf d.hs r (bg.gone r);show(h8 d.hs r (bg.gone r))[i].rep.toNat<5
    rw[Ce af,(Ao h.ok.df r _ (by omega)).2,kL];exact aJ) k dU (fun i aq c=>by rw[zb i aq,Ma h.ok.df bg v i (by omega),hk];simpa using c) (fun i aq c=>by rw[zb i aq,Ma h.ok.df bg v i (by omega),hk];simpa using c)
   have mE:=cm.o r hF;have DO:=(fV.below bO.o.cZ);have z0:=DO.c0;have h0:=DO.c1;have z2:=DO.c2;have z3:=DO.c3;have z4:=DO.c4;have n0:=DO.lt;have GG:(bb.drop k).map Prod.fst=(qo d.hs bg v r).map cL:=by rw[<-Ot,hk,map_drop,dz,map_drop]
   have EE:iE.length<=5500000:=by
    have a:=congrArg length aP;have:=KK d.hs bg v r;simp only[mO]at a;have:r*d.hs.length<=5*d.hs.length:=Hy _ (by omega);omega
   have kb:(iE++bb.drop k).map Prod.fst=((List.range (r+1)).flatMap (qo d.hs bg v)).map cL:=by
    rw[tJ,aP,GG,range_succ,r3,tJ,kf,Bl,qu]
   have ik:∀z,z∈iE++bb.drop k->nT w z:=fun z cF=>by
    rw[hT]at cF;rcases cF with cF|cF
    ·exact ey z cF
    ·exact(fG z (Db cF)).2
   have pn:=J wi;have aL:=J (⟨kb,ik,dU,EE,ba,bf⟩:_∧_∧_∧_∧_∧_);have atg:bb.length<=1100000:=by omega
   generalize av[r]=atA at*;clear h fV ao mg zb wi GG kb ik dz ei fG aP ey DO hk;rcases bf.2 with⟨rfl,Rx⟩|⟨g,cap,cur,rfl,-,aM,j_,-⟩
   ·have vi:k=0:=by omega
    subst vi;go_wp2_with(first|(go_at_call 121;refine pn.o.mono ?_;rintro e an ⟨rfl,aF⟩;have dF:=J aF;clear aF)|(at_builtin;refine wpList_append_own_none rfl _ _ 106 rfl W0.heap.size 139 i0 8 underlying106 cw.o.1 _ iE.length _ rfl (jZ aL.o.2.2.2.2.1 dF.o) (by simp[Act.eval]) ?_))
    obtain⟨kb,ik,-,-,-,-⟩:=aL.o;have xY:bb=[]:=Hv.1 Rx;rw[xY,drop_nil,qu]at kb ik;exact⟨⟨r+1,by omega,by simp,⟨bO.o.cZ.trans (dF.o.mono bO.o.cZ.size),iE,kb,jZ aL.o.2.2.2.2.1 dF.o,ik⟩⟩,by simp only[intOf];omega⟩
   ·have fh:∀(an:World) (aF:ax wr an) j u,((bb.drop k).flatMap ia)[j]?=some u->an.cell? (((aa g (k*8)):Addr).add j)=some u:=fun an aF j u hu=>by
     have e:=Qt ia 8 (fun _=>rfl) bb k;rw[e,getElem?_drop]at hu;have br:k*8+j<bb.length*8:=by
      have:=(w8.1 hu).1;rw[Ap ia 8 (fun _=>rfl)]at this;exact this
     have a:=Fe bf (k*8+j) br;rw[hu]at a;have ba:((aa g (k*8)):Addr).add j=(aa g (k*8+j)):=by rw[Bj]
     rw[ba];exact bZ aF a
    have IX:∀u∈(bb.drop k).flatMap ia,u.oneCell'=true:=fun u hu=>by
     obtain⟨y,-,b9⟩:=uD.1 hu;simp only[ia,h3,not_mem_nil,or_false]at b9;rcases b9 with rfl|rfl|rfl|rfl|rfl|rfl|rfl|rfl<;>rfl
    have ij:((bb.drop k).flatMap ia).length=(bb.length-k)*8:=by rw[Ap ia 8 (fun _=>rfl),length_drop]
    have qB:=J (⟨fh,IX,ij⟩:_∧_∧_);clear fh IX ij bf ba;by_cases oT:cap=k
    ·have Lo:Hid (bb.length=cap):=(by omega:bb.length=cap)
     subst oT;go_wp2_with(first|(go_at_call 121;refine pn.o.mono ?_;rintro e an ⟨rfl,aF⟩;have dF:=J aF;clear aF)|(at_builtin;refine yw _ rfl _ _ 106 rfl W0.heap.size 139 i0 (.agg #[I 0,I 0,I 0,I 0,I 0,I 0,I 0,.map none]) 8 64 underlying106 cw.o.1 cw.o.2.1 cw.o.2.2.1 cw.o.2.2.2 rfl (by decide) _ iE.length _ rfl (jZ aL.o.2.2.2.2.1 dF.o) (aa g 0) 0 0 [] (by simp[Act.eval]) rfl (by intro j u af;simp at af) (by simp) (by unfold maxLen;omega) (by omega) (by have:=bO.o.cZ.size;have:=dF.o.size;omega) ?_;intro v5 w5 cB b_ dW;have rj:=J (⟨cB,b_⟩:_∧_);clear cB b_ dW))
     obtain⟨kb,ik,-,-,ba,-⟩:=aL.o;obtain⟨cB,b_⟩:=rj.o;have wg:=bO.o.cZ.trans (dF.o.mono bO.o.cZ.size);refine⟨⟨r+1,by omega,by simp,⟨wg.grown b_ wg.size fun q ad=>(ba.lt q ad).1,iE++bb.drop cap,kb,?_,ik⟩⟩,by simp only[intOf];omega⟩;have y2:=Lo.o;have AE:bb.drop cap=[]:=drop_eq_nil_of_le (by omega);rw[AE,qu];rw[qu,j3]at cB;exact cB
    ·go_wp2_with(first|(go_at_call 121;refine pn.o.mono ?_;rintro e an ⟨rfl,aF⟩;have dF:=J aF;clear aF)|(at_builtin;refine yw _ rfl _ _ 106 rfl W0.heap.size 139 i0 (.agg #[I 0,I 0,I 0,I 0,I 0,I 0,I 0,.map none]) 8 64 underlying106 cw.o.1 cw.o.2.1 cw.o.2.2.1 cw.o.2.2.2 rfl (by decide) _ iE.length _ rfl (jZ aL.o.2.2.2.2.1 dF.o) (aa g (k*8)) (bb.length-k) (cap-k) ((bb.drop k).flatMap ia) (by simp[Act.eval]) qB.o.2.2 (qB.o.1 _ dF.o) qB.o.2.1 (by unfold maxLen;omega) (by omega) (by have:=bO.o.cZ.size;have:=dF.o.size;omega) ?_;intro v5 w5 cB b_ dW;have rj:=J (⟨cB,b_⟩:_∧_);clear cB b_ dW))
     obtain⟨kb,ik,-,-,ba,-⟩:=aL.o;obtain⟨cB,b_⟩:=rj.o;have wg:=bO.o.cZ.trans (dF.o.mono bO.o.cZ.size);refine⟨⟨r+1,by omega,by simp,⟨wg.grown b_ wg.size fun q ad=>(ba.lt q ad).1,iE++bb.drop k,kb,?_,ik⟩⟩,by simp only[intOf];omega⟩;rw[eN,length_drop,r3];exact cB
  ·have uv:r=5:=by omega
   subst uv;go_wp2_with fail
   go_ret;obtain⟨h,bI,bp,fV⟩:=aO.o;exact⟨_,iE,rfl,e3 ba bp.size,aP,ey,bp.trans (bO.o.cZ.mono bp.size)⟩
def Ur (bg:dD)(w:World)(p:Nat->Own)(b n i:Nat)(d:aZ)(v:aW)(e:Ending)(w':World):Prop:=
 e= .returned (.tuple #[ai ⟨(lS n i (bJ d.ag) ((fM d.hs bg v).map cL)).toArray⟩,I 0])∧gP bg w' p b n i d∧bA (fun t=>t=Own.rep) w p w' p
theorem afy (h:gP bg w p b n i d)(bI:d.hs.length<=1100000)(t:ByteArray)(j:Nat)(v:aW)(af:j<5)(al:fI w)(ep:∀q,q<6->p q= .other)
  (y0:∀u,u∈d.hs->(cL u).Fit)
  (xX:Calls prog 74 #[.func (.func 75) #[] #[],ai t,I n] w fun e w'=>ax w w'∧e= .returned (.tuple #[lJ j v,I 0])):
  Calls prog 40 #[bl b,ai t] w (Ur (oK bg j v) w p b n i d v):=by
 obtain⟨aE,st,b8,tbs,cX,av,aY,h⟩:=h;obtain⟨-,c1,-⟩:=h.cellOf;have lj:=h.U.U.lt;have r5:=J xX;have aO:=J (⟨h,bI,y0,al,ep⟩:_∧_∧_∧_∧_);clear h xX bI y0 al ep;go_enter func40,ntmps40;go_upto_region 2 with(go_at_call 74;refine r5.o.mono ?_;rintro e w2 ⟨bP,rfl⟩;have bu:=J bP;clear bP);generalize f_:w2.alloc (.cells #[I j,I v.a,I v.b,I v.c,I v.d,I v.e] 144)=dH;have b0:ax w2 dH:=by rw[<-f_];exact cj _ _
 have lT:aQ dH w2.heap.size [I j,I v.a,I v.b,I v.c,I v.d,I v.e] 144:=by rw[<-f_];exact cC w2 _
 have oy:ax w dH:=bu.o.trans (b0.mono bu.o.size);have B8:fH bg dH (je p w.heap.size others) b n i d aE st b8 tbs cX av aY:=aO.o.1.move fun q ad _=>⟨oy.block q ad,jz ad⟩
 have ij:=aao B8 af v;have xi:=J ij;have a0:=lT.c0;have cO:=lT.c1;have a2:=lT.c2;have a3:=lT.c3;have a4:=lT.c4;have a5:=lT.c5;have ln:=lT.lt;have ck:=J (⟨lT,oy,b0⟩:_∧_∧_);clear ij b0 lT oy B8 f_ c1 lj r5;go_upto_region 5 with(go_at_call 76;refine xi.o.mono ?_;rintro e cc ⟨rfl,pz,jK⟩;refine gE ?_);refine Lib.hid ?_;obtain⟨lT,oy,b0⟩:=ck.o;have sw:w.heap.size<=w2.heap.size:=bu.o.size;have vS:=lT.move (jK.ay.block _ lT.lt (by rw[sE sw];simp[others]));obtain⟨aoJ,Hd,aoZ,apx,amp,No,alM,Av⟩:=pz;obtain⟨-,c1,-⟩:=Av.cellOf;have lj:=Av.U.U.lt;have z0:=vS.c1;have h0:=vS.c2;have z2:=vS.c3;have z3:=vS.c4;have z4:=vS.c5;have JC:=vS.lt;obtain⟨-,bI,y0,al,ep⟩:=aO.o;have iR:=al.room;have sy:fI cc:=by
  refine(al.later oy).kept fun q ad=>jK.ay.block q (hV (by omega) oy.size) ?_
  rw[jz (by omega),ep q ad];simp
 have b2:=Av.ok.df.n5;have YN:=Av.ok.aq;have JZ:=fun k=>Av.Ua bI k
 have UM:Hid (Calls prog 72 #[bl b] cc.drew (bx (lJ i (bJ d.ag)) fun w'=>(w'.cell? (aa b 1)=some (I n)∧b<w'.heap.size∧w'.cell? (aa (w2.heap.size) 1)=some (I v.a)∧w'.cell? (aa (w2.heap.size) 2)=some (I v.b)∧w'.cell? (aa (w2.heap.size) 3)=some (I v.c)∧w'.cell? (aa (w2.heap.size) 4)=some (I v.d)∧w'.cell? (aa (w2.heap.size) 5)=some (I v.e)∧w2.heap.size<w'.heap.size)∧Hid (ax cc w'))):=
  (Yl (Av.below (cE).drew)).mono (by
   rintro e w' ⟨rfl,ao⟩;have ig:ax cc w':=(cE).drew.trans ao;have hz:=vS.below ig;exact⟨rfl,⟨bZ ig c1,hV lj ig.size,hz.cell 1,hz.cell 2,hz.cell 3,hz.cell 4,hz.cell 5,hz.lt⟩,ig⟩)
 have O6:Hid (∀eS,ax cc eS->Calls prog 78 #[.pointer (some (aa b 3)),v.val] eS fun e w'=>∃cA m jV,e= .returned (.slice cA m jV)∧(w'.cell? (aa b 1)=some (I n)∧b<w'.heap.size)∧Hid (ax cc w')∧Hid (Calls prog 77 #[I n,.agg #[I i,I (bJ d.ag).a,I (bJ d.ag).b,I (bJ d.ag).c,I (bJ d.ag).d,I (bJ d.ag).e,.slice cA m jV]] w' fun e fv=>e= .returned (ai ⟨(lS n i (bJ d.ag) ((fM d.hs bg v).map cL)).toArray⟩)∧Hid (ax w' fv))):=fun eS dT=>by
  refine(af7 (Av.below dT) bI v).mono ?_;rintro e qs ⟨bz,iE,rfl,dM,dK,wK,gb⟩;obtain⟨cA,jV,rfl,-⟩:=Row.shape (e3 dM ch);have ig:ax cc qs:=dT.trans (gb.mono dT.size);have EE:iE.length<=50000000:=by
   have a:=congrArg length dK;have c:=KK d.hs (oK bg j v) v 5;simp only[mO]at a;have gS:(fM d.hs (oK bg j v) v).length<=5*d.hs.length:=c;omega
  have ZH:=aqz qs n i eS.heap.size (bJ d.ag) iE (.slice cA iE.length jV) b2 (by omega) (fun k hk=>by
   obtain⟨r,-,rfl⟩:=C7 hk;have:=JZ r;omega) dM EE (fun x au=>by
   have oa:x.1∈(fM d.hs (oK bg j v) v).map cL:=by rw[<-dK];exact gF.2 ⟨x,au,rfl⟩
   obtain⟨u,hu,e⟩:=gF.1 oa;obtain⟨r,-,Nl⟩:=uD.1 hu;have JX:u∈d.hs:=(ra.1 (Db Nl)).1;exact⟨by rw[<-e];exact y0 u JX,(wK x au).later gb⟩) (sy.later ig)
  rw[dK]at ZH;exact⟨cA,iE.length,jV,rfl,⟨bZ ig c1,hV lj ig.size⟩,ig,ZH⟩
 generalize XT:(lS n i (bJ d.ag) ((fM d.hs bg v).map cL))=bL at O6;obtain⟨bD,wI⟩:∃bD,bJ d.ag=bD:=⟨_,rfl⟩;rw[wI]at UM O6;have aex:Hid (∀w',ax cc w'->Ur (oK bg j v) w p b n i d v (.returned (.tuple #[ai ⟨bL.toArray⟩,I 0])) w'):=fun w' ao=>by
  have b6:fM d.hs (oK bg j v) v=fM d.hs bg v:=rfl;refine⟨by rw[b6,XT],gP.move (p:=je p w.heap.size others) ⟨aoJ,Hd,aoZ,apx,amp,No,alM,Av⟩ fun q ad bS=>⟨ao.block q ad,?_⟩,⟨?_,fun _ _=>rfl⟩⟩
  ·by_cases c:q<w.heap.size
   ·rw[jz c]
   ·rw[sE (by omega)]at bS;exact absurd rfl bS
  ·refine((Touch.dh oy).trans (jK.ay.mono fun q ad e=>?_)).trans (Touch.dh ao)
   by_cases c:q<w.heap.size
   ·left;rw[jz c]at e;exact e
   ·exact Or.inr (by omega)
 clear Av jK lT vS oy b0 sy JZ bI y0 al ep XT wI;go_upto_region 5 with(fail);go_region_with(first|(go_at_call 72;refine UM.o.mono ?_;rintro e eS ⟨rfl,⟨cI,dq,eW,fo,iT,o_,rP,J8⟩,dT⟩)|(go_at_call 78;refine(O6.o _ dT.o).mono ?_;rintro e qs ⟨cA,m,jV,rfl,⟨q1,dy⟩,gb,XU⟩)|(go_at_call 77;refine XU.o.mono ?_;rintro e kI ⟨rfl,jb⟩))
 all_goals
  have adZ:=J (gb.o.trans (jb.o.mono gb.o.size));clear dT gb jb XU cI dq eW fo iT o_ rP J8 q1 dy z0 h0 z2 z3 z4 c1;go_wp2_with fail
  go_ret2
  exact aex.o _ adZ.o
def LP (m:Nat)(p:Place)(x:cG):Prop:=
 (kindOf p.key=99∧p.el=⟨#[]⟩∧x.kind=0∧x.value=⟨#[]⟩∧-(1000000*(m:Int))<=x.cH∧x.cH<=1000000*(m:Int))∨
 (kindOf p.key=114∧p.el=⟨#[]⟩∧x.kind=1∧x.cH=0∧x.value.size<=8)∨
 (kindOf p.key=115∧(x.kind=2∨x.kind=3)∧x.cH=0∧x.value=⟨#[]⟩∧p.el.size<=8)
theorem LP.up {m:Nat}{p:Place}{x:cG}(h:LP m p x)(hm:m<=k):LP k p x:=by
 rcases h with⟨a,b,c,d,e,f⟩|h|h
 ·exact Or.inl ⟨a,b,c,d,by omega,by omega⟩
 ·exact Or.inr (Or.inl h)
 ·exact Or.inr (Or.inr h)
theorem anc:∀(ops:List db),ops.length<=16->(∀o,o∈ops->mx o∧(¬o.kind=1->o.value.size<=8)∧(o.kind=1-> -1000000<=o.cH∧o.cH<=1000000))->∀p x,gz ops p=some x->LP ops.length p x:=by
 intro ops;induction ops using ya with
 |aS=>intro _ _ p x au;cases au
 |h1 ops o ih=>
  intro aC h p x au;have hlen:(ops++[o]).length=ops.length+1:=by simp
  have CK:=ih (by omega) fun o cu=>h o (by simp[cu])
  obtain⟨cu,av,aU⟩:=h o (by simp);rw[hlen];rw[CU]at au;unfold A5 at au;split at au
  ·rename_i c
   subst c;cases au;have hk:=cu.key;rcases cu.kind with k|k|k|k
   ·left
    have aP:ht o=⟨o.key,cK⟩:=by unfold ht;rw[if_pos (Or.inl k)]
    have ba:iL o=⟨0,o.cH,cK⟩:=by unfold iL;rw[if_pos k]
    rw[aP,ba];have ar4:=aU k;refine⟨by show kindOf o.key=99;rw[hk,k];rfl,rfl,by simp[nb],by simp[nb],?_⟩;unfold nb;rw[if_pos rfl];show-(1000000*((ops.length+1:Nat):Int))<=wrap64 (o.cH+(k3 (gz ops) ⟨o.key,cK⟩).cH)∧wrap64 (o.cH+(k3 (gz ops) ⟨o.key,cK⟩).cH)<=_
    have hb: -(1000000*(ops.length:Int))<=(k3 (gz ops) ⟨o.key,cK⟩).cH∧(k3 (gz ops) ⟨o.key,cK⟩).cH<=1000000*(ops.length:Int):=by
     unfold k3;cases e:gz ops ⟨o.key,cK⟩with
     |none=>show-(1000000*(ops.length:Int))<=0∧(0:Int)<=_;omega
     |some y=>
      show-(1000000*(ops.length:Int))<=y.cH∧y.cH<=_
      rcases CK _ _ e with⟨_,_,_,_,a,b⟩|⟨_,_,_,a,_⟩|⟨_,_,a,_⟩<;>omega
    have hw:wrap64 (o.cH+(k3 (gz ops) ⟨o.key,cK⟩).cH)=o.cH+(k3 (gz ops) ⟨o.key,cK⟩).cH:=by unfold wrap64;omega
    rw[hw];omega
   ·right;left
    have aP:ht o=⟨o.key,cK⟩:=by unfold ht;rw[if_pos (Or.inr k)]
    have ba:iL o=⟨1,0,o.value⟩:=by unfold iL;rw[if_neg (by omega),if_pos k]
    rw[aP,ba];exact⟨by show kindOf o.key=114;rw[hk,k];rfl,rfl,by simp[nb],by simp[nb],by simpa[nb]using av (by omega)⟩
   ·right;right
    have aP:ht o=⟨o.key,o.value⟩:=by unfold ht;rw[if_neg (by omega)]
    have ba:iL o=⟨2,0,cK⟩:=by unfold iL;rw[if_neg (by omega),if_neg (by omega),if_pos k]
    rw[aP,ba];exact⟨by show kindOf o.key=115;rw[hk,k];rfl,by simp[nb],by simp[nb],by simp[nb],av (by omega)⟩
   ·right;right
    have aP:ht o=⟨o.key,o.value⟩:=by unfold ht;rw[if_neg (by omega)]
    have ba:iL o=⟨3,0,cK⟩:=by unfold iL;rw[if_neg (by omega),if_neg (by omega),if_neg (by omega)]
    rw[aP,ba];exact⟨by show kindOf o.key=115;rw[hk,k];rfl,by simp[nb],by simp[nb],by simp[nb],av (by omega)⟩
  ·exact(CK p x au).up (by omega)
theorem DH.rd (h:DH ops):∀p x,gz ops p=some x->xw p x:=fun p x au=>by
 have aC:=h.ea;rcases anc ops h.ea h.ops p x au with⟨a,b,c,d,e,f⟩|h|h
 ·exact Or.inl ⟨a,b,c,d,by omega,by omega⟩
 ·exact Or.inr (Or.inl h)
 ·exact Or.inr (Or.inr h)
theorem acz:∀(ks:List Place),ks.Nodup->∃GP:List Place,GP.Perm ks∧GP.Pairwise j0
 |[],_=>⟨[],List.Perm.refl _,by simp⟩
 |a::ks,h=>by
  rw[yt]at h;obtain⟨l,aC,aw⟩:=acz ks h.2;have Jt:∀(l:List Place),l.Pairwise j0->a∉l->∃ca:List Place,ca.Perm (a::l)∧ca.Pairwise j0:=by
   intro l;induction l with
   |nil=>intro _ _;exact⟨[a],List.Perm.refl _,by simp⟩
   |cons b l ih=>
    intro aw hn;rw[xa]at aw;rw[h3]at hn;rcases Ta a b with e|e|e
    ·exact absurd (Or.inl e) hn
    ·exact⟨a::b::l,List.Perm.refl _,by
      rw[xa,xa];refine⟨fun c aA=>?_,aw⟩;rcases h3.1 aA with rfl|aA
      ·exact e
      ·exact N3 e (aw.1 c aA)⟩
    ·obtain⟨ca,h1,ae⟩:=ih aw.2 (fun c=>hn (Or.inr c))
     refine⟨b::ca,(List.Perm.cons b h1).trans (List.Perm.swap a b l),?_⟩;rw[xa];refine⟨fun c aA=>?_,ae⟩;rcases h3.1 (h1.mem_iff.1 aA)with rfl|aA
     ·exact e
     ·exact aw.1 c aA
  obtain⟨ca,h1,ae⟩:=Jt l aw (fun c=>h.1 (aC.mem_iff.1 c));exact⟨ca,h1.trans (List.Perm.cons a aC),ae⟩
theorem am_:∀(ops:List db),∃ks,KeysOf (gz ops) ks∧ks.length<=ops.length∧(1<=ops.length->1<=ks.length):=by
 intro ops;induction ops using ya with
 |aS=>exact⟨[],⟨by simp,fun p=>by simp[gz]⟩,by simp,by simp⟩
 |h1 ops o ih=>
  obtain⟨ks,⟨h1,ae⟩,aH,-⟩:=ih;have hs:∀p,(gz (ops++[o]) p).isSome↔p=ht o∨(gz ops p).isSome:=fun p=>by
   rw[CU];unfold A5;by_cases c:p=ht o
   ·simp[c]
   ·simp[c]
  by_cases c:ht o∈ks
  ·refine⟨ks,⟨h1,fun p=>?_⟩,by simp;omega,fun _=>length_pos_of_mem c⟩
   rw[hs,ae p];constructor
   ·exact Or.inr
   ·rintro (rfl|h)
    ·exact(ae _).1 c
    ·exact h
  ·refine⟨ht o::ks,⟨yt.2 ⟨c,h1⟩,fun p=>?_⟩,by simp;omega,by simp⟩
   rw[hs,h3,ae p]
theorem abl (h:DH ops)(h1:1<=ops.length):KeysOf (gz ops) (na (gz ops))∧(na (gz ops)).Pairwise j0∧1<=(na (gz ops)).length∧(na (gz ops)).length<=16:=by
 obtain⟨ks,hk,aC,aw⟩:=am_ ops;obtain⟨GP,ae,aH⟩:=acz ks hk.1;have gi:KeysOf (gz ops) GP:=⟨ae.nodup_iff.2 hk.1,fun p=>by rw[ae.mem_iff];exact hk.2 p⟩;rw[aae gi aH];have:=ae.length_eq;have:=h.ea;exact⟨gi,aH,by have:=aw h1;omega,by omega⟩
theorem wU (cS:n<=5)(h:oO n hs u)(k:Nat):(cL u).saw.get k=u.saw.getD k 0:=by
 show(bJ u.saw).get k=_
 rw[pS (by rw[h.saw.len];exact cS),kL]
theorem OC (h:dB n hs)(fa:hs.length<=1100000)(hu:u∈hs):(cL u).Fit:=by
 obtain⟨j,af,rfl⟩:=fQ.1 hu;have hk:=h.tx j af;have cS:=h.n5;refine⟨by have:=hk.vw;show hs[j].rep.toNat<5;omega,fun k gi=>?_,fun p x au=>(hk.ops.rd p x au).fit⟩;obtain⟨r,-,rfl⟩:=C7 gi;rw[wU cS hk r];have h1:=hk.saw.pos r;have ae:=hk.saw.le r;have aH:=qL (hs.take j) r;rw[ng]at aH;omega
theorem apN (h:dB n hs)(fa:hs.length<=1100000)(af:j<hs.length):LR n (bJ (cb n hs)) (cL hs[j]):=by
 have hk:=h.tx j af;have cS:=h.n5;have su:=hk.vw;obtain⟨cI,dq,eW,fo⟩:=abl hk.ops hk.one;have hp:∀k:Nat,(bJ (cb n hs)).get k=if k<n then(e1 hs k:Int)else 0:=fun k=>by
  rw[pS (by rw[kH];exact cS),kL];by_cases c:k<n
  ·rw[k2 c,if_pos c]
  ·rw[uB (by omega),if_neg c]
 have wF:(cL hs[j]).seq=(e1 (hs.take j) hs[j].rep.toNat:Int)+1:=hk.seq;refine⟨su,by rw[wF];omega,fun k kT=>?_,fun k iA=>?_,cI,dq,eW,fo,hk.ops.rd⟩
 ·rw[wU cS hk k]
  have h1:=hk.saw.pos k;have ae:=hk.saw.le k;have aH:=IA hs (T:=j) k;have bd:=qL hs k;refine⟨h1,?_,by unfold lM;omega⟩;rw[show((cL hs[j]).rep:Int)=((hs[j].rep.toNat:Nat):Int)from rfl,KW _ (by omega)];split
  ·rename_i c;rw[wF,<-c];omega
  ·rw[hp]
   split
   ·omega
   ·rename_i c;rw[yT (by rw[hk.saw.len];omega)];omega
 ·rw[wU cS hk k,yT (by rw[hk.saw.len];omega)]
theorem DW (h:u∈iO hs r):u∈hs∧u.rep=(r:Int):=by
 obtain⟨a,b⟩:=ra.1 h;exact⟨a,sM b⟩
theorem IM (hs:List aT)(r:Nat):(iO hs r).length=e1 hs r:=rfl
theorem ahM (h:dB n hs)(aJ:n<=r):iO hs r=[]:=by
 cases e:iO hs r with
 |nil=>rfl
 |cons u l=>
  have hu:u∈iO hs r:=by rw[e];simp
  obtain⟨h1,ae⟩:=DW hu;obtain⟨j,af,rfl⟩:=fQ.1 h1;have:=(h.tx j af).hQ;omega
def Ab (hs:List aT)(x:dD)(v:aW)(r j:Nat):dt:=cL ((qo hs x v r).getD j ⟨0,0,[],[]⟩)
def xy (hs:List aT)(x:dD)(v:aW)(r:Nat):Nat:=(qo hs x v r).length
theorem aft (hs:List aT)(x:dD)(v:aW)(r:Nat):h_ (Ab hs x v) (xy hs x v) r=(qo hs x v r).map cL:=by
 apply ext_getElem?;intro j;unfold h_ Ab xy;by_cases c:j<(qo hs x v r).length
 ·simp[c]
 ·simp[c]
theorem LU (hs:List aT)(x:dD)(v:aW):fT (Ab hs x v) (xy hs x v) 5=(fM hs x v).map cL:=by
 unfold fT fM;rw[map_flatMap];congr 1;funext r;exact aft hs x v r
theorem aoN (h:dB n hs)(x:dD)(v:aW)(af:j<xy hs x v r):∃m,∃hm:m<hs.length,Ab hs x v r j=cL hs[m]∧hs[m].rep=(r:Int)∧hs[m].seq=(e1 hs r:Int)-xy hs x v r+1+j:=by
 have aC:=tf hs r (max (x.gone r) (v.get r).toNat);have aA:xy hs x v r=(iO hs r).length-max (x.gone r) (v.get r).toNat:=aC;have YQ:j<(qo hs x v r).length:=af;have aP:(qo hs x v r)[j]=(iO hs r)[max (x.gone r) (v.get r).toNat+j]'(by omega):=Ce YQ;obtain⟨s1,s2⟩:=Ao h r (max (x.gone r) (v.get r).toNat+j) (by omega);have hu:=(DW (eT (show max (x.gone r) (v.get r).toNat+j<(iO hs r).length by omega))).1;obtain⟨m,hm,em⟩:=fQ.1 hu;refine⟨m,hm,?_,by rw[em];exact s2,?_⟩
 ·unfold Ab
  rw[em,<-aP,tL,hg YQ];rfl
 ·rw[em,s1,<-IM];omega
theorem SY (k:Nat):mi.get k=0:=by
 by_cases h:k<5
 ·have:k=0∨k=1∨k=2∨k=3∨k=4:=by omega
  rcases this with rfl|rfl|rfl|rfl|rfl<;>rfl
 ·unfold aW.get aW.list
  rw[kL,tL,yr (by simp;omega)];rfl
theorem aak (r:Nat)(hk:k<5)(Cq:k≠r){B:Int}(ao:0<=B):∀l:List dt,(∀p,p∈l->p.rep<5∧(p.rep=r->p.saw.get k<=B))->(oe nC l r).get k<=B:=by
 intro l;induction l using ya with
 |aS=>intro _;show mi.get k<=B;rw[SY];exact ao
 |h1 l t ih=>
  intro h;have CK:=ih fun p aw=>h p (by simp[aw])
  rw[Nz];unfold qg;split
  ·rename_i c
   obtain⟨h1,ae⟩:=h t (by simp);rw[Kj h1 hk,if_neg (by omega)];have:=ae c.symm;rw[<-c];omega
  ·exact CK
theorem aaZ:∀{l:List (bF×aW)} {d:bF} {v:aW},pc l d=some v->(d,v)∈l
 |[],_,_,h=>by cases h
 |x::l,d,v,h=>by
  have e5:(pc l d).or (if d=x.1 then some x.2 else none)=some v:=h;cases e:pc l d with
  |some y=>
   rw[e]at e5;cases e5;exact Da _ (aaZ e)
  |none=>
   rw[e,Option.none_or]at e5;split at e5
   ·rename_i c
    cases e5;rw[c];simp
   ·cases e5
theorem qI {x:dD}(h:u∈fM hs x v):u∈hs:=by
 obtain⟨r,-,ae⟩:=uD.1 h;exact(DW (Db ae)).1
theorem L2 (h:dB n hs)(x:dD)(v:aW):ov ((fM hs x v).map cL):=by
 have cS:=h.n5;constructor
 ·intro t al
  obtain⟨u,hu,rfl⟩:=gF.1 al;obtain⟨j,af,rfl⟩:=fQ.1 (qI hu);have hk:=h.tx j af;have:=hk.vw;refine⟨by show hs[j].rep.toNat<5;omega,by show 1<=hs[j].seq;rw[hk.seq];omega,?_⟩;rw[wU cS hk];show hs[j].saw.getD hs[j].rep.toNat 0<=hs[j].seq-1
  have:=hk.saw.le hs[j].rep.toNat;rw[hk.seq];omega
 ·rw[zL]
  have:(fM hs x v).Pairwise fun a b=>a.rep=b.rep->a.seq<b.seq:=by
   unfold fM;rw[pairwise_flatMap];refine⟨fun r _=>?_,?_⟩
   ·rw[vD]
    intro i j aq af l6 _;have aC:=tf hs r (max (x.gone r) (v.get r).toNat);have qS:i<(h8 hs r (max (x.gone r) (v.get r).toNat)).length:=aq;have mF:j<(h8 hs r (max (x.gone r) (v.get r).toNat)).length:=af;have aP:(qo hs x v r)[i]=(iO hs r)[max (x.gone r) (v.get r).toNat+i]'(by omega):=Ce aq;have ba:(qo hs x v r)[j]=(iO hs r)[max (x.gone r) (v.get r).toNat+j]'(by omega):=Ce af;have f1:=(Ao h r _ (show max (x.gone r) (v.get r).toNat+i<(iO hs r).length by omega)).1;have f2:=(Ao h r _ (show max (x.gone r) (v.get r).toNat+j<(iO hs r).length by omega)).1;have g1:=(congrArg aT.seq aP).trans f1;have g2:=(congrArg aT.seq ba).trans f2;exact Int.lt_of_le_of_lt (Int.le_of_eq g1) (Int.lt_of_lt_of_le (by omega) (Int.le_of_eq g2.symm))
   ·refine List.Pairwise.imp_of_mem ?_ (pairwise_lt_range (n:=5))
    intro a b _ _ jy p aw q ad e;have aP:=(DW (Db aw)).2;have ba:=(DW (Db ad)).2;rw[aP,ba]at e;omega
  refine List.Pairwise.imp_of_mem ?_ this;intro a b aU hb jy e;obtain⟨i,aq,rfl⟩:=fQ.1 (qI aU);obtain⟨j,af,rfl⟩:=fQ.1 (qI hb);have h1:=(h.tx i aq).eE;have ae:=(h.tx j af).eE;have dI:hs[i].rep.toNat=hs[j].rep.toNat:=e;exact jy (by omega)
theorem amH {l:List dt}{d:bF}(h:(d,v)∈p5 l):∃m,∃hm:m<l.length,l[m].dot=d∧v=q0 l m hm:=by
 obtain⟨m,hm⟩:=mem_iff_getElem?.1 h;unfold p5 at hm;rw[getElem?_zip_eq_some]at hm;obtain⟨h1,ae⟩:=hm;rw[zK]at h1;cases e:l[m]? with
 |none=>rw[e]at h1;cases h1
 |some t=>
  obtain⟨br,dI⟩:=w8.1 e;rw[e]at h1;have aH:=Kk l nC m br;refine⟨m,br,?_,?_⟩
  ·rw[dI];exact kt h1
  ·exact kt (ae.symm.trans aH)
theorem VR (h:dB n hs)(x:dD)(v:aW):FL ((fM hs x v).map cL):=by
 have cS:=h.n5;have rD:=L2 h x v;intro t al r aJ;obtain⟨u,hu,rfl⟩:=gF.1 al;obtain⟨a,aU,rfl⟩:=fQ.1 (qI hu);have hk:=h.tx a aU;rw[J5];intro k kT;cases e:pc (p5 ((fM hs x v).map cL)) ⟨r,(cL hs[a]).saw.get r⟩with
 |none=>show mi.get k<=_;rw[SY,wU cS hk];exact hk.saw.pos k
 |some dZ=>
  show dZ.get k<=_
  obtain⟨m,hm,iN,rfl⟩:=amH (aaZ e);have fl:(((fM hs x v).map cL)[m].rep:Int)=(r:Int):=congrArg bF.rep iN;have Qo:((fM hs x v).map cL)[m].rep=r:=by omega
  have es:((fM hs x v).map cL)[m].seq=(cL hs[a]).saw.get r:=congrArg bF.seq iN;by_cases c:k=r
  ·subst c
   have:=rD.Kp hm;rw[Qo]at this;rw[this,es];omega
  ·rw[Ki,Qo]
   refine aak r kT c (by rw[wU cS hk];exact hk.saw.pos k) _ fun p aw=>?_
   obtain⟨i,aq,rfl⟩:=fQ.1 aw;have asF:i<m+1:=by rw[ng]at aq;omega
   have th:i<((fM hs x v).map cL).length:=by rw[ng]at aq;omega
   rw[getElem_take];have hj:=eT th;obtain⟨w,hw,px⟩:=gF.1 hj;obtain⟨b,hb,rfl⟩:=fQ.1 (qI hw);have nx:=h.tx b hb;refine⟨(rD.ok _ hj).1,fun aP=>?_⟩;have o5:((fM hs x v).map cL)[i].seq<=((fM hs x v).map cL)[m].seq:=by
    by_cases c2:i=m
    ·subst c2;exact re _
    ·exact Int.le_of_lt (rD.lt (by omega) hm (by rw[aP,Qo]))
   rw[es,<-px]at o5;rw[<-px]at aP⊢;rw[wU cS hk]at o5;rw[wU cS nx,wU cS hk];have ahe:hs[b].rep.toNat=r:=aP;have wE:fc hs[a].saw hs[b].rep hs[b].seq=true:=Hb.2 (by rw[ahe];exact o5);have ai1:=h.back aU hb wE;exact hk.saw.L5 hs[b] (fQ.2 ⟨b,by simp;omega,by simp⟩) wE k
theorem af6 (h:dB n hs)(fa:hs.length<=1100000)(x:dD)(v:aW):∀dZ,dZ∈oh ((fM hs x v).map cL)->dZ.small:=by
 have cS:=h.n5;have rD:=L2 h x v;intro dZ ho;obtain⟨m,hm⟩:=mem_iff_getElem?.1 ho;have kU:m<((fM hs x v).map cL).length:=by
  have:=(w8.1 hm).1;have e:(oh ((fM hs x v).map cL)).length=((fM hs x v).map cL).length:=CO _ _;omega
 have Ep:dZ=q0 _ m kU:=kt (hm.symm.trans (Kk _ nC m kU));have hb:∀u,u∈fM hs x v->u.seq<=1100000∧∀k:Nat,(cL u).saw.get k<=1100000:=fun u hu=>by
  obtain⟨j,af,rfl⟩:=fQ.1 (qI hu);have hk:=h.tx j af;refine⟨?_,fun k=>?_⟩
  ·have:=qL (hs.take j) hs[j].rep.toNat
   rw[ng]at this;rw[hk.seq];omega
  ·rw[wU cS hk]
   have ae:=hk.saw.le k;have aH:=qL (hs.take j) k;rw[ng]at aH;omega
 intro k hk;rw[Ep];refine⟨?_,?_⟩
 ·rw[Ki]
  have:=rD.mono (((fM hs x v).map cL)[m].rep) hk (aqX (m+1)) (by omega);rw[ju]at this;have eo:(oe nC [] (((fM hs x v).map cL)[m].rep)).get k=0:=SY k;omega
 ·unfold lM
  by_cases c:k=((fM hs x v).map cL)[m].rep
  ·rw[c,rD.Kp kU]
   obtain⟨u,hu,e⟩:=gF.1 (eT kU);rw[<-e];have:=(hb u hu).1;show u.seq-1<=_
   omega
  ·rw[Ki]
   refine vC (aak _ hk c (B:=1100000) (by omega) _ fun p aw=>?_) (by omega);have uo:=Fg aw;obtain⟨u,hu,e⟩:=gF.1 uo;refine⟨(rD.ok p uo).1,fun _=>?_⟩;rw[<-e];exact(hb u hu).2 k
theorem VN (aq:i<n)(h:dB n hs)(fa:hs.length<=1100000)(x:dD)(v:aW):K_ n i (bJ (cb n hs)) (Ab hs x v) (xy hs x v):=by
 have cS:=h.n5;have hp:∀k:Nat,(bJ (cb n hs)).get k=if k<n then(e1 hs k:Int)else 0:=fun k=>by
  rw[pS (by rw[kH];exact cS),kL];by_cases c:k<n
  ·rw[k2 c,if_pos c]
  ·rw[uB (by omega),if_neg c]
 refine⟨cS,aq,fun k _=>?_,fun k hk=>by rw[hp,if_neg (by omega)],fun k _=>?_,fun r j aJ af=>?_,by rw[LU];exact VR h x v,?_⟩
 ·rw[hp]
  have:=qL hs k;unfold lM;split<;>omega
 ·have aC:=tf hs k (max (x.gone k) (v.get k).toNat)
  have aA:xy hs x v k=(iO hs k).length-max (x.gone k) (v.get k).toNat:=aC;rw[hp];split
  ·rw[IM]at aA;omega
  ·rename_i c
   rw[ahM h (by omega)]at aA;simp at aA;omega
 ·obtain⟨m,hm,aP,ba,ey⟩:=aoN h x v af
  have hk:=h.tx m hm;have su:r<n:=by have:=hk.hQ;omega
  rw[aP];refine⟨apN h fa hm,by show hs[m].rep.toNat=r;rw[ba];simp,?_⟩;show hs[m].seq=_
  rw[ey,hp,if_pos su]
 ·rw[LU,mO]
  have:(fM hs x v).length<=5*hs.length:=KK hs x v 5;omega
theorem VP (h:dB n hs)(x:dD)(v:aW)(hu:u∈fM hs x v):u.rep.toNat<5∧((max (x.gone u.rep.toNat) (v.get u.rep.toNat).toNat:Nat):Int)<u.seq:=by
 obtain⟨r,aJ,hu⟩:=uD.1 hu;have n4:r<5:=mem_range.1 aJ;have e:=(DW (Db hu)).2;have fl:u.rep.toNat=r:=by rw[e];simp
 rw[fl];refine⟨n4,?_⟩;obtain⟨i,aq,rfl⟩:=fQ.1 hu;have aC:=tf hs r (max (x.gone r) (v.get r).toNat);have qS:i<(h8 hs r (max (x.gone r) (v.get r).toNat)).length:=aq;have aP:(qo hs x v r)[i]=(iO hs r)[max (x.gone r) (v.get r).toNat+i]'(by omega):=Ce aq;have f1:=(Ao h r _ (show max (x.gone r) (v.get r).toNat+i<(iO hs r).length by omega)).1;have g1:=(congrArg aT.seq aP).trans f1;exact Int.lt_of_lt_of_le (by omega) (Int.le_of_eq g1.symm)
theorem VQ (h:dB n hs)(x:dD)(v:aW)(aJ:r<5)(h1:((max (x.gone r) (v.get r).toNat:Nat):Int)<s)(ae:s<=e1 hs r):∃u,u∈fM hs x v∧u.rep=(r:Int)∧u.seq=s:=by
 have aC:=tf hs r (max (x.gone r) (v.get r).toNat);rw[IM]at aC;have aq:s.toNat-1-max (x.gone r) (v.get r).toNat<(qo hs x v r).length:=by
  show _<(h8 hs r _).length
  omega
 have hk:max (x.gone r) (v.get r).toNat+(s.toNat-1-max (x.gone r) (v.get r).toNat)<(iO hs r).length:=by rw[IM];omega
 have aP:(qo hs x v r)[s.toNat-1-max (x.gone r) (v.get r).toNat]=(iO hs r)[max (x.gone r) (v.get r).toNat+(s.toNat-1-max (x.gone r) (v.get r).toNat)]:=Ce aq;have f1:=Ao h r _ hk;refine⟨_,uD.2 ⟨r,mem_range.2 aJ,eT aq⟩,?_,?_⟩
 ·rw[aP];exact f1.2
 ·rw[aP,f1.1];omega
theorem af4 (h:dB n hs)(x:dD)(v:aW):∀a,a∈(fM hs x v).map cL->∀b,b∈(fM hs x v).map cL->b.seq<=a.saw.get b.rep->∃c,c∈(fM hs x v).map cL∧c.rep=b.rep∧c.seq=a.saw.get b.rep:=by
 have cS:=h.n5;intro a aU b hb jy;obtain⟨u,hu,rfl⟩:=gF.1 aU;obtain⟨y,b9,rfl⟩:=gF.1 hb;obtain⟨j,af,rfl⟩:=fQ.1 (qI hu);have hk:=h.tx j af;have aM:=VP h x v b9;have X0:y.seq<=(cL hs[j]).saw.get (y.rep.toNat:Nat):=jy;have jX:=wU cS hk y.rep.toNat;have ae:=hk.saw.le y.rep.toNat;have aH:=IA hs (T:=j) y.rep.toNat;obtain⟨c,aA,c1,c2⟩:=VQ h x v aM.1 (s:=(cL hs[j]).saw.get (y.rep.toNat:Nat)) (by omega) (by omega);refine⟨cL c,gF.2 ⟨c,aA,rfl⟩,?_,c2⟩;show c.rep.toNat=y.rep.toNat
 omega
theorem VO (h:dB n hs)(x:dD)(v:aW):(fM hs x v).Pairwise fun a b=>¬(a.rep.toNat=b.rep.toNat∧a.seq=b.seq):=by
 have:=(L2 h x v).up;rw[zL]at this;refine this.imp fun{a b} jy ⟨aP,ba⟩=>?_
 have:a.seq<b.seq:=jy aP;omega
theorem T3 {bb:List (dt×Nat)}(ll:bb.map Prod.fst=us.map cL)(ve:us.Pairwise fun a b=>¬(a.rep.toNat=b.rep.toNat∧a.seq=b.seq))(hk:k<us.length)(hw:k<(j1 bb).length):q7 us (j1 bb)[k]=us[k]:=by
 have hlen:bb.length=us.length:=by have:=congrArg length ll;simpa using this
 obtain⟨-,ae,aH⟩:=ada ll ve (eT hw);have ex:((j1 bb)[k]).x=bb[k]'(by omega):=by simp[j1]
 have aP:(bb[k]'(by omega)).1=cL us[k]:=by
  have:=congrArg (fun l=>l[k]?) ll;simp only[zK,hg hk,hg (show k<bb.length by omega),Bo,Fm]at this;exact this
 rw[ex,aP]at aH;obtain⟨m,hm,em⟩:=fQ.1 ae;rw[<-em]at aH⊢;have cO:us[m].rep.toNat=us[k].rep.toNat:=congrArg dt.rep aH;have a2:us[m].seq=us[k].seq:=congrArg dt.seq aH;have n2:=vD.1 ve;by_cases c:m=k
 ·subst c;rfl
 ·by_cases c2:m<k
  ·exact absurd ⟨cO,a2⟩ (n2 m k hm hk c2)
  ·exact absurd ⟨cO.symm,a2.symm⟩ (n2 k m hk hm (by omega))
def aqm (a b:aT):Prop:=(b.rep.toNat=a.rep.toNat∧b.seq<a.seq)∨b.seq<=a.saw.getD b.rep.toNat 0
def xr (d:aZ)(us:List aT)(d':aZ):Prop:=∃iE:List aT,d'=jO d iE∧iE.Perm us∧iE.Pairwise fun a b=>¬aqm a b
theorem af5 (h:dB n hs)(x:dD)(v:aW)(kD:us=fM hs x v)(d:aZ){bb:List (dt×Nat)}{xs:List e4}(ll:bb.map Prod.fst=us.map cL)(aw:xs.Perm (j1 bb))(qe:xs.Pairwise fun a b=>kJ b a=false):xr d us (jO d (xs.map (q7 us))):=by
 have cS:=h.n5;have ve:us.Pairwise fun a b=>¬(a.rep.toNat=b.rep.toNat∧a.seq=b.seq):=by rw[kD];exact VO h x v
 have hlen:bb.length=us.length:=by have:=congrArg length ll;simpa using this
 have ajW:(j1 bb).map (q7 us)=us:=by
  apply yp
  ·rw[mO,tH,hlen]
  ·intro k h1 ae
   rw[getElem_map];exact T3 ll ve ae (by rw[tH];omega)
 refine⟨_,rfl,by have:=aw.map (q7 us);rwa [ajW]at this,?_⟩;rw[zL];refine List.Pairwise.imp_of_mem ?_ qe;intro a b aU hb jy hw;obtain⟨i,aq,rfl⟩:=fQ.1 (aw.mem_iff.1 aU);obtain⟨j,af,rfl⟩:=fQ.1 (aw.mem_iff.1 hb);have Rh:i<us.length:=by rw[tH]at aq;omega
 have YR:j<us.length:=by rw[tH]at af;omega
 rw[T3 ll ve Rh aq,T3 ll ve YR af]at hw;have rD:ov (us.map cL):=by rw[kD];exact L2 h x v
 have dJ:FL (us.map cL):=by rw[kD];exact VR h x v
 have B5:∀a,a∈us.map cL->∀b,b∈us.map cL->b.seq<=a.saw.get b.rep->∃c,c∈us.map cL∧c.rep=b.rep∧c.seq=a.saw.get b.rep:=by rw[kD];exact af4 h x v
 have nw:i<(us.map cL).length:=by simpa using Rh
 have m_:j<(us.map cL).length:=by simpa using YR
 have key:=rD.less dJ B5 nw m_ (by
  rw[getElem_map,getElem_map];rcases hw with hw|hw
  ·exact Or.inl hw
  ·refine Or.inr ?_
   have hm:us[i]∈hs:=qI (x:=x) (v:=v) (kD▸eT Rh);obtain⟨m,qa,em⟩:=fQ.1 hm;have hk:=h.tx m qa;rw[em]at hk;show us[j].seq<=(cL us[i]).saw.get ((us[j].rep.toNat:Nat):Int)
   rw[wU cS hk];exact hw)
 have dZ:∀k (hk:k<(j1 bb).length) (tj:k<(us.map cL).length),((j1 bb)[k]).dZ=(q0 (us.map cL) k tj).count:=fun k hk tj=>by
  have aH:=Kk (us.map cL) nC k tj;unfold q0;have:(oh (bb.map Prod.fst))[k]?=some (rT (oe nC ((us.map cL).take k)) (us.map cL)[k]):=by rw[ll];exact aH
  obtain⟨rH,ey⟩:=w8.1 this;rw[<-ey];simp[j1]
 rw[OI]at jy;apply jy;left
 rw[dZ i aq nw,dZ j af m_];exact key
theorem Iw (cS:u.saw.length<=5)(av:d.ag.length<=5):uV d u=true↔(d.ag.getD u.rep.toNat 0+1=u.seq∧∀k,u.saw.getD k 0<=d.ag.getD k 0):=by
 unfold uV vW;rw[qv,mo,J5,pS av,kL];constructor
 ·rintro ⟨h1,ae⟩
  refine⟨h1.symm,fun k=>?_⟩;by_cases c:k<5
  ·have:=ae k c
   rwa [pS cS,pS av,kL]at this
  ·rw[yT (by omega),yT (by omega)];exact re _
 ·rintro ⟨h1,ae⟩
  refine⟨h1.symm,fun k _=>?_⟩;rw[pS cS,pS av,kL];exact ae k
theorem N1 (d:aZ)(u:aT)(us:List aT):jO d (u::us)=jO (sJ d u) us:=rfl
theorem TS (d:aZ)(u:aT):(sJ d u).ag.length=d.ag.length:=by
 unfold sJ;split
 ·simp[zu]
 ·rfl
theorem abq (us:List aT):∀d:aZ,(jO d us).ag.length=d.ag.length:=by
 induction us with
 |nil=>intro d;rfl
 |cons u us ih=>intro d;rw[N1,ih,TS]
theorem S6 (us:List aT):∀(d:aZ) (v:aT),v∈(jO d us).hs->v∈d.hs∨v∈us:=by
 induction us with
 |nil=>intro d v av;exact Or.inl av
 |cons u us ih=>
  intro d v av;rw[N1]at av;rcases ih _ v av with h|h
  ·unfold sJ at h
   split at h
   ·unfold zu at h
    rcases hT.1 h with h|h
    ·exact Or.inl h
    ·exact Or.inr (by rw[k4.1 h];simp)
   ·exact Or.inl h
  ·exact Or.inr (Da _ h)
theorem anh (us:List aT):∀d:aZ,∃l,(jO d us).hs=d.hs++l:=by
 induction us with
 |nil=>intro d;exact⟨[],by simp[jO]⟩
 |cons u us ih=>
  intro d;rw[N1];obtain⟨l,aC⟩:=ih (sJ d u);rw[aC];unfold sJ;split
  ·exact⟨u::l,by simp[zu]⟩
  ·exact⟨l,rfl⟩
theorem amK (aD:dB n ts)(hm:∀v,v∈hs->v∈ts)(hu:u∈ts)(c1:(cb n hs).getD u.rep.toNat 0+1=u.seq)(c2:∀k,u.saw.getD k 0<=(cb n hs).getD k 0):oO n hs u:=by
 obtain⟨a,aU,rfl⟩:=fQ.1 hu;have hk:=aD.tx a aU;refine⟨hk.eE,hk.hQ,?_,⟨hk.saw.len,hk.saw.pos,fun r=>?_,fun v av gj r=>?_⟩,hk.ops,hk.one⟩
 ·rw[k2 hk.vw]at c1;omega
 ·have:=c2 r
  by_cases c:r<n
  ·rwa [k2 c]at this
  ·rw[uB (by omega)]at this;omega
 ·obtain⟨b,hb,rfl⟩:=fQ.1 (hm v av)
  have ai1:=aD.back aU hb gj;exact hk.saw.L5 ts[b] (fQ.2 ⟨b,by simp;omega,by simp⟩) gj r
theorem aj5 (aD:dB n ts)(aB:∀v,v∈d.hs->v∈ts)(kD:∀v,v∈us->v∈ts):∀kq u,(∀v,v∈kq->v∈us)->u∈us->dB n (jO d kq).hs->(jO d kq).ag=cb n (jO d kq).hs->uV (jO d kq) u=true->oO n (jO d kq).hs u:=by
 intro kq u qW hu hH hp aA;have l_:∀v,v∈(jO d kq).hs->v∈ts:=fun v av=>(S6 kq d v av).elim (aB v) fun h=>kD v (qW v h)
 obtain⟨a,aU,e⟩:=fQ.1 (kD u hu);have hk:=aD.tx a aU;rw[e]at hk;have:=(Iw (by rw[hk.saw.len];exact aD.n5) (by rw[hp,kH];exact aD.n5)).1 aA;rw[hp]at this;exact amK aD l_ (kD u hu) this.1 this.2
def yi (d:aZ):Nat->Int:=fun k=>d.ag.getD k 0
def Qh (u:aT):Nat×Int:=(u.rep.toNat,u.seq)
theorem ani (saw:Nat->Int->Nat->Int):∀(us:List aT) (d:aZ),d.ag.length<=5->(∀u,u∈us->u.rep.toNat<d.ag.length∧u.saw.length<=5∧∀k,saw u.rep.toNat u.seq k=u.saw.getD k 0)->qD saw (yi d) (us.map Qh) (yi (jO d us)):=by
 intro us;induction us with
 |nil=>intro d _ _;exact qD.nil
 |cons u us ih=>
  intro d av h;obtain⟨h1,ae,aH⟩:=h u (by simp);rw[N1];have CK:=ih (sJ d u) (by rw[TS];exact av) fun v iq=>by rw[TS];exact h v (Da _ iq)
  by_cases c:uV d u=true
  ·obtain⟨c1,c2⟩:=(Iw ae av).1 c
   refine qD.yes c1 (fun k=>by rw[aH];exact c2 k) ?_;have e:yi (sJ d u)=bump (yi d) u.rep.toNat:=by
    funext k;unfold sJ;rw[if_pos c];unfold yi zu bump;dsimp only
    rw[tL,Bm];by_cases p3:k=u.rep.toNat
    ·subst p3;rw[if_pos rfl,if_pos rfl,if_pos h1];rfl
    ·rw[if_neg (fun x=>p3 x.symm),if_neg p3,<-tL]
   rw[<-e];exact CK
  ·refine qD.no (fun⟨c1,c2⟩=>c ((Iw ae av).2 ⟨c1,fun k=>by have:=c2 k;rwa [aH]at this⟩)) ?_
   have e:sJ d u=d:=by unfold sJ;rw[if_neg c]
   rw[e]at CK⊢;exact CK
def tB (ts:List aT)(r:Nat)(s:Int)(k:Nat):Int:=((ts.find? fun u=>decide (u.rep.toNat=r∧u.seq=s)).getD ⟨0,0,[],[]⟩).saw.getD k 0
theorem dB.abg (aD:dB n ts){v:aT}(hu:u∈ts)(av:v∈ts)(aP:u.rep.toNat=v.rep.toNat)(ba:u.seq=v.seq):u=v:=by
 obtain⟨a,aU,rfl⟩:=fQ.1 hu;obtain⟨b,hb,rfl⟩:=fQ.1 av;have cB:=(aD.tx a aU).eE;have b_:=(aD.tx b hb).eE;have:=aD.inj aU hb (by omega) ba;subst this;rfl
theorem TH (aD:dB n ts)(hu:u∈ts)(k:Nat):tB ts u.rep.toNat u.seq k=u.saw.getD k 0:=by
 unfold tB;have hs:(ts.find? fun v=>decide (v.rep.toNat=u.rep.toNat∧v.seq=u.seq)).isSome:=by
  rw[find?_isSome];exact⟨u,hu,by simp⟩
 obtain⟨v,av⟩:=mn.1 hs;have h1:v.rep.toNat=u.rep.toNat∧v.seq=u.seq:=sM (by simpa using find?_some av);have ae:=mem_of_find?_eq_some av;rw[av,aD.abg ae hu h1.1 h1.2];rfl
theorem xr.stuck (aD:dB n ts)(av:d.ag.length=n)(kD:∀u,u∈us->u∈ts)(h:xr d us d'):qD (tB ts) (yi d) ((Classical.choose h).map Qh) (yi d')∧∀u,u∈us->uV d' u=false:=by
 have aS:=Classical.choose_spec h;generalize Classical.choose h=iE at aS;obtain⟨rfl,aw,hw⟩:=aS;have cF:∀u,u∈iE->u∈ts:=fun u hu=>kD u (aw.mem_iff.1 hu)
 have b2:=aD.n5;have fact:∀u,u∈ts->u.rep.toNat<d.ag.length∧u.saw.length<=5∧∀k,tB ts u.rep.toNat u.seq k=u.saw.getD k 0:=fun u hu=>by
  obtain⟨a,aU,e⟩:=fQ.1 hu;have hk:=aD.tx a aU;rw[e]at hk;exact⟨by rw[av];exact hk.vw,by rw[hk.saw.len];exact b2,TH aD hu⟩
 have ha:=ani (tB ts) iE d (by omega) fun u hu=>fact u (cF u hu)
 refine⟨ha,fun u hu=>?_⟩;have a1:=ha.stuck (by
  rw[zL];refine List.Pairwise.imp_of_mem ?_ hw;intro a b aU _ jy CF;apply jy;rcases CF with CF|CF
  ·exact Or.inl CF
  ·refine Or.inr ?_
   have h1:b.seq<=tB ts a.rep.toNat a.seq b.rep.toNat:=CF;rwa [(fact a (cF a aU)).2.2]at h1) (Qh u) (gF.2 ⟨u,aw.mem_iff.2 hu,rfl⟩)
 obtain⟨f1,f2,f3⟩:=fact u (kD u hu);cases c:uV (jO d iE) u with
 |false=>rfl
 |true=>
  exfalso;obtain⟨c1,c2⟩:=(Iw f2 (by rw[abq];omega)).1 c;exact a1 ⟨c1,fun k=>by show tB ts u.rep.toNat u.seq k<=_;rw[f3];exact c2 k⟩
theorem PS (t:ByteArray)(aA:eh w b 1 (I n))
  (xX:Calls prog 74 #[.func (.func 75) #[] #[],ai t,I n] w fun e w'=>ax w w'∧e= .returned (.tuple #[lJ 0 ⟨0,0,0,0,0⟩,I 6])):
  Calls prog 40 #[bl b,ai t] w (bx (.tuple #[ai ⟨#[]⟩,I 6]) fun w'=>ax w w'):=by
 have lj:=hU w _ aA;have r5:=J xX;clear xX;go_enter func40,ntmps40;go_wp2_with(go_at_call 74;refine r5.o.mono ?_;rintro e w2 ⟨bP,rfl⟩;have bu:=J bP;clear bP)
 go_ret2
 exact⟨rfl,bu.o.alloc bu.o.size _⟩
theorem Tp (t:ByteArray)(aA:eh w b 1 (I n))
  (xX:∀W,ax w W->Calls prog 79 #[.func (.func 80) #[] #[],ai t,I n] W fun e w'=>ax W w'∧e= .returned (.tuple #[qG 0 mi (.slice none 0 0),I 6])):
  Calls prog 41 #[bl b,ai t] w (bx (I 6) fun w'=>ax w w'):=by
 generalize bj:w.alloc (.cells #[bl b] 45)=W0;have bp:ax w W0:=by rw[<-bj];exact cj _ _
 have eE:W0.cell? (aa (w.heap.size) 0)=some (bl b):=by rw[<-bj];exact(show aQ _ w.heap.size [bl b] 45 from cC w _).cell 0
 have c1:=bZ bp aA;have lj:=hU W0 _ c1;have nZ:=hU W0 _ eE;have r5:=J (xX W0 bp);have Dl:=J bp;have di:=J bj;clear xX bp bj aA;go_enter func41,ntmps41;go_upto_region 1 with(fail);rw[di.o];unfold mi at r5;go_wp2_with(go_at_call 79;refine r5.o.mono ?_;rintro e w2 ⟨bP,rfl⟩;have bu:=J bP;clear bP)
 go_ret;have ao:=Dl.o.trans (bu.o.mono Dl.o.size);exact⟨rfl,ao.alloc ao.size _⟩
theorem dB.Ou (h:dB n hs)(hu:u∈hs):1<=u.seq∧u.seq<=e1 hs u.rep.toNat:=by
 obtain⟨a,aU,rfl⟩:=fQ.1 hu;have h1:=(h.tx a aU).seq;have ae:=(h.KL (T:=hs.length) aU).2 aU;rw[tI]at ae;exact⟨by omega,ae⟩
theorem dB.has (h:dB n hs)(h1:1<=s)(ae:s<=e1 hs r):∃u,u∈hs∧u.rep=(r:Int)∧u.seq=s:=by
 have hk:s.toNat-1<(iO hs r).length:=by rw[IM];omega
 have f:=Ao h r _ hk;exact⟨_,(DW (eT hk)).1,f.2,by rw[f.1];omega⟩
theorem aaH (aD:dB n ts)(hH:dB n hs)(hm:∀v,v∈hs->v∈ts)(hu:u∈ts):u∈hs↔u.seq<=e1 hs u.rep.toNat:=by
 constructor
 ·exact fun h=>(hH.Ou h).2
 ·intro h
  obtain⟨v,h1,ae,aH⟩:=hH.has (aD.Ou hu).1 h;rw[aD.abg hu (hm v h1) (by omega) aH.symm];exact h1
theorem dB.ea (h:dB n hs)(hm:∀u,u∈hs->u∈ts):hs.length<=ts.length:=by
 classical
 refine Kl (l:=hs) (m:=ts) ?_ hm;rw[List.Nodup,vD];intro i j aq af l6 e;have:=h.inj aq af (by rw[e]) (by rw[e]);omega
theorem aX.df (h:aX bg w o t b n i d):dB n d.hs∧d.ag=cb n d.hs∧i<n:=by
 obtain⟨p,h1,aE,st,b8,tbs,cX,av,aY,ae⟩:=h;exact⟨ae.ok.df,ae.ok.ag,ae.ok.aq⟩
theorem aps (h:aX bg w o t b n i d)(bI:d.hs.length<=1100000)(al:fI w):
  Calls prog 37 #[bl b] w (bx (ai ⟨(nK n i d.ag).toArray⟩) fun w'=>ax w w'):=by
 obtain⟨p,h1,ae⟩:=h;exact apr ae bI al
theorem afz (h:aX bg w o t b n i d)(bI:d.hs.length<=1100000)(af:j<n)(l:List Int)(aC:l.length=n)(qb:∀k (hk:k<l.length),0<=l[k]∧l[k]<=lM)(fb:(nK n j l).length<=200000000000)(al:fI w)(ep:∀q,q<6->o q≠t):
  Calls prog 40 #[bl b,ai ⟨(nK n j l).toArray⟩] w (bx (.tuple #[ai ⟨(lS n i (bJ d.ag) ((fM d.hs bg (bJ l)).map cL)).toArray⟩,I 0]) fun w'=>∃o',aX (oK bg j (bJ l)) w' o' t b n i d∧ct (·=t) w o w' o'):=by
 obtain⟨df,-,-⟩:=h.df;obtain⟨p,h1,ae⟩:=h;have b2:=df.n5;have o2:=abS w n j ⟨(nK n j l).toArray⟩ l true b2 af aC (by show(nK n j l).toArray.size<=_;simpa using fb) (by unfold fU;rw[if_pos rfl];exact⟨_,by show(nK n j l).toArray.toList=_;rw[toList_toArray];rfl⟩) qb al;refine(afy ae bI _ j (bJ l) (by omega) al (fun q ad=>?_) (fun u hu=>OC df bI hu) (o2.mono ?_)).mono ?_
 ·by_cases c:p q= .other
  ·exact c
  ·exact absurd (h1 q (by have:=al.room;omega) c) (ep q ad)
 ·rintro e w' ⟨ao,⟨-,rfl⟩|⟨eV,-⟩⟩
  ·exact⟨ao,rfl⟩
  ·exact absurd (by show(nK n j l).toArray.toList=_;rw[toList_toArray]) eV
 ·rintro e w' ⟨rfl,aH,bd⟩
  exact⟨rfl,aX.NT h1 aH ⟨bd.ay.mono fun q _ e=>by rw[e];simp,fun q ad e=>by rw[<-bd.same q ad];exact e⟩⟩
theorem aod (h:aX bg w o t b n i d)(aD:dB n ts)(aB:∀u,u∈d.hs->u∈ts)(hH:dB n hs)(hm:∀u,u∈hs->u∈ts)(x:dD)(v:aW)(kD:us=fM hs x v)(bK:ts.length<=1100000)(af:j<n)
  (fb:(lS n j (bJ (cb n hs)) (us.map cL)).length<=200000000000)(al:fI w):
  Calls prog 41 #[bl b,ai ⟨(lS n j (bJ (cb n hs)) (us.map cL)).toArray⟩] w (bx (I 0) fun w'=>∃o' d',aX (oK bg j (bJ (cb n hs))) w' o' t b n i d'∧ct (·=t) w o w' o'∧xr d us d'):=by
 obtain⟨p,h1,ae⟩:=h;have b2:=aD.n5;have ZD:∀u,u∈us->u∈ts:=fun u hu=>hm u (qI (x:=x) (v:=v) (kD▸hu))
 have fa:=fx (hH.ea hm) bK;have eK:=VN af hH fa x v;have cT:fT (Ab hs x v) (xy hs x v) 5=us.map cL:=by rw[kD];exact LU hs x v
 have o2:∀W,ax w W->Calls prog 79 #[.func (.func 80) #[] #[],ai ⟨(lS n j (bJ (cb n hs)) (us.map cL)).toArray⟩,I n] W fun e w'=>ax W w'∧∃bz,e= .returned (.tuple #[qG j (bJ (cb n hs)) bz,I 0])∧pV W (us.map cL) bz w':=fun W ao=>by
  refine(N_ W n j _ (bJ (cb n hs)) (us.map cL) (((lS n j (bJ (cb n hs)) (us.map cL)).toArray).toList=lS n j (bJ (cb n hs)) (us.map cL)) fun dP ig=>?_).mono ?_
  ·have:=abN dP n j ⟨(lS n j (bJ (cb n hs)) (us.map cL)).toArray⟩ (bJ (cb n hs)) (Ab hs x v) (xy hs x v) true eK (by show(lS n j (bJ (cb n hs)) (us.map cL)).toArray.size<=_;simpa using fb) (by unfold fU;rw[if_pos rfl,cT];exact⟨_,by show(lS n j (bJ (cb n hs)) (us.map cL)).toArray.toList=_;rw[toList_toArray];exact FP ..⟩) ((al.later ao).later ig)
   rw[cT]at this;exact this
  ·rintro e w' ⟨ig,⟨-,bz,rfl,aM⟩|⟨eV,-⟩⟩
   ·exact⟨ig,bz,rfl,aM⟩
   ·exact absurd (by rw[toList_toArray]) eV
 have bI:∀kq,(∀v,v∈kq->v∈us)->dB n (jO d kq).hs->(jO d kq).hs.length<=1100000:=fun kq qW aw=>fx (aw.ea fun u hu=>(S6 kq d u hu).elim (aB u) fun h=>ZD u (qW u h)) bK
 have rD:us.length<=50000000:=by
  have h1:=KK hs x v 5;rw[kD];exact fx h1 (by omega)
 refine(aoc ae us rD bI _ j (bJ (cb n hs)) (by omega) o2 (fun u hu=>?_) (fun dZ ho=>?_) (by rw[kD];exact VO hH x v) (aj5 aD aB ZD)).mono ?_
 ·obtain⟨a,aU,e⟩:=fQ.1 (qI (x:=x) (v:=v) (kD▸hu))
  have hk:=hH.tx a aU;have aH:=qL (hs.take a) hs[a].rep.toNat;rw[ng]at aH;have bd:=hk.seq;have cS:=hk.vw;rw[e]at aH bd cS;omega
 ·exact af6 hH fa x v dZ (by rw[<-kD];exact ho)
 ·rintro e w' ⟨rfl,p',bb,xs,aH,bd,cS,ep,p7⟩
  obtain⟨o',lI,mC⟩:=aX.NT h1 ep p7;exact⟨rfl,o',_,lI,mC,af5 hH x v kD d aH bd cS⟩
theorem Oz {l:List Int}(hn:n<=5)(af:j<n)(aC:l.length=n)(h:∀k,k∈l-> -9223372036854775808<=k∧k<=9223372036854775807):(nK n j l).length<=200:=by
 have h1:=On (iH 115 n j l);have ae:=T7 l h;have aH:=qi (k:=(n:Int)) (by omega) (by omega);have bd:=qi (k:=(j:Int)) (by omega) (by omega);show(iH 115 n j l++q4 (iH 115 n j l)).length<=_
 rw[eN];have cS:(iH 115 n j l).length=(ec n).length+((ec j).length+(eZ l).length)+1:=by simp[iH]
 omega
theorem apM (h:dB n hs)(fa:hs.length<=1100000)(hu:u∈hs):(tG n (cL u).saw (cL u).wr).length<=1300:=by
 have bm:=OC h fa hu;obtain⟨j,af,e⟩:=fQ.1 hu;have hk:=h.tx j af;rw[e]at hk;obtain⟨cI,-,-,fo⟩:=abl hk.ops hk.one;have h1:=yh bm.saw (k:=n) h.n5;have hw:(cL u).wr=gz u.ops:=rfl;rw[<-hw]at cI fo;have ae:=qi (k:=((na (cL u).wr).length:Int)) (by omega) (by omega);have aH:=OR (m:=(cL u).wr) (ks:=na (cL u).wr) fun p aw=>by
  obtain⟨x,e⟩:=mn.1 ((cI.2 p).1 aw);exact⟨x,e,bm.wr p x e⟩
 simp only[tG,eN];omega
theorem T1 (h:dB n hs)(fa:hs.length<=1100000):∀{us:List aT},(∀u,u∈us->u∈hs)->(hJ n (us.map cL)).length<=1300*us.length
 |[],_=>by simp[hJ]
 |a::l,hu=>by
  have h1:=T1 h fa (us:=l) fun x au=>hu x (by simp[au])
  have ae:=apM h fa (hu a (by simp));simp only[hJ,map_cons,kf,eN,lP]at h1⊢;omega
theorem L1 (hs:List aT)(x:dD)(v:aW):(fM hs x v).length<=5*hs.length:=KK hs x v 5
theorem PR (h:dB n hs)(fa:hs.length<=1100000)(af:j<n)(hu:∀u,u∈us->u∈hs)(aC:us.length<=5*hs.length):(lS n j (bJ (cb n hs)) (us.map cL)).length<=200000000000:=by
 have b2:=h.n5;have hp:∀k,k∈(bJ (cb n hs)).list-> -9223372036854775808<=k∧k<=9223372036854775807:=fun k hk=>by
  obtain⟨r,aJ,rfl⟩:=C7 hk;rw[pS (by rw[kH];exact b2),kL];have:=qL hs r;by_cases c:r<n
  ·rw[k2 c];omega
  ·rw[uB (by omega)];omega
 have qV:∀t,t∈us.map cL->t.rep<5:=fun t al=>by
  obtain⟨u,iS,rfl⟩:=gF.1 al;exact(OC h fa (hu u iS)).rep
 have si:∀k,k∈(la (us.map cL)).list-> -9223372036854775808<=k∧k<=9223372036854775807:=fun k hk=>by
  obtain⟨r,aJ,rfl⟩:=C7 hk;have:=L_ (us.map cL) qV r;rw[mO]at this;omega
 have h1:=yh hp (k:=n) b2;have ae:=yh si (k:=n) b2;have aH:=qi (k:=(n:Int)) (by omega) (by omega);have bd:=qi (k:=(j:Int)) (by omega) (by omega);have cS:=T1 h fa hu;have p7:(qF n j (bJ (cb n hs)) (us.map cL)).length=(ec n).length+((ec j).length+(eZ ((bJ (cb n hs)).list.take n)).length)+1+((eZ ((la (us.map cL)).list.take n)).length+(hJ n (us.map cL)).length):=by simp[qF,iH];omega
 rw[FP,eN];have ep:=On (qF n j (bJ (cb n hs)) (us.map cL));omega
theorem KX (fa:hs.length<=1100000):∀k (hk:k<(cb n hs).length),0<=(cb n hs)[k]∧(cb n hs)[k]<=lM:=fun k hk=>by
 have iA:k<n:=by rwa [kH]at hk
 have h1:=k2 (hs:=hs) iA;rw[tL,hg hk]at h1;have ae:(cb n hs)[k]=e1 hs k:=h1;have:=qL hs k;unfold lM;omega
theorem afx (h:aX bg w o t b n i d)(bI:d.hs.length<=1100000)(af:j<n)(fa:hs.length<=1100000)(al:fI w)(ep:∀q,q<6->o q≠t):
  Calls prog 40 #[bl b,ai ⟨(nK n j (cb n hs)).toArray⟩] w (bx (.tuple #[ai ⟨(lS n i (bJ (cb n d.hs)) ((fM d.hs bg (bJ (cb n hs))).map cL)).toArray⟩,I 0]) fun w'=>∃o',aX (oK bg j (bJ (cb n hs))) w' o' t b n i d∧ct (·=t) w o w' o'):=by
 obtain⟨df,av,-⟩:=h.df;have jX:=KX (n:=n) fa;have fb:=Oz (j:=j) df.n5 af (kH n hs) fun k hk=>by
  obtain⟨a,aU,rfl⟩:=fQ.1 hk;have:=jX a aU;unfold lM at this;omega
 have:=afz h bI af (cb n hs) (kH n hs) jX (by omega) al ep;rwa [av]at this
theorem aob (h:aX bg w o t b n i d)(aD:dB n ts)(aB:∀u,u∈d.hs->u∈ts)(hH:dB n hs)(hm:∀u,u∈hs->u∈ts)(x:dD)(v:aW)(bK:ts.length<=1100000)(af:j<n)(al:fI w):
  Calls prog 41 #[bl b,ai ⟨(lS n j (bJ (cb n hs)) ((fM hs x v).map cL)).toArray⟩] w fun e w'=>e= .returned (I 0)∧∃o' d',aX (oK bg j (bJ (cb n hs))) w' o' t b n i d'∧ct (·=t) w o w' o'∧xr d (fM hs x v) d':=
 aod h aD aB hH hm x v rfl bK af (PR hH (fx (hH.ea hm) bK) af (fun _ hu=>qI hu) (L1 hs x v)) al
theorem V_ (aD:dB n ts)(h:dB n hs)(hm:∀u,u∈hs->u∈ts)(k:Nat):e1 hs k<=e1 ts k:=by
 by_cases c:e1 hs k=0
 ·omega
 ·obtain⟨u,h1,ae,aH⟩:=h.has (r:=k) (s:=e1 hs k) (by omega) (re _)
  have:=(aD.Ou (hm u h1)).2;rw[show u.rep.toNat=k by omega,aH]at this;omega
theorem agH (a b:List aT)(k:Nat):e1 (a++b) k=e1 a k+e1 b k:=by simp[e1]
theorem xr.more (h:xr d us d'):(∃l,d'.hs=d.hs++l)∧d'.bH=d.bH∧∀u,u∈d'.hs->u∈d.hs∨u∈us:=by
 obtain⟨iE,rfl,aw,-⟩:=h;exact⟨anh iE d,ang d iE,fun u hu=>(S6 iE d u hu).imp id fun h=>aw.mem_iff.1 h⟩
theorem xr.ar (h:xr d us d')(k:Nat):e1 d.hs k<=e1 d'.hs k:=by
 obtain⟨⟨l,e⟩,-,-⟩:=h.more;rw[e,agH];omega
def hE (n:Nat)(T:Nat->Tag)(t:Tag):Prop:=∃i,i<n∧t=T i
theorem Mj (d:aZ)(tx:Int)(p:db):(jx d tx p).hs=d.hs:=by
 unfold jx;split
 ·rfl
 ·split<;>rfl
theorem afk (d:aZ)(tx:Int):(tU d tx).hs=d.hs:=by unfold tU;split<;>rfl
end Go.Proofs.YtiplgdkpnhamaaaGreatDoor.Tv
