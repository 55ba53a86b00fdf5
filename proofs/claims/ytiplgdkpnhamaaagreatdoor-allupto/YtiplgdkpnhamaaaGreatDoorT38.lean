import Derived.Test.YtiplgdkpnhamaaaGreatDoorT36
set_option maxHeartbeats 16000000
set_option maxRecDepth 100000
namespace Go.Proofs.YtiplgdkpnhamaaaGreatDoor.Tv
open Go.Proofs.Tryz List
open Go.RowKit
variable {bg:dD}
def lY (x:dD)(v:aW)(r:Nat):dD:={x with gone:=fun s=>if s<r then max (x.gone s) (v.get s).toNat else x.gone s}
def goN (hs:List aT)(x:dD)(v:aW):Nat->Nat
 |0=>0
 |r+1=>goN hs x v r+s7 hs x v r
theorem agU (hs:List aT)(x:dD)(v:aW)(r:Nat):s7 hs x v r<=hs.length:=by
 have:=Gm hs r (x.gone r);unfold s7;omega
theorem Xh (hs:List aT)(x:dD)(v:aW):∀r,goN hs x v r<=r*hs.length
 |0=>by simp[goN]
 |r+1=>by
  have h1:=Xh hs x v r;have ae:=agU hs x v r;unfold goN;rw[w4];omega
theorem aim (x:dD)(v:aW)(hs:List aT)(r:Nat)(h:s7 hs x v r=0)(aC:∀s,x.gone s<=e1 hs s)(av:∀s:Nat,(v.get s).toNat<=e1 hs s):lY x v (r+1)=lY x v r:=by
 unfold lY;congr 1;funext s;by_cases c:s=r
 ·subst c
  rw[if_pos (Nat.lt_succ_self _),if_neg (Nat.lt_irrefl _)];unfold s7 at h;rw[tf]at h;have h1:=aC s;have ae:=av s;unfold e1 at h1 ae;have:(iO hs s).length=(hs.filter fun u=>decide (u.rep=(s:Int))).length:=rfl;omega
 ·by_cases c2:s<r
  ·rw[if_pos c2,if_pos (by omega)]
  ·rw[if_neg c2,if_neg (by omega)]
theorem ain (x:dD)(v:aW):lY x v 0=x:=by
 unfold lY;cases x;simp
section
variable {x x':dD}{w w5:World}{p:Nat->Own}{b n i:Nat}{d:aZ}{aE:Nat}{st:b5}{b8 tbs cX:Nat->Nat}{av aY:List Value}
theorem fH.al_ (h:fH x w p b n i d aE st b8 tbs cX av aY){r:Nat}(aJ:r<5)(c7:ax w w5)(au:x'.aY=x.aY)(aM:∀s,s≠r->x'.gone s=x.gone s)(kS:x'.gone r<=e1 d.hs r){aN:Value}{bb:List (dt×Nat)}(ll:bb.map Prod.fst=(h8 d.hs r (x'.gone r)).map cL)(hm:∀y,y∈bb->p y.2= .held 5∧nT w y)(bf:Row w5 139 8 aN bb.length (bb.flatMap ia))(hL:∀q,aN.ownBlock=some q->w.heap.size<=q):
  fH x' (w5.setCell (aa b (3+r)) aN) (je p w.heap.size fun _=> .held r) b n i d aE st b8 tbs cX (av.set r aN) aY∧bA (fun t=>t=Own.rep) w p (w5.setCell (aa b (3+r)) aN) (je p w.heap.size fun _=> .held r):=by
 have ft:=h.U.U.lt;have eY:=(bA.dh (A:=fun t=>t=Own.rep) (o:=p) c7).set (p:=(aa b (3+r))) h.U.tag aN;have q:bA (fun t=>t=Own.rep) w p (w5.setCell (aa b (3+r)) aN) (je p w.heap.size fun _=> .held r):=⟨eY.ay,fun z cF=>jz cF⟩;refine⟨?_,q⟩;have MG:(je p w.heap.size fun _=>Own.held r) b= .rep:=by rw[jz ft];exact h.U.tag
 have hb:=(h.U.below c7).set (3+r) aN;rw[ab5 h.hlen r aJ]at hb;obtain⟨cg,bM,b6,bU,b4,bB,ah,hs⟩:=h.hR;refine⟨⟨hb.U,MG⟩,by simp[h.hlen],h.lL,⟨cg,bM,b6,bU,b4,bB,ah,hs.ay q (fun u hu e=>by rw[e]at hu;exact hu)⟩,h.ok,fun s hs=>?_,fun k t e=>?_,h.A7,by rw[au];exact h.known,fun s=>?_⟩
 ·have gj:s<av.length:=by simpa using hs
  by_cases c:s=r
  ·subst c
   have e:(av.set s aN)[s]=aN:=by simp
   rw[e];have BN:gZ w5 (je p w.heap.size fun _=>Own.held s) (.held s) 139 8 aN bb.length (bb.flatMap ia):=⟨bf,fun z cF=>sE (hL z cF)⟩;refine⟨bb,ll,BN.set (p:=(aa b (3+s))) MG (by simp) aN,fun y b9=>?_⟩;obtain⟨dz,ei⟩:=hm y b9;exact⟨by rw[jz ei.lt];exact dz,cV.move ei (q.ay.block _ ei.lt (by rw[dz];simp))⟩
  ·have e:(av.set r aN)[s]=av[s]:=by rw[w9 (fun e=>c e.symm)]
   rw[e,aM s c];exact(h.held s gj).ay q (by simp) (by simp)
 ·have au:=h.tx k t e
  exact⟨au.U.ay q (by simp),by rw[jz au.own.lt];exact au.oj,au.own.hP q (by rw[au.oj];simp)⟩
 ·by_cases c:s=r
  ·subst c;exact kS
  ·rw[aM s c];exact h.xF s
end
structure LH (bg:dD)(v:aW)(w:World)(p:Nat->Own)(b n i:Nat)(d:aZ)(aE:Nat)(st:b5)(b8 tbs cX:Nat->Nat)(av aY:List Value)(r:Nat)(wr:World):Prop where
 ex:∃p' iq,fH (lY bg v r) wr p' b n i d aE st b8 tbs cX iq aY∧bA (fun t=>t=Own.rep) w p wr p'∧∀s,r<=s->iq[s]?=av[s]?
 box:aQ wr w.heap.size v.cells 104
def ae2 (bg:dD)(v:aW)(w:World)(p:Nat->Own)(b n i:Nat)(d:aZ)(aE:Nat)(st:b5)(b8 tbs cX:Nat->Nat)(aY:List Value)(e:Ending)(w':World):Prop:=
 e= .returned (I (goN d.hs bg v 5))∧∃p' iq,fH (lY bg v 5) w' p' b n i d aE st b8 tbs cX iq aY∧bA (fun t=>t=Own.rep) w p w' p'
theorem ama {w:World}{p:Nat->Own}{b n i:Nat}{d:aZ}{aE:Nat}{st:b5}{b8 tbs cX:Nat->Nat}{av aY:List Value}(h:fH bg w p b n i d aE st b8 tbs cX av aY)(bI:d.hs.length<=1100000)(v:aW)(jY:∀s:Nat,(v.get s).toNat<=e1 d.hs s):
  Calls prog 84 #[.pointer (some (aa b 3)),v.val] w (ae2 bg v w p b n i d aE st b8 tbs cX aY):=by
 obtain⟨i0,aq,dC,dM,dK⟩:=iV Tryz.Sf;have cw:=J (⟨aq,dC,dM,dK⟩:_∧_∧_∧_);clear aq dC dM dK;obtain⟨v0,v1,v2,v3,v4,vp⟩:∃v0 v1 v2 v3 v4,av=[v0,v1,v2,v3,v4]:=by
  have:=h.hlen;match av,this with
  |[a,b,c,d,e],_=>exact⟨a,b,c,d,e,rfl⟩
 generalize bj:w.alloc (.cells #[I v.a,I v.b,I v.c,I v.d,I v.e] 104)=W0;have bp:ax w W0:=by rw[<-bj];exact cj _ _
 have fV:aQ W0 w.heap.size v.cells 104:=by rw[<-bj];exact cC w _
 have aS:=h.below bp;have nU:∀k (hk:k<5),W0.cell? (aa b (3+k))=av[k]?:=fun k hk=>by rw[aS.U.U.cell (3+k),KE h.hlen k hk]
 rw[vp]at nU;have c0:W0.cell? (aa b 3)=some v0:=nU 0 (by omega);have c1:W0.cell? (aa b 4)=some v1:=nU 1 (by omega);have c2:W0.cell? (aa b 5)=some v2:=nU 2 (by omega);have c3:W0.cell? (aa b 6)=some v3:=nU 3 (by omega);have c4:W0.cell? (aa b 7)=some v4:=nU 4 (by omega);have lj:=aS.U.U.lt;have wg:=h.U.U.lt;have cm:=J (R_ av v0 v1 v2 v3 v4 vp);have US:Hid (LH bg v w p b n i d aE st b8 tbs cX av aY 0 W0):=⟨⟨p,av,by rw[ain];exact aS,bA.dh bp,fun _ _=>rfl⟩,fV⟩;have aO:=J (⟨h.hlen,bI,jY,wg,h.xF⟩:_∧_∧_∧_∧_);have cz:Hid (∀r,r<=5->goN d.hs bg v r<=5500000):=fun r aJ=>by
  have h1:=Xh d.hs bg v r;have ae:=Nat.mul_le_mul aJ bI;omega
 have di:=J bj;clear h bI jY bp fV aS nU bj wg;go_enter func84,ntmps84;go_upto_region 2 with(fail);rw[di.o];go_wp2_with fail
 clear c0 c1 c2 c3 c4 lj di;go_loopw[5,6,7,8,13] (fun bw _ _ _ jA wr=>∃r:Nat,r<=5∧jA=I r∧bw=I (goN d.hs bg v r)∧Hid (LH bg v w p b n i d aE st b8 tbs cX av aY r wr)) (fun _ _ _ _ jA _=>5-(intOf jA).toNat)
 case atStart=>exact⟨0,ch,rfl,rfl,US.o⟩
 case round=>
  clear US;obtain⟨r,n4,rfl,rfl,cM⟩:=hrel;by_cases aJ:r<5
  ·obtain⟨hlen,bI,jY,wg,MP⟩:=aO.o
   have hF:r<av.length:=by rw[hlen];exact aJ
   obtain⟨⟨p',iq,h,ad,nA⟩,xJ⟩:=cM.o;have Na:r<iq.length:=by rw[h.hlen];exact aJ
   have mf:iq[r]=av[r]:=by
    have:=nA r cv;rw[hg hF,hg Na]at this;exact kt this
   have kS:(lY bg v r).gone r=bg.gone r:=by show(if r<r then _ else _)=_;rw[if_neg (Nat.lt_irrefl _)]
   have MT:=h.held r Na;rw[mf,kS]at MT;obtain⟨bb,dz,ei,fG⟩:=MT.ex;have bf:wr.ownsRow 0 139 8 av[r] bb.length (bb.flatMap ia):=ei.row;have mg:bb.length=(h8 d.hs r (bg.gone r)).length:=by have:=congrArg length dz;simpa using this
   have sj:=Gm d.hs r (bg.gone r);have zb:∀i (aq:i<bb.length),bb[i].1=cL ((h8 d.hs r (bg.gone r))[i]'(by omega)):=fun i aq=>by
    have:=congrArg (fun l=>l[i]?) dz;simp only[zK,hg aq,hg (show i<(h8 d.hs r (bg.gone r)).length by omega),Bo,Fm]at this;exact this
   have kb:goN d.hs bg v (r+1)=goN d.hs bg v r+s7 d.hs bg v r:=rfl;obtain⟨k,hk⟩:∃k,s7 d.hs bg v r=k:=⟨_,rfl⟩;rw[hk]at kb;have dU:k<=bb.length:=by rw[<-hk,mg];unfold s7;omega
   have wi:=Wh wr 0 v bb av[r] bf (by omega) (fun y b9=>by
    obtain⟨i,aq,rfl⟩:=fQ.1 b9;rw[zb i aq];have af:i<(h8 d.hs r (bg.gone r)).length:=by omega
    have aC:=tf d.hs r (bg.gone r);show(h8 d.hs r (bg.gone r))[i].rep.toNat<5
    rw[Ce af,(Ao h.ok.df r _ (by omega)).2,kL];exact aJ) k dU (fun i aq c=>by rw[zb i aq,Ma h.ok.df bg v i (by omega),hk];simpa using c) (fun i aq c=>by rw[zb i aq,Ma h.ok.df bg v i (by omega),hk];simpa using c)
   have mE:=cm.o r hF;have z0:=xJ.c0;have h0:=xJ.c1;have z2:=xJ.c2;have z3:=xJ.c3;have z4:=xJ.c4;have n0:=xJ.lt;have eA:=cz.o r n4;have e6:bb.length<=1100000:=by omega
   have GG:(bb.drop k).map Prod.fst=(h8 d.hs r ((lY bg v (r+1)).gone r)).map cL:=by
    have e:(lY bg v (r+1)).gone r=max (bg.gone r) (v.get r).toNat:=by show(if r<r+1 then _ else _)=_;rw[if_pos (Nat.lt_succ_self _)]
    rw[e];show _=(qo d.hs bg v r).map cL
    rw[<-Ot,hk,map_drop,dz,map_drop]
   have pn:=J wi;have akx:=Row.shape bf;obtain⟨cA,cap,oY,-⟩:=akx;by_cases vi:k=0
   ·have eV:=aim bg v d.hs r (by rw[hk,vi]) MP jY
    rw[vi,j3]at kb;have bX:Hid (∀an,ax wr an->LH bg v w p b n i d aE st b8 tbs cX av aY (r+1) an):=fun an aF=>by
     have jm:w.heap.size<=wr.heap.size:=ad.ay.size;exact⟨⟨p',iq,by rw[eV];exact h.below aF,ad.trans (bA.dh aF),fun s hs=>nA s (by omega)⟩,xJ.below aF⟩
    rw[oY]at mE pn;subst vi;have LB:=J kb;clear h ad nA xJ MT dz ei fG bf mg zb wi GG eV MP jY mf cM kb kS;go_wp2_with(go_at_call 121;refine pn.o.mono ?_;rintro e an ⟨rfl,aF⟩;have dF:=J aF;clear aF)
    exact⟨⟨r+1,by omega,by go_num,by rw[LB.o];rfl,bX.o _ dF.o⟩,by simp[intOf];omega⟩
   ·obtain⟨g,F0,Y2,Yb,-,aM,j_,-⟩:=Row.pos bf (by omega)
    rw[oY]at Y2;injection Y2 with eH b6 Qk
    subst eH Qk;have fh:∀(an:World) (aF:ax wr an) j u,((bb.drop k).flatMap ia)[j]?=some u->an.cell? (((aa g (k*8)):Addr).add j)=some u:=fun an aF j u hu=>by
     have e:=Qt ia 8 (fun _=>rfl) bb k;rw[e,getElem?_drop]at hu;have br:k*8+j<bb.length*8:=by
      have:=(w8.1 hu).1;rw[Ap ia 8 (fun _=>rfl)]at this;exact this
     have a:=j_ (k*8+j) br;rw[hu]at a;have ba:((aa g (k*8)):Addr).add j=(aa g (k*8+j)):=by rw[Bj]
     rw[ba];exact bZ aF a
    have IX:∀u∈(bb.drop k).flatMap ia,u.oneCell'=true:=fun u hu=>by
     obtain⟨y,-,b9⟩:=uD.1 hu;simp only[ia,h3,not_mem_nil,or_false]at b9;rcases b9 with rfl|rfl|rfl|rfl|rfl|rfl|rfl|rfl<;>rfl
    have ij:((bb.drop k).flatMap ia).length=(bb.length-k)*8:=by rw[Ap ia 8 (fun _=>rfl),length_drop]
    have qB:=J (⟨fh,IX,ij⟩:_∧_∧_);have bX:Hid (∀an,ax wr an->∀w5 aN,an.drew.grownBy w5 none->(aN.ownBlock=none∨aN.ownBlock=some an.drew.heap.size)->Row w5 139 8 aN (bb.length-k) ((bb.drop k).flatMap ia)->LH bg v w p b n i d aE st b8 tbs cX av aY (r+1) (w5.setCell (aa b (3+r)) aN)):=fun an aF w5 aN xR vm vn=>by
     have jm:w.heap.size<=wr.heap.size:=ad.ay.size;have c7:ax wr w5:=aF.grown (row:=none) ⟨xR.os,xR.tape,xR.output,xR.size,xR.block⟩ aF.size (fun q e=>by cases e);have aku:Row w5 139 8 aN (bb.drop k).length ((bb.drop k).flatMap ia):=by rw[length_drop];exact vn
     obtain⟨cO,a2⟩:=h.al_ (x':=lY bg v (r+1)) (w5:=w5) aJ c7 rfl (fun s hs=>by
      show(if s<r+1 then _ else _)=(if s<r then _ else _)
      by_cases c:s<r
      ·rw[if_pos c,if_pos (by omega)]
      ·rw[if_neg c,if_neg (by omega)]) (by
      show(if r<r+1 then _ else _)<=_
      rw[if_pos (Nat.lt_succ_self _)];have:=MP r;have:=jY r;omega) GG (fun y b9=>fG y (Db b9)) aku (fun q ad=>by
      rcases vm with e|e
      ·rw[e]at ad;cases ad
      ·rw[e]at ad
       have h1:an.drew.heap.size=q:=kt ad;have ae:an.drew.heap.size=an.heap.size:=rfl;have:=aF.size;omega)
     refine⟨⟨_,_,cO,ad.trans a2,fun s hs=>?_⟩,?_⟩
     ·rw[getElem?_set_ne (by omega)]
      exact nA s (by omega)
     ·exact(xJ.below c7).other (by show w.heap.size≠b;omega) _
    have cD:Hid (∀an,ax wr an->∀w5,an.drew.grownBy w5 none->w5.cell? (aa b (3+r))=some av[r]∧w5.frozen? (aa b (3+r))=false∧b<w5.heap.size):=fun an aF w5 xR=>by
     have c7:ax wr w5:=aF.grown (row:=none) ⟨xR.os,xR.tape,xR.output,xR.size,xR.block⟩ aF.size (fun q e=>by cases e);have ow:=h.U.below c7;refine⟨?_,ow.U.frozen _,ow.U.lt⟩;rw[ow.U.cell (3+r),KE h.hlen r aJ,<-mf,hg Na]
    have LB:=J kb;have UH:=J Yb;rw[oY]at mE pn cD;have aP:¬(r:Int)<0:=by omega
    have ba:(r:Int)<5:=by omega
    have ey:(0:Int)<k:=by omega
    have xK:=h.U.U.lt;generalize goN d.hs bg v r=IQ at*;clear h ad nA xJ MT dz ei fG bf mg zb wi GG MP jY mf cM kb kS fh IX ij j_ sj hk oY Yb;by_cases oT:cap=k
    ·as_aux_lemma=>
      have Lo:Hid (bb.length=cap):=(by have:=UH.o;omega:bb.length=cap);subst oT;have lB:Hid (([]:List Value).length=(bb.length-cap)*8):=by have:=Lo.o;show 0=(bb.length-cap)*8;omega
      go_upto_region 8 with(go_at_call 121;refine pn.o.mono ?_;rintro e an ⟨rfl,aF⟩;have dF:=J aF;clear aF);clear z0 h0 z2 z3 z4 n0 pn mE;have ai5:b<an.heap.size:=hV xK dF.o.size;go_region_held3(fun W=>b<W.heap.size) (go_keep) ((refine q6 rfl _ _ 106 rfl 139 i0 (.agg #[I 0,I 0,I 0,I 0,I 0,I 0,I 0,.map none]) 8 64 underlying106 cw.o.1 cw.o.2.1 cw.o.2.2.1 cw.o.2.2.2 rfl (by decide) (.slice none 0 0) 0 [] rfl (jD _ _ _ _) (aa g 0) (bb.length-cap) 0 [] (by simp[Act.eval]) lB.o (by intro j u af;simp at af) (by simp) (by unfold maxLen;omega) (by omega) ?_;intro v5 w5 cB b_ dW;rw[vF,w1]at cB;obtain⟨cI,dq,eW⟩:=cD.o _ dF.o w5 b_;obtain⟨afA,t_,rfl,-⟩:=Row.shape cB;have rj:=J (⟨cB,b_,dW⟩:_∧_∧_);clear cB b_ dW))
      all_goals go_wp2_with fail
      all_goals
       obtain⟨cB,b_,dW⟩:=rj.o;have y2:=Lo.o;have AE:(bb.drop cap).flatMap ia=[]:=by rw[drop_eq_nil_of_le (by omega)];rfl
       refine⟨⟨r+1,by omega,by go_num,by rw[LB.o];go_num,bX.o _ dF.o _ _ b_ dW ?_⟩,by simp[intOf];omega⟩;rw[AE];exact cB
    ·as_aux_lemma=>
      have asf:k<cap:=by have:=UH.o;omega
      go_upto_region 8 with(go_at_call 121;refine pn.o.mono ?_;rintro e an ⟨rfl,aF⟩;have dF:=J aF;clear aF);clear z0 h0 z2 z3 z4 n0 pn mE;have ai5:b<an.heap.size:=hV xK dF.o.size;go_region_held3(fun W=>b<W.heap.size) (go_keep) ((refine q6 rfl _ _ 106 rfl 139 i0 (.agg #[I 0,I 0,I 0,I 0,I 0,I 0,I 0,.map none]) 8 64 underlying106 cw.o.1 cw.o.2.1 cw.o.2.2.1 cw.o.2.2.2 rfl (by decide) (.slice none 0 0) 0 [] rfl (jD _ _ _ _) (aa g (k*8)) (bb.length-k) (cap-k) ((bb.drop k).flatMap ia) (by simp[Act.eval]) qB.o.2.2 (by exact qB.o.1 _ dF.o.drew) qB.o.2.1 (by unfold maxLen;omega) (by omega) ?_;intro v5 w5 cB b_ dW;rw[vF,w1]at cB;obtain⟨cI,dq,eW⟩:=cD.o _ dF.o w5 b_;obtain⟨afA,t_,rfl,-⟩:=Row.shape cB;have rj:=J (⟨cB,b_,dW⟩:_∧_∧_);clear cB b_ dW))
      all_goals go_wp2_with fail
      all_goals
       obtain⟨cB,b_,dW⟩:=rj.o;refine⟨⟨r+1,by omega,by go_num,by rw[LB.o];go_num,bX.o _ dF.o _ _ b_ dW ?_⟩,by simp[intOf];omega⟩;exact cB
  ·have uv:r=5:=by omega
   subst uv;go_wp2_with fail
   go_ret;obtain⟨⟨p',iq,h,ad,nA⟩,xJ⟩:=cM.o;exact⟨rfl,p',iq,h,ad⟩
def oB (hs:List aT)(x:dD):Nat->Nat
 |0=>0
 |r+1=>oB hs x r+(h8 hs r (x.gone r)).length
theorem Yq (hs:List aT)(x:dD):∀r,oB hs x r<=r*hs.length
 |0=>by simp[oB]
 |r+1=>by
  have h1:=Yq hs x r;have ae:=Gm hs r (x.gone r);unfold oB;rw[w4];omega
theorem Qa {w:World}{p:Nat->Own}{b n i:Nat}{d:aZ}{aE:Nat}{st:b5}{b8 tbs cX:Nat->Nat}{av aY:List Value}(h:fH bg w p b n i d aE st b8 tbs cX av aY)(bI:d.hs.length<=1100000):
  Calls prog 83 #[.pointer (some (aa b 3))] w (bx (I (oB d.hs bg 5)) fun w'=>w'=w):=by
 obtain⟨v0,v1,v2,v3,v4,vp⟩:∃v0 v1 v2 v3 v4,av=[v0,v1,v2,v3,v4]:=by
  have:=h.hlen;match av,this with
  |[a,b,c,d,e],_=>exact⟨a,b,c,d,e,rfl⟩
 have nU:∀k (hk:k<5),w.cell? (aa b (3+k))=av[k]?:=fun k hk=>by rw[h.U.U.cell (3+k),KE h.hlen k hk]
 rw[vp]at nU;have c0:w.cell? (aa b 3)=some v0:=nU 0 (by omega);have c1:w.cell? (aa b 4)=some v1:=nU 1 (by omega);have c2:w.cell? (aa b 5)=some v2:=nU 2 (by omega);have c3:w.cell? (aa b 6)=some v3:=nU 3 (by omega);have c4:w.cell? (aa b 7)=some v4:=nU 4 (by omega);have lj:=h.U.U.lt;have cm:=J (R_ av v0 v1 v2 v3 v4 vp);have dn:Hid (∀r (aJ:r<av.length),∃cA jV,av[r]= .slice cA (h8 d.hs r (bg.gone r)).length jV):=fun r aJ=>by
  obtain⟨bb,dz,ei,fG⟩:=(h.held r aJ).ex;have mg:bb.length=(h8 d.hs r (bg.gone r)).length:=by have:=congrArg length dz;simpa using this
  obtain⟨cA,jV,e,-⟩:=Row.shape ei.row;exact⟨cA,jV,by rw[e,mg]⟩
 have zQ:Hid (av.length=5):=h.hlen;have cz:Hid (∀r,r<=5->oB d.hs bg r<=5500000):=fun r aJ=>by
  have h1:=Yq d.hs bg r;have ae:=Nat.mul_le_mul aJ bI;omega
 have gO:Hid (∀r,(h8 d.hs r (bg.gone r)).length<=1100000):=fun r=>fx (Gm _ _ _) bI
 clear h bI nU;go_enter func83,ntmps83;go_wp2_with fail
 clear c0 c1 c2 c3 c4 lj;go_loopw[3,10] (fun b4 jA wr=>∃r:Nat,r<=5∧jA=I r∧b4=I (oB d.hs bg r)∧wr=w) (fun _ jA _=>5-(intOf jA).toNat)
 case atStart=>exact⟨0,ch,rfl,rfl,rfl⟩
 case round=>
  obtain⟨r,n4,rfl,rfl,rfl⟩:=hrel;by_cases aJ:r<5
  ·have hF:r<av.length:=by rw[zQ.o];exact aJ
   have mE:=cm.o r hF;obtain⟨cA,jV,e⟩:=dn.o r hF;rw[e]at mE;have cp:Hid (oB d.hs bg (r+1)=oB d.hs bg r+(h8 d.hs r (bg.gone r)).length):=rfl;have eA:=cz.o r n4;have e6:=gO.o r;generalize (h8 d.hs r (bg.gone r)).length=m at mE cp e6;generalize oB d.hs bg r=k at cp eA;go_wp2_with fail
   exact⟨⟨r+1,by omega,by go_num,by rw[cp.o];go_num,trivial⟩,by simp[intOf];omega⟩
  ·have M9:r=5:=by omega
   subst M9;go_wp2_with fail
   go_ret;exact⟨rfl,rfl⟩
theorem ajh {w:World}{p:Nat->Own}{b n i:Nat}{d:aZ}(h:gP bg w p b n i d)(bI:d.hs.length<=1100000):
  Calls prog 46 #[bl b] w (bx (I (oB d.hs bg 5)) fun w'=>w'=w):=by
 obtain⟨aE,st,b8,tbs,cX,av,aY,h⟩:=h;have lj:=h.U.U.lt;have dj:=J (Qa h bI);generalize oB d.hs bg 5=k at dj;clear h bI;go_enter func46,ntmps46;go_wp2_with(go_at_call 83;refine dj.o.mono ?_;rintro e an ⟨rfl,rfl⟩)
 go_ret;exact⟨rfl,rfl⟩
end Go.Proofs.YtiplgdkpnhamaaaGreatDoor.Tv
namespace Go.Proofs.YtiplgdkpnhamaaaGreatDoor
open Go.Proofs.Tryz List
open Go.RowKit
def aW.meet (v o:aW):aW:=⟨min v.a o.a,min v.b o.b,min v.c o.c,min v.d o.d,min v.e o.e⟩
def aW.GU (v o:aW)(k:Nat):aW:=⟨if 0<k then min v.a o.a else v.a,if 1<k then min v.b o.b else v.b,if 2<k then min v.c o.c else v.c,if 3<k then min v.d o.d else v.d,if 4<k then min v.e o.e else v.e⟩
theorem aaC (v o:aW){k:Nat}(hk:k<5):(v.GU o k).cells[k]?=some (I (v.get k))∧(v.GU o k).cells.set k (I (min (v.get k) (o.get k)))=(v.GU o (k+1)).cells:=by
 have:k=0∨k=1∨k=2∨k=3∨k=4:=by omega
 rcases this with rfl|rfl|rfl|rfl|rfl<;>exact⟨rfl,rfl⟩
theorem amq (w:World)(v o:aW):Calls prog 131 #[v.val,o.val] w fun e w'=>e= .returned (v.meet o).val∧ax w w':=by
 generalize bj:((w.alloc (.cells #[I v.a,I v.b,I v.c,I v.d,I v.e] 104)).alloc (.cells #[I o.a,I o.b,I o.c,I o.d,I o.e] 104)).alloc (.cells #[I 0,I 0,I 0,I 0,I 0] 104)=W0;have bp:ax w W0:=by rw[<-bj];exact(((cj _ _)).alloc (by simp) _).alloc (by simp;omega) _
 have dc:aQ W0 w.heap.size (v.GU o 0).cells 104:=by
  rw[<-bj];exact(aQ.alloc (aQ.alloc (cC w _) _) _)
 have c6:aQ W0 (w.heap.size+1+1) [I 0,I 0,I 0,I 0,I 0] 104:=by
  rw[<-bj,show w.heap.size+1+1=((w.alloc (.cells #[I v.a,I v.b,I v.c,I v.d,I v.e] 104)).alloc (.cells #[I o.a,I o.b,I o.c,I o.d,I o.e] 104)).heap.size by simp];exact cC _ _
 have aL:=J (⟨bp,dc,c6⟩:_∧_∧_);have di:=J bj;clear bj bp dc c6;go_enter func131,ntmps131;go_wp2_with fail
 rw[di.o];clear di;go_loopw[5,6,8] (fun _ _ ii wr=>∃k:Nat,k<=5∧ii=I k∧Hid (ax w wr∧aQ wr w.heap.size (v.GU o k).cells 104∧aQ wr (w.heap.size+1+1) [I 0,I 0,I 0,I 0,I 0] 104)) (fun _ _ ii _=>5-(intOf ii).toNat)
 case atStart=>exact⟨0,ch,rfl,aL.o⟩
 case round=>
  clear aL;obtain⟨k,hk,rfl,bc⟩:=hrel;by_cases br:k<5
  ·have au:=EF o k br
   have c0:wr.cell? (aa (w.heap.size) k)=some (I (v.get k)):=by rw[bc.o.2.1.cell k];exact(aaC v o br).1
   have f0:=bc.o.2.1.frozen k;have g1:(k:Int)<5:=by omega
   have cp:Hid (ax w (wr.setCell (aa (w.heap.size) k) (I (min (v.get k) (o.get k))))∧aQ (wr.setCell (aa (w.heap.size) k) (I (min (v.get k) (o.get k)))) w.heap.size (v.GU o (k+1)).cells 104∧aQ (wr.setCell (aa (w.heap.size) k) (I (min (v.get k) (o.get k)))) (w.heap.size+1+1) [I 0,I 0,I 0,I 0,I 0] 104):=
    ⟨bc.o.1.setCell (p:=(aa (w.heap.size) k)) cv _,by rw[<-(aaC v o br).2];exact bc.o.2.1.set k _,bc.o.2.2.other (by show w.heap.size+1+1≠w.heap.size;omega) _⟩
   generalize v.get k=E7 at*;generalize o.get k=ok at*;go_wp2_with fail
   exact⟨⟨k+1,by omega,by go_num,cp.o⟩,by simp[intOf];omega⟩
  ·have kT:k=5:=by omega
   subst kT;have d0:eh wr (w.heap.size) 0 (I (min v.a o.a)):=bc.o.2.1.cell 0;have d1:eh wr (w.heap.size) 1 (I (min v.b o.b)):=bc.o.2.1.cell 1;have d2:eh wr (w.heap.size) 2 (I (min v.c o.c)):=bc.o.2.1.cell 2;have d3:eh wr (w.heap.size) 3 (I (min v.d o.d)):=bc.o.2.1.cell 3;have d4:eh wr (w.heap.size) 4 (I (min v.e o.e)):=bc.o.2.1.cell 4;have eE:eh wr (w.heap.size+1+1) 0 (I 0):=bc.o.2.2.cell 0;have cB:eh wr (w.heap.size+1+1) 1 (I 0):=bc.o.2.2.cell 1;have b_:eh wr (w.heap.size+1+1) 2 (I 0):=bc.o.2.2.cell 2;have dW:eh wr (w.heap.size+1+1) 3 (I 0):=bc.o.2.2.cell 3;have iw:eh wr (w.heap.size+1+1) 4 (I 0):=bc.o.2.2.cell 4;have eY:wr.frozen? (aa (w.heap.size+1+1) 0)=false:=bc.o.2.2.frozen 0;have q1:wr.frozen? (aa (w.heap.size+1+1) 1)=false:=bc.o.2.2.frozen 1;have dy:wr.frozen? (aa (w.heap.size+1+1) 2)=false:=bc.o.2.2.frozen 2;have fE:wr.frozen? (aa (w.heap.size+1+1) 3)=false:=bc.o.2.2.frozen 3;have hf:wr.frozen? (aa (w.heap.size+1+1) 4)=false:=bc.o.2.2.frozen 4;go_wp2_with fail
   have cJ:=Kt (v.meet o) bc.o.2.2;have eO:=Ku wr (w.heap.size+1+1) (v.meet o);unfold ET at cJ eO;simp only[aW.meet]at cJ eO;generalize World.setCell _ _ _=fY at*;have cY:eh fY (w.heap.size+1+1) 0 (I (min v.a o.a)):=cJ.cell 0;have s1:eh fY (w.heap.size+1+1) 1 (I (min v.b o.b)):=cJ.cell 1;have s2:eh fY (w.heap.size+1+1) 2 (I (min v.c o.c)):=cJ.cell 2;have fX:eh fY (w.heap.size+1+1) 3 (I (min v.d o.d)):=cJ.cell 3;have hI:eh fY (w.heap.size+1+1) 4 (I (min v.e o.e)):=cJ.cell 4;exact iX (v:=(v.meet o).val) (by simp[results,results131,go_sem,cY,s1,s2,fX,hI,aW.meet]) rfl ⟨rfl,qH bc.o.1 eO (by omega) bc.o.1.size⟩
end Go.Proofs.YtiplgdkpnhamaaaGreatDoor
namespace Go.Proofs.YtiplgdkpnhamaaaGreatDoor.Tv
open Go.Proofs.Tryz List
open Go.RowKit
variable {b i n:Nat}{d:aZ}{o:Nat->Tag}{p:Nat->Own}{t:Tag}{w:World}{x bg:dD}
def iz (x:dD)(i:Nat)(v:aW):Nat->aW
 |0=>v
 |k+1=>if k=i then iz x i v k else(iz x i v k).meet (x.aY k)
theorem aaD (v o:aW)(k:Nat):(v.meet o).get k=min (v.get k) (o.get k):=by
 match k with
 |0|1|2|3|4=>rfl
 |k+5=>
  have e:∀u:aW,u.get ((k+5:Nat):Int)=0:=fun u=>by
   unfold aW.get;rw[kL];rfl
  rw[e,e,e];rfl
theorem WM (x:dD)(i:Nat)(v:aW)(r:Nat):∀n,(iz x i v n).get r<=v.get r∧∀k,k<n->k≠i->(iz x i v n).get r<=(x.aY k).get r
 |0=>⟨re _,fun k hk=>absurd hk (De _)⟩
 |n+1=>by
  obtain⟨a,b⟩:=WM x i v r n;unfold iz;by_cases c:n=i
  ·rw[if_pos c]
   refine⟨a,fun k hk bS=>b k (by omega) bS⟩
  ·rw[if_neg c,aaD]
   refine⟨by omega,fun k hk bS=>?_⟩;by_cases c2:k=n
   ·subst c2;omega
   ·have:=b k (by omega) bS
    omega
structure HI (w:World)(cg:Nat)(v:aW)(wr:World):Prop where
 cZ:ax w wr
 box:aQ wr cg v.cells 104
 res:aQ wr w.heap.size [I 0,I 0,I 0,I 0,I 0] 104
theorem ahB {aE:Nat}{st:b5}{b8 tbs cX:Nat->Nat}{av aY:List Value}(h:fH bg w p b n i d aE st b8 tbs cX av aY):
  Calls prog 85 #[bl b] w fun e w'=>e= .returned (iz bg i (bJ d.ag) n).val∧ax w w':=by
 have b2:=h.ok.df.n5;have aq:=h.ok.aq;generalize bj:w.alloc (.cells #[I 0,I 0,I 0,I 0,I 0] 104)=W0;have bp:ax w W0:=by rw[<-bj];exact cj _ _
 have fV:aQ W0 w.heap.size [I 0,I 0,I 0,I 0,I 0] 104:=by rw[<-bj];exact cC w _
 have aS:=h.below bp;obtain⟨-,-,c2⟩:=aS.cellOf;have rM:=aS.Ub;generalize bJ d.ag=v at*;have ff:=J rM;have di:=J bj;have aO:=J (⟨h,bp,fV⟩:_∧_∧_);have lj:=aS.U.U.lt;clear h bp fV aS rM bj;go_enter func85,ntmps85;go_upto_region 1 with(fail);rw[di.o];clear di;go_upto_region 2 with(go_at_call 57;refine ff.o.mono ?_;rintro e an ⟨rfl,aF⟩;have dF:=J aF;clear aF);generalize fg:World.alloc an _=W2;have bP:ax an W2:=by rw[<-fg];exact cj _ _
 have sf:ax w W2:=(aO.o.2.1.trans (dF.o.mono aO.o.2.1.size)).trans (bP.mono (by have:=aO.o.2.1.size;have:=dF.o.size;omega));have cM:Hid (HI w an.heap.size (iz bg i v 0) W2):=⟨sf,by rw[<-fg];exact cC an _,(aO.o.2.2.below dF.o).below bP⟩;have ZF:w.heap.size<an.heap.size:=(aO.o.2.2.below dF.o).lt;obtain⟨-,d1,-⟩:=(aO.o.1.below sf).cellOf;have dz:=aR.cell d1;have ajQ:=(aO.o.1.below sf).U.U.lt;generalize an.heap.size=cg at*;clear fg bP sf d1 dF ff c2 lj;have g1:¬(n:Int)<0:=by omega
 have g2:(n:Int)<=5:=by omega
 have g3:¬(5:Int)<n:=by omega
 refine qm (aR W2) (by kernel_rfl) (by kernel_rfl) (cE).drew ?_;repeat(go_big_quiet_step (fail))
 refine gG ?_;intro _ ds;obtain⟨fq,rfl⟩:=ds;obtain⟨bN,b0⟩:=fq;try dsimp only
 have Uy:Hid (HI w cg (iz bg i v 0) bN):=⟨cM.o.cZ.trans (b0.mono cM.o.cZ.size),cM.o.box.below b0,cM.o.res.below b0⟩;clear cM b0 dz ajQ;go_wp2_with fail
 go_loopw[4,5,20] (fun _ _ ah wr=>∃k:Nat,k<=n∧ah=I k∧Hid (HI w cg (iz bg i v k) wr)) (fun _ _ ah _=>n-(intOf ah).toNat)
 case atStart=>exact⟨0,ch,rfl,Uy.o⟩
 case round=>
  clear Uy;obtain⟨k,hk,rfl,bc⟩:=hrel;by_cases iA:k<n
  ·as_aux_lemma=>
    have h1:=aO.o.1.below bc.o.cZ;obtain⟨u,hu⟩:∃u,bg.aY k=u:=⟨_,rfl⟩;have p3:∀m,m<5->wr.cell? (aa b (8+k*5+m))=some (I (u.get m)):=fun m hm=>by
     rw[h1.U.U.cell,show 8+k*5+m=8+(k*5+m) by omega,ab3 h1.hlen h1.lL (by omega),h1.known,NA _ (by omega) hm,hu]
    have ek:wr.cell? (aa b (8+k*5))=some (I u.a):=p3 0 (by omega);have cI:wr.cell? (aa b (8+k*5+1))=some (I u.b):=p3 1 (by omega);have dq:wr.cell? (aa b (8+k*5+2))=some (I u.c):=p3 2 (by omega);have eW:wr.cell? (aa b (8+k*5+3))=some (I u.d):=p3 3 (by omega);have fo:wr.cell? (aa b (8+k*5+4))=some (I u.e):=p3 4 (by omega);obtain⟨c0,-,-⟩:=h1.cellOf;have lj:=h1.U.U.lt;have asJ:(k:Int)<n:=by omega
    obtain⟨v1,kW⟩:∃v1,iz bg i v k=v1:=⟨_,rfl⟩;have aL:Hid (iz bg i v (k+1)=if k=i then v1 else v1.meet u):=by
     show(if k=i then iz bg i v k else(iz bg i v k).meet (bg.aY k))=_
     rw[kW,hu]
    rw[kW]at bc;clear p3 h1 hu kW;by_cases tk:k=i
    ·as_aux_lemma=>
      subst tk;go_wp2_with fail
      refine⟨⟨k+1,by omega,by go_num,?_⟩,by simp[intOf];omega⟩;have hX:ax wr (wr.alloc (.cells #[I u.a,I u.b,I u.c,I u.d,I u.e] 104)):=cj _ _;have e:=aL.o;rw[if_pos rfl]at e;rw[e];exact⟨bc.o.cZ.trans (hX.mono bc.o.cZ.size),bc.o.box.below hX,bc.o.res.below hX⟩
    ·as_aux_lemma=>
      have asI:¬(k:Int)=i:=by omega
      go_upto_region 6 with(fail);generalize we:World.alloc wr _=ie;have hX:ax wr ie:=by rw[<-we];exact cj _ _
      have fZ:aQ ie wr.heap.size u.cells 104:=by rw[<-we];exact cC wr _
      have cd:Hid (HI w cg v1 ie):=⟨bc.o.cZ.trans (hX.mono bc.o.cZ.size),bc.o.box.below hX,bc.o.res.below hX⟩;have c8:=cd.o.box.c0;have dr:=cd.o.box.c1;have en:=cd.o.box.c2;have d_:=cd.o.box.c3;have ev:=cd.o.box.c4;have dm:=fZ.c0;have dz:=fZ.c1;have ei:=fZ.c2;have fG:=fZ.c3;have ib:=fZ.c4;have amh:=cd.o.box.lt;have ami:=fZ.lt;clear bc we hX fZ ek cI dq eW fo c0 lj;generalize wr.heap.size=aV at*;go_wp2_with fail
      refine(amq ie v1 u).mono ?_;rintro e w5 ⟨rfl,c7⟩;have cR:Hid (HI w cg v1 w5):=⟨cd.o.cZ.trans (c7.mono cd.o.cZ.size),cd.o.box.below c7,cd.o.res.below c7⟩;have fr:Hid (iz bg i v (k+1)=v1.meet u):=by
       have e:=aL.o;rw[if_neg tk]at e;exact e
      generalize v1.meet u=v2 at*;have z0:=cR.o.box.c0;have h0:=cR.o.box.c1;have z2:=cR.o.box.c2;have z3:=cR.o.box.c3;have z4:=cR.o.box.c4;have f0:=cR.o.box.frozen 0;have f1:=cR.o.box.frozen 1;have f2:=cR.o.box.frozen 2;have f3:=cR.o.box.frozen 3;have f4:=cR.o.box.frozen 4;have atC:=cR.o.box.lt;clear cd c7 c8 dr en d_ ev dm dz ei fG ib amh ami aL;go_wp2_with fail
      refine⟨⟨k+1,by omega,by go_num,?_⟩,by simp[intOf];omega⟩;have cJ:=Kt v2 cR.o.box;have eO:=Ku w5 cg v2;unfold ET at cJ eO;rw[fr.o];exact⟨qH cR.o.cZ eO (by omega) cR.o.cZ.size,cJ,cR.o.res.ay eO (by show w.heap.size≠cg;omega)⟩
  ·as_aux_lemma=>
    have mG:k=n:=by omega
    subst mG;obtain⟨v1,kW⟩:∃v1,iz bg i v k=v1:=⟨_,rfl⟩;rw[kW]at bc;have aeT:=J kW;clear kW;have d0:=bc.o.box.c0;have d1:=bc.o.box.c1;have d2:=bc.o.box.c2;have d3:=bc.o.box.c3;have d4:=bc.o.box.c4;have eE:=bc.o.res.c0;have cB:=bc.o.res.c1;have b_:=bc.o.res.c2;have dW:=bc.o.res.c3;have iw:=bc.o.res.c4;have eY:=bc.o.res.frozen 0;have q1:=bc.o.res.frozen 1;have dy:=bc.o.res.frozen 2;have fE:=bc.o.res.frozen 3;have hf:=bc.o.res.frozen 4;have nZ:=bc.o.res.lt;have oY:=bc.o.box.lt;go_wp2_with fail
    have cJ:=Kt v1 bc.o.res;have eO:=Ku wr w.heap.size v1;unfold ET at cJ eO;generalize World.setCell _ _ _=fY at*;have cY:=cJ.c0;have s1:=cJ.c1;have s2:=cJ.c2;have fX:=cJ.c3;have hI:=cJ.c4;exact iX (v:=v1.val) (by simp[results,results85,go_sem,cY,s1,s2,fX,hI]) rfl ⟨by rw[aeT.o],qH bc.o.cZ eO cv bc.o.cZ.size⟩
theorem aqh (hn:n<=5)(hs:List aT)(r:Nat):(bJ (cb n hs)).get r<=(e1 hs r:Int):=by
 rw[pS (by rw[kH];exact hn),kL];by_cases c:r<n
 ·rw[k2 c];omega
 ·rw[uB (by omega)];omega
theorem WL (hn:n<=5)(x:dD)(i:Nat)(hs:List aT)(m r:Nat):((iz x i (bJ (cb n hs)) m).get r).toNat<=e1 hs r:=by
 have h1:=(WM x i (bJ (cb n hs)) r m).1;have ae:=aqh hn hs r;omega
theorem anw (h:gP bg w p b n i d)(bI:d.hs.length<=1100000):
  Calls prog 47 #[bl b] w (bx (I (goN d.hs bg (iz bg i (bJ (cb n d.hs)) n) 5)) fun w'=>∃p',gP (lY bg (iz bg i (bJ (cb n d.hs)) n) 5) w' p' b n i d∧bA (fun t=>t=Own.rep) w p w' p'):=by
 obtain⟨aE,st,b8,tbs,cX,av,aY,h⟩:=h;have b2:=h.ok.df.n5;have lj:=h.U.U.lt;have Yu:∀W,ax w W->Calls prog 85 #[bl b] W fun e w'=>e= .returned (iz bg i (bJ (cb n d.hs)) n).val∧ax w w':=fun W ao=>by
  have a:=ahB (h.below ao);rw[h.ok.ag]at a;exact a.mono fun e w' ⟨h1,ae⟩=>⟨h1,ao.trans (ae.mono ao.size)⟩
 have Rr:∀an,ax w an->Calls prog 84 #[.pointer (some (aa b 3)),(iz bg i (bJ (cb n d.hs)) n).val] an (bx (I (goN d.hs bg (iz bg i (bJ (cb n d.hs)) n) 5)) fun w'=>∃p',gP (lY bg (iz bg i (bJ (cb n d.hs)) n) 5) w' p' b n i d∧bA (fun t=>t=Own.rep) w p w' p'):=fun an ao=>by
  refine(ama (h.below ao) bI (iz bg i (bJ (cb n d.hs)) n) fun s=>WL b2 _ _ _ _ _).mono ?_;rintro e w' ⟨rfl,p',iq,h1,ae⟩;exact⟨rfl,p',⟨aE,st,b8,tbs,cX,iq,aY,h1⟩,(bA.dh ao).trans ae⟩
 generalize iz bg i (bJ (cb n d.hs)) n=v at*;generalize goN d.hs bg v 5=IQ at*;have bX:=J Yu;have dn:=J Rr;clear Yu Rr h bI;go_enter func47,ntmps47;go_upto_region 1 with(fail);go_region_with(first|(go_at_call 85;refine(bX.o _ (cE).drew).mono ?_;rintro e an ⟨rfl,aF⟩;have dF:=J aF;clear aF)|(go_at_call 84;refine(dn.o _ dF.o).mono ?_;rintro e w2 ⟨rfl,jW⟩;have aez:=J jW;clear jW))
 all_goals go_wp2_with fail
 all_goals go_ret
 all_goals exact⟨rfl,aez.o⟩
theorem anz (h:aX x w o t b n i d)(bI:d.hs.length<=1100000):
  Calls prog 47 #[bl b] w (bx (I (goN d.hs x (iz x i (bJ (cb n d.hs)) n) 5)) fun w'=>∃o',aX (lY x (iz x i (bJ (cb n d.hs)) n) 5) w' o' t b n i d∧ct (·=t) w o w' o'):=by
 obtain⟨p,h1,ae⟩:=h;refine(anw ae bI).mono ?_;rintro e w' ⟨rfl,p',a,c⟩;exact⟨rfl,aX.OW h1 a (c.mono fun u hu=>by rw[hu];intro e;cases e)⟩
theorem aji (h:aX x w o t b n i d)(bI:d.hs.length<=1100000):
  Calls prog 46 #[bl b] w (bx (I (oB d.hs x 5)) fun w'=>w'=w):=by
 obtain⟨p,h1,ae⟩:=h;exact ajh ae bI
end Go.Proofs.YtiplgdkpnhamaaaGreatDoor.Tv
