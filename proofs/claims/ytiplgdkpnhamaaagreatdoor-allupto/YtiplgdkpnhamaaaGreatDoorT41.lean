import Derived.Test.YtiplgdkpnhamaaaGreatDoorT35
import Derived.Test.YtiplgdkpnhamaaaGreatDoorT37
set_option maxHeartbeats 4000000
set_option maxRecDepth 100000
namespace Go.Proofs.YtiplgdkpnhamaaaGreatDoor
open Go.Proofs.Tryz List
open Go.RowKit
theorem alU (ah bw:Value)(w:World)(o:Nat->Tag)(s i b n:Nat)(d:aZ)(aY:Nat->List Int)(gone:List Int)(h:lD ah bw w o s i b n d)(cx:nR w o s i n ah bw aY gone)(hn:1<=n)(b2:n<=5)
  (bv:∀r,0<=d.ag.getD r 0∧d.ag.getD r 0<=2000000)(qJ:∀r,0<=gone.getD r 0∧gone.getD r 0<=2000000):
  Calls prog 95 #[.pointer (some (aa b 0))] w (bx (I (lK d.ag gone n)) fun w'=>ax w w'):=by
 obtain⟨bD,v,xs,h⟩:=h;have av:=h.ag.row;rw[h.len]at av;exact TB w b n bD bw d.ag gone h.len cx.F9 hn b2 h.U.U.lt (h.U.U.cell 1) (h.U.U.cell 4) av cx.uf.row bv qJ
theorem alV (ah bw:Value)(w:World)(o:Nat->Tag)(s i b n:Nat)(d:aZ)(aY:Nat->List Int)(gone:List Int)(h:lD ah bw w o s i b n d)(cx:nR w o s i n ah bw aY gone)(hn:1<=n)(b2:n<=5)
  (bv:∀r,0<=d.ag.getD r 0∧d.ag.getD r 0<=2000000)(qJ:∀r,0<=gone.getD r 0∧gone.getD r 0<=2000000):
  Calls prog 94 #[.pointer (some (aa b 0))] w (bx (I (lK d.ag gone n-lK d.ag (fB gone (kZ aY i n d.ag) n) n)) fun w'=>lD ah bw w' o s i b n d∧nR w' o s i n ah bw aY (fB gone (kZ aY i n d.ag) n)∧ct (fun t=>t=(s+7,i,1)) w o w' o):=by
 obtain⟨bD,v,xs,h⟩:=h;have av:=h.ag;rw[h.len]at av;obtain⟨ks,h1,ae,aH⟩:=cx.row;refine(aoy w b i n bD ah bw ks d.ag gone aY h.len cx.F9 cx.lL hn b2 h.U.U.lt (h.U.U.cell 0) (h.U.U.cell 1) (h.U.U.cell 3) (h.U.U.cell 4) av.row ae.row h1 (fun j af=>?_) cx.uf.row (fun q ad=>?_) bv qJ).mono ?_
 ·obtain⟨dV,e,p⟩:=aH j af
  refine⟨dV,e,p.row,fun q ad c=>?_⟩;have e:=cx.uf.tag q ad;rw[p.tag q c]at e;simp at e
 ·have e:=cx.uf.tag q ad
  refine⟨fun c=>?_,fun c=>?_,fun c=>?_⟩
  ·subst c;rw[h.U.tag]at e;simp at e
  ·rw[ae.tag q c]at e;simp at e
  ·rw[av.tag q c]at e;simp at e
 ·rintro e w' ⟨rfl,aJ,al⟩
  have aD:ct (fun t=>t=(s+7,i,1)) w o w' o:=⟨al.mono fun q _ c=>cx.uf.tag q c,fun _ _=>rfl⟩;refine⟨rfl,⟨bD,v,xs,h.ay aD fun t al c=>?_⟩,⟨⟨ks,h1,ae.ay aD (by simp),fun j af=>?_⟩,⟨aJ,cx.uf.tag⟩,cx.lL,by rw[vA];exact cx.F9⟩,aD⟩
  ·rw[c]at al;rcases al with c|c|c|⟨x,c|c⟩<;>simp at c
  ·obtain⟨dV,e,p⟩:=aH j af
   exact⟨dV,e,p.ay aD (by simp)⟩
end Go.Proofs.YtiplgdkpnhamaaaGreatDoor
namespace Go.Proofs.YtiplgdkpnhamaaaGreatDoor.Tv
open Go.Proofs.Tryz List
open Go.RowKit
section
variable {aX:World->(Nat->Tag)->Tag->Nat->Nat->Nat->aZ->Prop}{bk:Nat->Nat->List Int}{bQ:Nat->List Int}{w w':World}{o o':Nat->Tag}{s aj az n i:Nat}{m:iM}{aI ak:List Nat}{a6 a8 aG aK aN ah:Value}{ar:Int}{eG b1:List aZ}{ts:List aT}
theorem cU.aoe (P:gH aX)(h:cU aX bk bQ w o s aj az n aI ak a6 a8 aG aK aN ah ar m eG b1 ts)(aq:i<n)(k:ct (fun t=>t=(s+7,i,1)) w o w' o'){EI yU:Value}{oS:List Int}(aB:lD EI yU w' o' s i (ak[i]'(by have:=h.pf;omega)) n (b1[i]'(by have:=h.sb;omega)))(cx:nR w' o' s i n EI yU (bk i) oS):
  cU aX bk (nd bQ i oS) w' o' s aj az n aI ak a6 a8 aG aK aN ah ar m eG b1 ts:=by
 have f:∀a b c,a=1∨8<=a->¬(fun t:Tag=>t=(s+7,i,1)) (s+a,b,c):=fun a b c h1 e=>by simp at e;omega
 obtain⟨eF,bT,dk⟩:=h.texts;obtain⟨dY,c6,eu⟩:=h.ye;obtain⟨ln,e0,eL⟩:=h.x9;obtain⟨od,fZ,fO⟩:=h.x7;obtain⟨jA,de,c_,G⟩:=h.hE;refine⟨h.U.ay k (f 11 _ _ (by omega)),h.rs.ay k (f 11 _ _ (by omega)),⟨eF,bT,dk.ay k (f 11 _ _ (by omega))⟩,⟨dY,c6,eu.ay k (f 11 _ _ (by omega))⟩,⟨ln,e0,eL.ay k (f 11 _ _ (by omega))⟩,⟨od,fZ,fO.ay k (f 11 _ _ (by omega))⟩,
  ⟨jA,de,c_,G.ay k fun t al e=>?_⟩,h.pe,h.pf,h.qM,h.sb,fun q ad=>P.move (h.prog q ad) fun y b9 c=>⟨k.ay.block y b9 (by rw[c];exact f 1 _ _ (by omega)),(k.same y b9).trans c⟩,fun q ad=>?_⟩
 ·rcases al with⟨x,rfl⟩|⟨x,rfl|rfl⟩
  ·exact f 8 _ _ (by omega) e
  ·exact f 9 _ _ (by omega) e
  ·exact f 10 _ _ (by omega) e
 ·by_cases e:i=q
  ·subst e
   exact⟨EI,yU,aB,by rw[Bb];exact cx⟩
  ·obtain⟨GQ,Qy,⟨bD,v,xs,R⟩,K⟩:=h.ref q ad
   refine⟨GQ,Qy,⟨bD,v,xs,R.ay k fun t al c=>?_⟩,?_⟩
   ·rcases al with rfl|rfl|rfl|⟨x,rfl|rfl⟩<;>simp at c
   ·rw[Ba fun c=>e c.symm]
    exact K.ay k fun y c=>by simp at c;omega
end
theorem apD (aX:World->(Nat->Tag)->Tag->Nat->Nat->Nat->aZ->Prop)(bk:Nat->Nat->List Int)(bQ:Nat->List Int)(P:gH aX)(w:World)(o:Nat->Tag)(s aj az n:Nat)(aI ak:List Nat)(a6 a8 aG aK aN ah:Value)(ar:Int)(m:iM)(a7:List aZ)(ts:List aT)(p:gw)(aw:p.Ok)(hk:p.kind=15)
  (h:cU aX bk bQ w o s aj az n aI ak a6 a8 aG aK aN ah ar m a7 a7 ts)(hn:0<n)(b2:n<=5)
  (YM:∀(i b:Nat) (d:aZ) (W:World) (iK:Nat->Tag),i<n->a7[i]?=some d->aX W iK (s+1,i,0) b n i d->Calls prog 46 #[ptr b] W (bx (I (lK d.ag (bQ i) n)) fun w'=>w'=W))
  (bv:∀(i:Nat) (d:aZ),a7[i]?=some d->∀r,0<=d.ag.getD r 0∧d.ag.getD r 0<=2000000)(qJ:∀i,i<n->∀r,0<=(bQ i).getD r 0∧(bQ i).getD r 0<=2000000):
  Calls prog 53 #[ptr aj,p.agg] w (bx (.bool true) fun w'=>∃o',cU aX bk bQ w' o' s aj az n aI ak a6 a8 aG aK aN ah ar m a7 a7 ts∧dS (fN s) w o w' o'):=by
 obtain⟨kind,a,b,c,key,text⟩:=p;simp only at hk;subst hk;obtain⟨bC,W,o1,iP,ix,mW,nj,eQ,eJ,d,sn,nZ,tm,aq,rfl,bY,wC,wb,iZ,hM,gW,aB,i_,ja⟩:=vr P h aw hn b2;obtain⟨-,-,-,-,-,c0,c1,c2,lk,l1,ek,cI,-,-,-,-,ir,fW,ft,l5,l4⟩:=i_.o;clear h i_;have bn:Hid (a7[bC]?=some d∧a7[bC]=d∧aI[bC]=eQ∧ak[bC]=eJ):=⟨by rw[hg (by omega),aB],aB,hM,gW⟩;have aO:=J YM;have tO:=J (bv bC d bn.o.1);have Bw:=J (qJ bC aq);clear aw hM gW aB YM bv qJ;go_enter func53,ntmps53;go_upto_region 1 with(fail);go_cut[5] (fun v wc=>v=I bC∧Hid (ax W wc))
 case first=>
  go_region_with(go_at_call 51;refine(iZ.o _).mono ?_;rintro e w5 ⟨rfl,rfl⟩)
  all_goals
   go_wp2_with fail
   go_meet;exact⟨rfl,(cE).drew⟩
 case rest=>
  obtain⟨rfl,ao⟩:=hcut;clear c0 c1 c2 lk l1 ek cI ir fW ft l5 l4 bY iZ;obtain⟨bu,gl,M2,jH,-,nm,ky,nn,nz,nv,nB,-,-,-,-,-,kX,oD,oz,oF,oC⟩:=ja.o _ ao.o;replace M2:=J (M2.o (fN s))
  clear ja;have D7:kv bk bQ wc o1 s bC eJ n d:=bn.o.2.2.2▸bn.o.2.1▸bu.o.ref bC aq;obtain⟨x2,xG,tT,RK⟩:=D7;have Dx:=J (alU x2 xG wc o1 s bC eJ n d (bk bC) (bQ bC) tT RK hn b2 tO.o Bw.o);have Dw:=J (aO.o bC eQ d wc o1 aq bn.o.1 jH.o);clear tT RK jH aO tO Bw;obtain⟨z,cF⟩:∃z,lK d.ag (bQ bC) n=z:=⟨_,rfl⟩;rw[cF]at Dx Dw;clear cF;go_wp2_with fail
  refine Dw.o.mono ?_;rintro e an ⟨rfl,rfl⟩;go_wp2_with fail
  refine Dx.o.mono ?_;rintro e w2 ⟨rfl,bP⟩;have cz:=J (⟨bu.o.below P bP,M2.o.trans ((ct.dh (A:=fN s) (o:=o1) bP).da fun _=>id)⟩:_∧_);clear bP Dx Dw bu M2 gl nm ky nn nz nv nB;go_wp2_with fail
  go_ret;exact⟨rfl,o1,cz.o.1,cz.o.2⟩
theorem apE {j5:Type}(j6:j5->World->(Nat->Tag)->Tag->Nat->Nat->Nat->aZ->Prop)(X:Nat->j5)(bk:Nat->Nat->List Int)(bQ:Nat->List Int)(sY:∀X:Nat->j5,gH (qC j6 X))(w:World)(o:Nat->Tag)(s aj az n:Nat)(aI ak:List Nat)(a6 a8 aG aK aN ah:Value)(ar:Int)(m:iM)(a7:List aZ)(ts:List aT)(p:gw)(aw:p.Ok)(hk:p.kind=14)
  (h:cU (qC j6 X) bk bQ w o s aj az n aI ak a6 a8 aG aK aN ah ar m a7 a7 ts)(hn:0<n)(b2:n<=5)(Vg:Nat->aZ->j5)
  (Zi:∀(i b:Nat) (d:aZ) (W:World) (iK:Nat->Tag),i<n->a7[i]?=some d->j6 (X i) W iK (s+1,i,0) b n i d->Calls prog 47 #[ptr b] W (bx (I (lK d.ag (bQ i) n-lK d.ag (fB (bQ i) (kZ (bk i) i n d.ag) n) n)) fun w'=>∃o',j6 (Vg i d) w' o' (s+1,i,0) b n i d∧ct (·=(s+1,i,0)) W iK w' o'))
  (bv:∀(i:Nat) (d:aZ),a7[i]?=some d->∀r,0<=d.ag.getD r 0∧d.ag.getD r 0<=2000000)(qJ:∀i,i<n->∀r,0<=(bQ i).getD r 0∧(bQ i).getD r 0<=2000000):
  Calls prog 53 #[ptr aj,p.agg] w (bx (.bool true) fun w'=>∃o' i d,i<n∧a7[i]?=some d∧cU (qC j6 (nd X i (Vg i d))) bk (nd bQ i (fB (bQ i) (kZ (bk i) i n d.ag) n)) w' o' s aj az n aI ak a6 a8 aG aK aN ah ar m a7 a7 ts∧dS (fN s) w o w' o'):=by
 have P:=sY X;obtain⟨kind,a,b,c,key,text⟩:=p;simp only at hk;subst hk;obtain⟨bC,W,o1,iP,ix,mW,nj,eQ,eJ,d,sn,nZ,tm,aq,rfl,bY,wC,wb,iZ,hM,gW,aB,i_,ja⟩:=vr P h aw hn b2;obtain⟨-,-,-,-,-,c0,c1,c2,lk,l1,ek,cI,-,-,-,-,ir,fW,ft,l5,l4⟩:=i_.o;clear h i_;have bn:Hid (a7[bC]?=some d∧a7[bC]=d∧aI[bC]=eQ∧ak[bC]=eJ):=⟨by rw[hg (by omega),aB],aB,hM,gW⟩;have aO:=J Zi;have tO:=J (bv bC d bn.o.1);have Bw:=J (qJ bC aq);clear aw hM gW aB Zi bv qJ;go_enter func53,ntmps53;go_upto_region 1 with(fail);go_cut[5] (fun v wc=>v=I bC∧Hid (ax W wc))
 case first=>
  go_region_with(go_at_call 51;refine(iZ.o _).mono ?_;rintro e w5 ⟨rfl,rfl⟩)
  all_goals
   go_wp2_with fail
   go_meet;exact⟨rfl,(cE).drew⟩
 case rest=>
  obtain⟨rfl,ao⟩:=hcut;clear c0 c1 c2 lk l1 ek cI ir fW ft l5 l4 bY iZ;obtain⟨bu,gl,M2,jH,-,nm,ky,nn,nz,nv,nB,-,-,-,-,-,kX,oD,oz,oF,oC⟩:=ja.o _ ao.o;replace M2:=J (M2.o (fN s))
  clear ja;have Dw:=J (aO.o bC eQ d wc o1 aq bn.o.1 jH.o);clear jH aO;obtain⟨z,cF⟩:∃z,lK d.ag (bQ bC) n-lK d.ag (fB (bQ bC) (kZ (bk bC) bC n d.ag) n) n=z:=⟨_,rfl⟩;have lB:=J cF;rw[cF]at Dw;clear cF;go_wp2_with fail
  refine Dw.o.mono ?_;rintro e an ⟨rfl,dx,XK,pA⟩;have ck:=J (bu.o.Te sY aq pA (d:=d) (bn.o.2.2.1.symm▸XK));have kh:=J (M2.o.trans (pA.da (B:=fN s) fun t e=>by subst e;exact⟨by simp,by simp⟩));have Zt:a7.set bC d=a7:=by rw[<-bn.o.2.1];exact set_getElem_self _
  rw[Zt]at ck;have D7:kv bk bQ an dx s bC eJ n d:=bn.o.2.2.2▸bn.o.2.1▸ck.o.ref bC aq;obtain⟨x2,xG,tT,RK⟩:=D7;have Dx:=J (alV x2 xG an dx s bC eJ n d (bk bC) (bQ bC) tT RK hn b2 tO.o Bw.o);rw[lB.o]at Dx;clear tT RK Dw XK pA Zt bu M2 gl nm ky nn nz nv nB;go_wp2_with fail
  refine Dx.o.mono ?_;rintro e w2 ⟨rfl,Vm,Vj,Ca⟩;have cd:=J (ck.o.aoe (sY _) aq Ca (bn.o.2.2.2.symm▸bn.o.2.1.symm▸Vm) Vj);have kN:=J (kh.o.trans (Ca.da (B:=fN s) fun t e=>by subst e;exact⟨by simp,by simp⟩));clear Vm Vj Ca ck kh Dx;go_wp2_with fail
  go_ret;exact⟨rfl,dx,bC,d,aq,bn.o.1,cd.o,kN.o⟩
end Go.Proofs.YtiplgdkpnhamaaaGreatDoor.Tv
