import Derived.Test.YtiplgdkpnhamaaaGreatDoorT20
set_option maxHeartbeats 4000000
set_option maxRecDepth 100000
namespace Go.Proofs.YtiplgdkpnhamaaaGreatDoor.Tv
open Go.Proofs.Tryz
open Go.RowKit
theorem apS (aX:World->(Nat->Tag)->Tag->Nat->Nat->Nat->aZ->Prop)(bk:Nat->Nat->List Int)(bQ:Nat->List Int)(P:gH aX)(w:World)(o:Nat->Tag)(s aj az n:Nat)(aI ak:List Nat)(a6 a8 aG aK aN ah:Value)(ar:Int)(m:iM)(a7:List aZ)(ts:List aT)(p:gw)(aw:p.Ok)(hk:p.kind=7)
  (h:cU aX bk bQ w o s aj az n aI ak a6 a8 aG aK aN ah ar m a7 a7 ts)(hn:0<n)(b2:n<=5)(iR:∀d,d∈a7->Room d)(mc:ts.length<2000000):
  Calls prog 52 #[ptr aj,p.agg] w (bx (.bool true) fun w'=>∃o' i d,i<n∧a7[i]?=some d∧cU aX bk bQ w' o' s aj az n aI ak a6 a8 aG aK aN ah ar m (a7.set i (p4 i d p.b)) (a7.set i (p4 i d p.b)) (Ai i d p.b ts)∧dS (fN s) w o w' o'):=by
 obtain⟨kind,a,b,c,key,text⟩:=p;simp only at hk;subst hk;obtain⟨bC,W,o1,iP,ix,mW,nj,eQ,eJ,d,sn,nZ,tm,aq,rfl,bY,wC,wb,iZ,hM,gW,aB,i_,ja⟩:=vr P h aw hn b2;obtain⟨-,-,-,-,-,c0,c1,c2,lk,l1,ek,cI,-,-,-,-,ir,fW,ft,l5,l4⟩:=i_.o;clear h i_;have bn:=J (⟨iR d (by rw[<-aB];exact eT _),aB,hM,gW⟩:_∧_∧_∧_);clear aw iR hM gW aB;go_enter func52,ntmps52;go_upto_region 1 with(fail);go_cut[5] (fun v wc=>v=I bC∧Hid (ax W wc))
 case first=>
  go_region_with(go_at_call 51;refine(iZ.o _).mono ?_;rintro e w5 ⟨rfl,rfl⟩)
  all_goals
   go_wp2_with fail
   go_meet;exact⟨rfl,(cE).drew⟩
 case rest=>
  obtain⟨rfl,ao⟩:=hcut;clear c0 c1 c2 lk l1 ek cI ir fW ft l5 l4 bY iZ;obtain⟨bu,gl,M2,jH,-,nm,ky,nn,nz,nv,nB,-,rO,-,-,-,kX,oD,oz,oF,oC⟩:=ja.o _ ao.o;replace M2:=J (M2.o (fN s))
  clear ja;go_wp2_with fail
  refine(P.Wa _ o1 (s+1,bC,0) eQ n bC d b jH.o bn.o.1).mono ?_;rintro e an ⟨he,dx,hY,aD⟩;obtain⟨x,y,z,tr⟩:=agL bC d b;rw[tr]at he;subst he;have ck:=J ((bu.o.Kr P aq aD (bn.o.2.2.1.symm▸hY)).new P (.cells #[I x,I y] 62) (s+12,1,0));have kh:=J ((M2.o.trans (aD.da wP)).trans (tw (B:=fN s) an dx (.cells #[I x,I y] 62) (s+12,1,0)));have jE:=J ((gl.o.ay aD (by simp)).new (.cells #[I x,I y] 62) (s+12,1,0));have Bp:=J (cP.fresh an dx [I x,I y] 62 (s+12,1,0));clear hY aD bu gl M2 jH nm ky nn nz nv nB rO kX oD oz oF oC;go_upto_region 20 with(fail);generalize jy:an.heap.size=ab at*;generalize an.alloc (.cells #[I x,I y] 62)=W2 at*;generalize ee dx ab (s+12,1,0)=hr at*;clear jy;have cd:=J (ck.o.jo P (s+12,3,0));have kN:=J (kh.o.jo (s+12,3,0));have qx:=J (jE.o.jo (s+12,3,0));have Bq:=J (Bp.o.jo (s+12,3,0));have qO:Hid (ee hr W2.heap.size (s+12,3,0) W2.heap.size=(s+12,3,0)):=Hl _ _ _;generalize ee hr W2.heap.size (s+12,3,0)=nD at*;have gr:=cd.o.U.U.c1;have gK:=qx.o.U.c2;have J3:=cd.o.U.U.lt;have td:=qx.o.U.lt;have Dq:Hid (∀(h:bC<a7.length),a7[bC]=d):=fun _=>bn.o.2.1
  clear ck kh jE Bp;go_cut[22,23] (fun Ky bB wd=>∃b7 o',Ky=ptr b7∧bB=I z∧cU aX bk bQ wd o' s aj az n aI ak (bo iP aI.length ix) a8 aG aK aN ah ar m (a7.set bC (p4 bC d b)) (a7.set bC (p4 bC d b)) (Ai bC d b ts)∧cP wd o' (s+12,1,0) ab [I x,I y] 62∧cP wd o' (s+12,3,0) b7 [I x,I y] 62∧dS (fN s) w o wd o')
  case first=>
   go_region_with(go_at_call 91;refine(agM P cd.o aq b2 (Dq.o (by omega)) bn.o.2.2.2 b bn.o.1 mc (by first|exact(cE).drew|exact((cj _ _)).drew)).mono ?_;rintro e w5 ⟨he,sB,cR,sX⟩;rw[tr]at he;subst he;have cR:=J cR;have Br:=J (cP.da (Bq.o.below (by first|exact(cE).drew|exact((cj _ _)).drew)) sX VU);have BL:=J (dS.trans (kN.o.below (by first|exact(cE).drew|exact((cj _ _)).drew)) (sX.mono fun _=>aga));have sX:=J sX;first|(have gY:=afo sX.o qO.o VU;have eY:=gY.U.cell 0;have q1:=gY.U.cell 1;have dy:=gY.U.frozen 0;have fE:=gY.U.frozen 1;have hf:=gY.U.lt;have gY:=J gY)|skip)
   all_goals
    go_wp2_with fail
    go_meet
   all_goals first|(obtain⟨cB,b_,dW⟩:=SI P cR.o BL.o gY.o (I x) (I y);exact⟨_,_,rfl,rfl,cB,(Br.o.other (p:=(aa _ 0)) gY.o.tag (by simp) _).other (p:=(aa _ 1)) gY.o.tag (by simp) _,b_,dW⟩)|(obtain⟨cB,b_,dW⟩:=SH P cR.o BL.o [I x,I y] 62;exact⟨_,_,rfl,rfl,cB,Br.o.new _ _,b_,dW⟩)
  case rest=>
   obtain⟨b7,Kn,rfl,rfl,jF,pj,po,uN⟩:=hcut;have a0:=pj.U.c0;have cO:=pj.U.c1;have eY:=po.U.c0;have q1:=po.U.c1;have qP:=pj.U.lt;have n3:=po.U.lt;have jF:=J jF;have uN:=J uN;clear pj po cd kN qx Bq qO gr gK J3 td tr;go_wp2_with fail
   go_ret;exact⟨rfl,Kn,bC,d,aq,by rw[hg (by omega),bn.o.2.1],jF.o,uN.o⟩
theorem apQ (aX:World->(Nat->Tag)->Tag->Nat->Nat->Nat->aZ->Prop)(bk:Nat->Nat->List Int)(bQ:Nat->List Int)(P:gH aX)(w:World)(o:Nat->Tag)(s aj az n:Nat)(aI ak:List Nat)(a6 a8 aG aK aN ah:Value)(ar:Int)(m:iM)(a7:List aZ)(ts:List aT)(p:gw)(aw:p.Ok)(hk:p.kind=8)
  (h:cU aX bk bQ w o s aj az n aI ak a6 a8 aG aK aN ah ar m a7 a7 ts)(hn:0<n)(b2:n<=5)(iR:∀d,d∈a7->Room d):
  Calls prog 52 #[ptr aj,p.agg] w (bx (.bool true) fun w'=>∃o' i d,i<n∧a7[i]?=some d∧cU aX bk bQ w' o' s aj az n aI ak a6 a8 aG aK aN ah ar m (a7.set i (tU d p.b)) (a7.set i (tU d p.b)) ts∧dS (fN s) w o w' o'):=by
 obtain⟨kind,a,b,c,key,text⟩:=p;simp only at hk;subst hk;obtain⟨bC,W,o1,iP,ix,mW,nj,eQ,eJ,d,sn,nZ,tm,aq,rfl,bY,wC,wb,iZ,hM,gW,aB,i_,ja⟩:=vr P h aw hn b2;obtain⟨-,-,-,-,-,c0,c1,c2,lk,l1,ek,cI,-,-,-,-,ir,fW,ft,l5,l4⟩:=i_.o;clear h i_;have bn:=J (⟨iR d (by rw[<-aB];exact eT _),aB,hM,gW⟩:_∧_∧_∧_);clear aw iR hM gW aB;go_enter func52,ntmps52;go_upto_region 1 with(fail);go_cut[5] (fun v wc=>v=I bC∧Hid (ax W wc))
 case first=>
  go_region_with(go_at_call 51;refine(iZ.o _).mono ?_;rintro e w5 ⟨rfl,rfl⟩)
  all_goals
   go_wp2_with fail
   go_meet;exact⟨rfl,(cE).drew⟩
 case rest=>
  obtain⟨rfl,ao⟩:=hcut;clear c0 c1 c2 lk l1 ek cI ir fW ft l5 l4 bY iZ;obtain⟨bu,gl,M2,jH,-,nm,ky,nn,nz,nv,nB,-,rO,-,-,-,kX,oD,oz,oF,oC⟩:=ja.o _ ao.o;replace M2:=J (M2.o (fN s))
  clear ja;go_wp2_with fail
  refine(P.abort _ o1 (s+1,bC,0) eQ n bC d b jH.o bn.o.1).mono ?_;rintro e an ⟨he,dx,hY,aD⟩;obtain⟨x,tr⟩:=afi d b;rw[tr]at he;subst he;have ck:=J (bu.o.Kr P aq aD (bn.o.2.2.1.symm▸hY));have BB:=J (bn.o.2.2.2▸bn.o.2.1▸ck.o.ref bC aq);have kh:=J (M2.o.trans (aD.da wP));have jE:=gl.o.ay aD (by simp);have alD:=jE.U.c2;have ai3:=jE.U.lt;clear hY aD bu gl M2 jH nm ky nn nz nv nB rO kX oD oz oF oC jE;go_wp2_with fail
  refine(aof an dx s bC eJ n d b BB.o).mono ?_;rintro e w2 ⟨he,iv,yW,aD⟩;rw[tr]at he;subst he;have cd:=J (ck.o.Tq P aq aD (bn.o.2.2.2.symm▸yW));have kN:=J (kh.o.trans (aD.da fun _=>Oe));clear yW aD ck kh BB tr alD;go_wp2_with fail
  go_ret;exact⟨rfl,iv,bC,d,aq,by rw[hg (by omega),bn.o.2.1],cd.o,kN.o⟩
end Go.Proofs.YtiplgdkpnhamaaaGreatDoor.Tv
