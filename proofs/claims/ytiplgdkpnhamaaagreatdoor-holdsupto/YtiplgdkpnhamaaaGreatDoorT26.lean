import Derived.Test.YtiplgdkpnhamaaaGreatDoorT20
import Derived.Test.YtiplgdkpnhamaaaGreatDoorT21
set_option maxHeartbeats 4000000
set_option maxRecDepth 100000
namespace Go.Proofs.YtiplgdkpnhamaaaGreatDoor.Tv
open Go.Proofs.Tryz
open Go.RowKit
variable {kz:Int}{j len m':Nat}{l:Value}{xs:List Value}
section
variable {aX:World->(Nat->Tag)->Tag->Nat->Nat->Nat->aZ->Prop}{bk:Nat->Nat->List Int}{bQ:Nat->List Int}{w w' W dP:World}{o o':Nat->Tag}{s aj az n i:Nat}{M:iM}{m:Nat}{aI ak:List Nat}{a6 a8 aG aK aN ah:Value}{ar:Int}{eG b1:List aZ}{ts:List aT}
theorem cU.toTake (h:cU aX bk bQ w o s aj az n aI ak a6 a8 aG aK aN ah ar (oQ m) eG b1 ts)(aC:b3 w o (s+12,j,0) 9 1 l len xs):
  mU w o (vz s j) w o aj (s+11,0,0) (s+11,2,0) (s+11,3,0) (s+12,j,0) a6 (ptr az) a8 aG aK aN ah ar m l len:=
 ⟨h.U,h.texts,h.ye,⟨xs,aC⟩,ct.refl _ _ _⟩
theorem cU.acY (h:cU aX bk bQ w o s aj az n aI ak a6 a8 aG aK aN ah ar (oQ m) eG b1 ts)(aC:b3 w o (s+12,j,0) 3 1 l len xs):
  nh w o (uW s j) w o aj (s+11,0,0) (s+11,4,0) (s+11,5,0) (s+12,j,0) a6 (ptr az) a8 aG aK aN ah ar m l len:=
 ⟨h.U,h.x9,h.x7,⟨xs,aC⟩,ct.refl _ _ _⟩
theorem cU.aba (P:gH aX)(h:cU aX bk bQ w o s aj az n aI ak a6 a8 aG aK aN ah ar (oQ m) eG b1 ts){lx lo:Value}(T:mU w o (vz s j) w' o' aj (s+11,0,0) (s+11,2,0) (s+11,3,0) (s+12,j,0) a6 (ptr az) a8 lx lo aN ah kz m' l len)(hm:m<=m'):
  cU aX bk bQ w' o' s aj az n aI ak a6 a8 lx lo aN ah kz (oQ m') eG b1 ts:=by
 have eK:∀a b c,a<=10->¬vz s j (s+a,b,c):=fun a b c aU e=>by rcases e with e|e|e|e<;>simp at e<;>omega
 obtain⟨cB,b_,dW⟩:=h.rest P T.ay eK;obtain⟨ln,e0,eL⟩:=h.x9;obtain⟨od,fZ,fO⟩:=h.x7;exact⟨T.U,h.rs.ay T.ay (by simp[vz]),T.texts,T.marks,⟨ln,fx e0 hm,eL.ay T.ay (by simp[vz])⟩,⟨od,fx fZ hm,fO.ay T.ay (by simp[vz])⟩,cB,h.pe,h.pf,h.qM,h.sb,b_,dW⟩
theorem cU.aa8 (P:gH aX)(h:cU aX bk bQ w o s aj az n aI ak a6 a8 aG aK aN ah ar (oQ m) eG b1 ts){lp iC:Value}(T:nh w o (uW s j) w' o' aj (s+11,0,0) (s+11,4,0) (s+11,5,0) (s+12,j,0) a6 (ptr az) a8 aG aK lp iC kz m' l len)(hm:m<=m'):
  cU aX bk bQ w' o' s aj az n aI ak a6 a8 aG aK lp iC kz (oQ m') eG b1 ts:=by
 have eK:∀a b c,a<=10->¬uW s j (s+a,b,c):=fun a b c aU e=>by rcases e with e|e|e|e<;>simp at e<;>omega
 obtain⟨cB,b_,dW⟩:=h.rest P T.ay eK;obtain⟨eF,bT,dk⟩:=h.texts;obtain⟨dY,c6,eu⟩:=h.ye;exact⟨T.U,h.rs.ay T.ay (by simp[uW]),⟨eF,fx bT hm,dk.ay T.ay (by simp[uW])⟩,⟨dY,fx c6 hm,eu.ay T.ay (by simp[uW])⟩,T.texts,T.marks,cB,h.pe,h.pf,h.qM,h.sb,b_,dW⟩
end
theorem apF (aX:World->(Nat->Tag)->Tag->Nat->Nat->Nat->aZ->Prop)(bk:Nat->Nat->List Int)(bQ:Nat->List Int)(P:gH aX)(w:World)(o:Nat->Tag)(s aj az n:Nat)(aI ak:List Nat)(a6 a8 aG aK aN ah:Value)(ar:Int)(m:Nat)(a7:List aZ)(ts:List aT)(p:gw)(aw:p.Ok)(hk:p.kind=9)
  (h:cU aX bk bQ w o s aj az n aI ak a6 a8 aG aK aN ah ar (oQ m) a7 a7 ts)(hn:0<n)(b2:n<=5)(iR:∀d,d∈a7->Room d)(si:0<=ar∧ar<=2900000000)(hm:m<=900000000):
  Calls prog 53 #[ptr aj,p.agg] w (bx (.bool true) fun w'=>∃o' lp iC,cU aX bk bQ w' o' s aj az n aI ak a6 a8 aG aK lp iC (ar+2) (oQ (m+260)) a7 a7 ts∧dS (fN s) w o w' o'):=by
 obtain⟨kind,a,b,c,key,text⟩:=p;simp only at hk;subst hk;obtain⟨bC,W,o1,iP,ix,mW,nj,eQ,eJ,d,sn,nZ,tm,aq,rfl,bY,wC,wb,iZ,hM,gW,aB,i_,ja⟩:=vr P h aw hn b2;obtain⟨-,-,-,-,-,c0,c1,c2,lk,l1,ek,cI,-,-,-,-,ir,fW,ft,l5,l4⟩:=i_.o;clear h i_;have bn:=J (⟨iR d (by rw[<-aB];exact eT _),aB,hM,gW⟩:_∧_∧_∧_);clear aw iR hM gW aB;go_enter func53,ntmps53;go_upto_region 1 with(fail);go_cut[5] (fun v wc=>v=I bC∧Hid (ax W wc))
 case first=>
  go_region_with(go_at_call 51;refine(iZ.o _).mono ?_;rintro e w5 ⟨rfl,rfl⟩)
  all_goals
   go_wp2_with fail
   go_meet;exact⟨rfl,(cE).drew⟩
 case rest=>
  obtain⟨rfl,ao⟩:=hcut;clear c0 c1 c2 lk l1 ek cI ir fW ft l5 l4 bY iZ;obtain⟨bu,gl,M2,jH,-,nm,ky,nn,nz,nv,nB,-,-,-,-,-,kX,oD,oz,oF,oC⟩:=ja.o _ ao.o;replace M2:=J (M2.o (fN s))
  clear ja;go_wp2_with fail
  refine(P.KY _ o1 (s+1,bC,0) (s+12,4,0) eQ n bC d jH.o bn.o.1 (by simp)).mono ?_;rintro e an ⟨bz,dx,rfl,hY,aD,fJ⟩;have ck:=J (bu.o.CX P aq aD bn.o.2.1 (bn.o.2.2.1.symm▸hY));have kh:=J (M2.o.trans (aD.da wP));have jE:=J (gl.o.ay aD (by simp));have ri:=J (bn.o.2.2.1▸bn.o.2.1▸ck.o.prog bC aq);have qf:d.ag.length=n:=by
   obtain⟨iC,bw,⟨bD,v,xs,R⟩,-⟩:=ck.o.ref bC aq;have e:=R.len;rw[bn.o.2.1]at e;exact e
  rw[qf]at fJ;obtain⟨lb,iD,rfl,p_,-,-,-,-⟩:=fJ.row.pos (by omega);have xn:=J fJ;clear hY aD fJ bu gl M2 jH nm ky nn nz nv nB kX oD oz oF oC;go_wp2_with fail
  refine(P.KY _ dx (s+1,bC,0) (s+12,5,0) eQ n bC d ri.o bn.o.1 (by simp)).mono ?_;rintro e w2 ⟨aaK,iv,rfl,hY,aD,fJ⟩;rw[qf]at fJ;obtain⟨mb,pb,rfl,ajX,-,-,-,-⟩:=fJ.row.pos (by omega);have cd:=J (ck.o.CX P aq aD bn.o.2.1 (bn.o.2.2.1.symm▸hY));have kN:=J (kh.o.trans (aD.da wP));have uM:=J (xn.o.ay aD (by simp));have uK:=J fJ;clear hY aD fJ ck jE kh xn ri;obtain⟨iC,aiu,⟨bD,v',Fb,R⟩,-⟩:=bn.o.2.2.2▸bn.o.2.1▸cd.o.ref bC aq;have mf:=R.ag;rw[qf]at mf;obtain⟨cg,wW,rfl,rM,-,jY,CE,-⟩:=mf.row.pos (by omega);have v1:=R.U.U.c1;have hF:=R.U.U.lt;obtain⟨_,_,e,-,-,kC,Jy,-⟩:=uM.o.row.pos (by omega);obtain⟨dI,-,-⟩:=sN e;cases dI;clear e;obtain⟨_,_,e,-,-,kU,JD,-⟩:=uK.o.row.pos (by omega);obtain⟨dI,-,-⟩:=sN e;cases dI;clear e;have Pv:=J CE;have Pf:=J Jy;have Pg:=J JD;have H0:=J qf;clear R mf CE Jy JD qf;go_wp2_with fail
  go_loopw[14,15] (fun ok k wr=>∃mH:Nat,mH<=n∧ok= .bool true∧k=I mH∧Hid (ax w2 wr)) (fun _ k _=>n-(intOf k).toNat)
  case atStart=>exact⟨0,ch,rfl,rfl,cE⟩
  case round=>
   obtain⟨mH,y2,rfl,rfl,l0⟩:=hrel;have akz:=l0.o.size;by_cases br:mH<n
   ·have dr:=Pv.o mH (by omega)
    have en:=Pf.o mH (by omega);have d_:=Pg.o mH (by omega);rw[o9 _ _ (by have:=H0.o;omega)]at dr en d_;have dm:=bZ l0.o v1;have dz:=bZ l0.o dr;have ei:=bZ l0.o en;have fG:=bZ l0.o d_;have h0:eJ<wr.heap.size:=by omega
    have z2:cg<wr.heap.size:=by omega
    have z3:lb<wr.heap.size:=by omega
    have z4:mb<wr.heap.size:=by omega
    generalize d.ag[mH]'(by have:=H0.o;omega)=aqT at*;clear dr en d_ v1 hF jY kC kU;go_wp2_with fail
    go_quiet(fail);go_wp2_with fail
    exact⟨⟨mH+1,by omega,rfl,by go_num,ym l0.o _⟩,by simp[intOf];omega⟩
   ·have cR:=J (cd.o.below P l0.o)
    have sX:=J (kN.o.below l0.o);have sV:=J (uM.o.below l0.o);have rl:=J (uK.o.below l0.o);clear v1 hF jY kC kU cd kN uM uK;go_wp2_with fail
    refine(Wf wr iv aj (s+11,0,0) (s+11,4,0) (s+11,5,0) (s+12,4,0) _ _ _ _ _ _ _ ar m _ n (by simp) (by omega) (by omega) (by omega) (cR.o.acY sV.o)).mono ?_;rintro e E9 ⟨rfl,EM,amS,alY,Sx,nS⟩;have sQ:=J (cR.o.aa8 P nS (by omega));have xp:=J (sX.o.trans (nS.ay.da fun _=>L9));have mR:=J (rl.o.ay nS.ay (by simp));clear cR sX sV rl nS;go_wp2_with fail
    refine(Wf E9 EM aj (s+11,0,0) (s+11,4,0) (s+11,5,0) (s+12,5,0) _ _ _ _ _ _ _ (ar+1) (m+130) _ n (by simp) (by omega) (by omega) (by omega) (sQ.o.acY mR.o)).mono ?_;rintro e K0 ⟨rfl,EN,SZ,Sv,Sy,oP⟩;have dG:=J (sQ.o.aa8 P oP (by omega));have DG:=J (xp.o.trans (oP.ay.da fun _=>L9));clear sQ xp mR oP;go_wp2_with fail
    go_ret;refine⟨rfl,EN,SZ,Sv,?_,DG.o⟩;have:=dG.o;rw[show ar+1+1=ar+2 by omega,show m+130+130=m+260 by omega]at this;exact this
end Go.Proofs.YtiplgdkpnhamaaaGreatDoor.Tv
