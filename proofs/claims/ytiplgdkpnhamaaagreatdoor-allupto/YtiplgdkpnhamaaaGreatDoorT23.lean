import Derived.Test.YtiplgdkpnhamaaaGreatDoorT16
import Derived.Test.YtiplgdkpnhamaaaGreatDoorT20
set_option maxHeartbeats 4000000
set_option maxRecDepth 100000
namespace Go.Proofs.YtiplgdkpnhamaaaGreatDoor.Tv
open Go.Proofs.Tryz List
open Go.RowKit
variable {kz:Int}{e:TypeId}{j k len:Nat}{l xs:List Value}{v x:Value}
def np (T M N K:List Value):iM:=fun j l=>(j=2->l=T)∧(j=3->l=M)∧(j=4->l=N)∧(j=5->l=K)
theorem ahC {T M N K:List Value}(h:np T M N K 2 l):l=T:=h.1 rfl
theorem ahD {T M N K:List Value}(h:np T M N K 3 l):l=M:=h.2.1 rfl
theorem ahE {T M N K:List Value}(h:np T M N K 4 l):l=N:=h.2.2.1 rfl
theorem ahF {T M N K:List Value}(h:np T M N K 5 l):l=K:=h.2.2.2 rfl
section
variable {aX:World->(Nat->Tag)->Tag->Nat->Nat->Nat->aZ->Prop}{bk:Nat->Nat->List Int}{bQ:Nat->List Int}{w w':World}{o o':Nat->Tag}{s aj az n:Nat}{aI ak:List Nat}{a6 a8 aG aK aN ah:Value}{ar:Int}{eG b1:List aZ}{ts:List aT}{T M N K BO LI:List Value}
theorem cU.TF (h:cU aX bk bQ w o s aj az n aI ak a6 a8 aG aK aN ah ar (np T M N K) eG b1 ts):b3 w o (s+11,2,0) 41 1 aG T.length T:=by
 obtain⟨l,e,p⟩:=h.texts;rw[<-ahC e];exact p
theorem cU.TE (h:cU aX bk bQ w o s aj az n aI ak a6 a8 aG aK aN ah ar (np T M N K) eG b1 ts):b3 w o (s+11,3,0) 3 1 aK M.length M:=by
 obtain⟨l,e,p⟩:=h.ye;rw[<-ahD e];exact p
theorem cU.q3 (h:cU aX bk bQ w o s aj az n aI ak a6 a8 aG aK aN ah ar (np T M N K) eG b1 ts):b3 w o (s+11,4,0) 44 1 aN N.length N:=by
 obtain⟨l,e,p⟩:=h.x9;rw[<-ahE e];exact p
theorem cU.TD (h:cU aX bk bQ w o s aj az n aI ak a6 a8 aG aK aN ah ar (np T M N K) eG b1 ts):b3 w o (s+11,5,0) 3 1 ah K.length K:=by
 obtain⟨l,e,p⟩:=h.x7;rw[<-ahF e];exact p
theorem WN:np T M N K 2 T:=⟨fun _=>rfl,fun e=>by omega,fun e=>by omega,fun e=>by omega⟩
theorem WO:np T M N K 3 M:=⟨fun e=>by omega,fun _=>rfl,fun e=>by omega,fun e=>by omega⟩
theorem WQ:np T M N K 4 N:=⟨fun e=>by omega,fun e=>by omega,fun _=>rfl,fun e=>by omega⟩
theorem WR:np T M N K 5 K:=⟨fun e=>by omega,fun e=>by omega,fun e=>by omega,fun _=>rfl⟩
theorem cU.ac0 (h:cU aX bk bQ w o s aj az n aI ak a6 a8 aG aK aN ah ar (np T M N K) eG b1 ts){l:Value}(aC:b3 w o (s+12,j,0) 9 1 l len xs)(x:Value):
  kO w o (vz s j) w o aj (s+11,0,0) (s+11,2,0) (s+11,3,0) (s+12,j,0) a6 (ptr az) a8 aG aK aN ah ar T M l len xs x []:=
 ⟨h.U,h.TF,h.TE,aC,fun e he=>(by cases he),ct.refl _ _ _⟩
theorem cU.acZ (h:cU aX bk bQ w o s aj az n aI ak a6 a8 aG aK aN ah ar (np T M N K) eG b1 ts){l:Value}(aC:b3 w o (s+12,j,0) 3 1 l len xs)(x:Value):
  lR w o (uW s j) w o aj (s+11,0,0) (s+11,4,0) (s+11,5,0) (s+12,j,0) a6 (ptr az) a8 aG aK aN ah ar N K l len xs x []:=
 ⟨h.U,h.q3,h.TD,aC,fun e he=>(by cases he),ct.refl _ _ _⟩
theorem cU.abb (P:gH aX)(h:cU aX bk bQ w o s aj az n aI ak a6 a8 aG aK aN ah ar (np T M N K) eG b1 ts){l lx lo:Value}{eU:List (Value×Nat)}(S:kO w o (vz s j) w' o' aj (s+11,0,0) (s+11,2,0) (s+11,3,0) (s+12,j,0) a6 (ptr az) a8 lx lo aN ah kz BO LI l len xs x eU):
  cU aX bk bQ w' o' s aj az n aI ak a6 a8 lx lo aN ah kz (np BO LI N K) eG b1 ts:=by
 have eK:∀a b c,a<=10->¬vz s j (s+a,b,c):=fun a b c aU e=>by rcases e with e|e|e|e<;>simp at e<;>omega
 obtain⟨cB,b_,dW⟩:=h.rest P S.ay eK;exact⟨S.U,h.rs.ay S.ay (by simp[vz]),⟨_,WN,S.texts⟩,⟨_,WO,S.marks⟩,⟨_,WQ,h.q3.ay S.ay (by simp[vz])⟩,⟨_,WR,h.TD.ay S.ay (by simp[vz])⟩,cB,h.pe,h.pf,h.qM,h.sb,b_,dW⟩
theorem cU.aa9 (P:gH aX)(h:cU aX bk bQ w o s aj az n aI ak a6 a8 aG aK aN ah ar (np T M N K) eG b1 ts){l lp iC:Value}{eU:List (Value×Nat)}(S:lR w o (uW s j) w' o' aj (s+11,0,0) (s+11,4,0) (s+11,5,0) (s+12,j,0) a6 (ptr az) a8 aG aK lp iC kz BO LI l len xs x eU):
  cU aX bk bQ w' o' s aj az n aI ak a6 a8 aG aK lp iC kz (np T M BO LI) eG b1 ts:=by
 have eK:∀a b c,a<=10->¬uW s j (s+a,b,c):=fun a b c aU e=>by rcases e with e|e|e|e<;>simp at e<;>omega
 obtain⟨cB,b_,dW⟩:=h.rest P S.ay eK;exact⟨S.U,h.rs.ay S.ay (by simp[uW]),⟨_,WN,h.TF.ay S.ay (by simp[uW])⟩,⟨_,WO,h.TE.ay S.ay (by simp[uW])⟩,⟨_,WQ,S.texts⟩,⟨_,WR,S.marks⟩,cB,h.pe,h.pf,h.qM,h.sb,b_,dW⟩
end
def C0 (s:Nat)(o:Nat->Tag):Nat->Tag:=fun q=>if o q=(s+12,4,0)∨o q=(s+12,5,0)then(s+15,0,0)else o q
section
variable {aX:World->(Nat->Tag)->Tag->Nat->Nat->Nat->aZ->Prop}{bk:Nat->Nat->List Int}{bQ:Nat->List Int}{w w':World}{o o':Nat->Tag}{s aj az n:Nat}{aI ak:List Nat}{a6 a8 aG aK aN ah:Value}{ar:Int}{m:iM}{eG b1:List aZ}{ts:List aT}
theorem ab1 (s:Nat)(w:World)(o:Nat->Tag):dS (fun t=>t=(s+12,4,0)∨t=(s+12,5,0)) w o w (C0 s o):=⟨Touch.refl _ _,fun _ _ h=>if_neg h⟩
theorem cU.C0 (P:gH aX)(h:cU aX bk bQ w o s aj az n aI ak a6 a8 aG aK aN ah ar m eG b1 ts):cU aX bk bQ w (C0 s o) s aj az n aI ak a6 a8 aG aK aN ah ar m eG b1 ts:=
 h.off P (ab1 s w o) fun t _ h1 e=>by rcases e with e|e<;>exact h1 (by rw[e])
theorem ab2 (h:dS (fN s) w o w' o'):dS (fN s) w o w' (C0 s o'):=
 h.trans ((ab1 s w' o').mono fun t e=>by rcases e with rfl|rfl<;>exact⟨by simp,by simp⟩)
theorem Xa (h:Full w o (s+12,4,0) e x v k):Full w (Tv.C0 s o) (s+15,0,0) e x v k:=⟨h.row,fun q ad=>if_pos (Or.inl (h.tag q ad))⟩
theorem Xb (h:Full w o (s+12,5,0) e x v k):Full w (Tv.C0 s o) (s+15,0,0) e x v k:=⟨h.row,fun q ad=>if_pos (Or.inr (h.tag q ad))⟩
end
theorem apG (aX:World->(Nat->Tag)->Tag->Nat->Nat->Nat->aZ->Prop)(bk:Nat->Nat->List Int)(bQ:Nat->List Int)(P:gH aX)(w:World)(o:Nat->Tag)(s aj az n:Nat)(aI ak:List Nat)(a6 a8 aG aK aN ah:Value)(ar:Int)(BP BJ BM BI:List Value)(a7:List aZ)(ts:List aT)(p:gw)(aw:p.Ok)(hk:p.kind=9)
  (h:cU aX bk bQ w o s aj az n aI ak a6 a8 aG aK aN ah ar (np BP BJ BM BI) a7 a7 ts)(hn:0<n)(b2:n<=5)(iR:∀d,d∈a7->Room d)(si:0<=ar∧ar<=2900000000)(arY:BM.length<=900000000)(arW:BI.length<=900000000):
  Calls prog 53 #[ptr aj,p.agg] w (bx (.bool true) fun w'=>∃(o':Nat->Tag) (lp iC:Value) (mR uL:List (Value×Nat)),mR.length<=65∧uL.length<=65∧cU aX bk bQ w' o' s aj az n aI ak a6 a8 aG aK lp iC (ar+2) (np BP BJ (BM++mR.map Prod.fst++uL.map Prod.fst) (BI++replicate mR.length (I (-(ar+1)))++replicate uL.length (I (-(ar+2))))) a7 a7 ts∧(∀e:Value×Nat,e∈mR->Full w' o' (s+15,0,0) 3 (I (-(ar+1))) e.1 e.2∧e.2<=200000000)∧(∀e:Value×Nat,e∈uL->Full w' o' (s+15,0,0) 3 (I (-(ar+2))) e.1 e.2∧e.2<=200000000)∧dS (fN s) w o w' o'):=by
 obtain⟨kind,a,b,c,key,text⟩:=p;simp only at hk;subst hk;obtain⟨bC,W,o1,iP,ix,mW,nj,eQ,eJ,d,sn,nZ,tm,aq,rfl,bY,wC,wb,iZ,hM,gW,aB,i_,ja⟩:=vr P h aw hn b2;obtain⟨-,-,-,-,-,c0,c1,c2,lk,l1,ek,cI,-,-,-,-,ir,fW,ft,l5,l4⟩:=i_.o;clear h i_;have bn:=J (⟨iR d (by rw[<-aB];exact eT _),aB,hM,gW⟩:_∧_∧_∧_);clear aw iR hM gW aB;go_enter func53,ntmps53;go_upto_region 1 with(fail);go_cut[5] (fun v wc=>v=I bC∧Hid (ax W wc))
 case first=>
  go_region_with(go_at_call 51;refine(iZ.o _).mono ?_;rintro e w5 ⟨rfl,rfl⟩)
  all_goals
   go_wp2_with fail
   go_meet;exact⟨rfl,(cE).drew⟩
 case rest=>
  obtain⟨rfl,ao⟩:=hcut;clear c0 c1 c2 lk l1 ek cI ir fW ft l5 l4 bY iZ;obtain⟨bu,gl,M2,jH,-,nm,ky,nn,nz,nv,nB,-,-,-,-,-,kX,oD,oz,oF,oC⟩:=ja.o _ ao.o;replace M2:=J (M2.o (fN s))
  clear ja;go_wp2_with fail
  refine(P.KY _ o1 (s+1,bC,0) (s+12,4,0) eQ n bC d jH.o bn.o.1 (by simp)).mono ?_;rintro e an ⟨bz,dx,rfl,hY,aD,fJ⟩;have ck:=J (bu.o.CX P aq aD bn.o.2.1 (bn.o.2.2.1.symm▸hY));have kh:=J (M2.o.trans (aD.da wP));have jE:=J (gl.o.ay aD (by simp));have ri:=J (bn.o.2.2.1▸bn.o.2.1▸ck.o.prog bC aq);have qf:d.ag.length=n:=by
   obtain⟨iC,bw,⟨bD,v,xs,R⟩,-⟩:=ck.o.ref bC aq;have e:=R.len;rw[bn.o.2.1]at e;exact e
  rw[qf]at fJ;obtain⟨lb,iD,rfl,p_,-,-,-,-⟩:=fJ.row.pos (by omega);have xn:=J fJ;clear hY aD fJ bu gl M2 jH nm ky nn nz nv nB kX oD oz oF oC;go_wp2_with fail
  refine(P.KY _ dx (s+1,bC,0) (s+12,5,0) eQ n bC d ri.o bn.o.1 (by simp)).mono ?_;rintro e w2 ⟨aaK,iv,rfl,hY,aD,fJ⟩;rw[qf]at fJ;obtain⟨mb,pb,rfl,ajX,-,-,-,-⟩:=fJ.row.pos (by omega);have cd:=J (ck.o.CX P aq aD bn.o.2.1 (bn.o.2.2.1.symm▸hY));have kN:=J (kh.o.trans (aD.da wP));have uM:=J (xn.o.ay aD (by simp));have uK:=J fJ;clear hY aD fJ ck jE kh xn ri;obtain⟨iC,aiu,⟨bD,v',Fb,R⟩,-⟩:=bn.o.2.2.2▸bn.o.2.1▸cd.o.ref bC aq;have mf:=R.ag;rw[qf]at mf;obtain⟨cg,wW,rfl,rM,-,jY,CE,-⟩:=mf.row.pos (by omega);have v1:=R.U.U.c1;have hF:=R.U.U.lt;obtain⟨_,_,e,-,-,kC,Jy,-⟩:=uM.o.row.pos (by omega);obtain⟨dI,-,-⟩:=sN e;cases dI;clear e;obtain⟨_,_,e,-,-,kU,JD,-⟩:=uK.o.row.pos (by omega);obtain⟨dI,-,-⟩:=sN e;cases dI;clear e;have Pv:=J CE;have Pf:=J Jy;have Pg:=J JD;have H0:=J qf;clear R mf CE Jy JD qf;go_wp2_with fail
  go_loopw[14,15] (fun ok k wr=>∃mH:Nat,mH<=n∧ok= .bool true∧k=I mH∧Hid (ax w2 wr)) (fun _ k _=>n-(intOf k).toNat)
  case atStart=>exact⟨0,ch,rfl,rfl,cE⟩
  case round=>
   obtain⟨mH,y2,rfl,rfl,l0⟩:=hrel;have akz:=l0.o.size;by_cases br:mH<n
   ·have dr:=Pv.o mH (by omega)
    have en:=Pf.o mH (by omega);have d_:=Pg.o mH (by omega);rw[o9 _ _ (by have:=H0.o;omega)]at dr en d_;have dm:=bZ l0.o v1;have dz:=bZ l0.o dr;have ei:=bZ l0.o en;have fG:=bZ l0.o d_;have h0:eJ<wr.heap.size:=by omega
    have z2:cg<wr.heap.size:=by omega
    have z3:lb<wr.heap.size:=by omega
    have z4:mb<wr.heap.size:=by omega
    generalize d.ag[mH]'(by have:=H0.o;omega)=aqT at*;clear dr en d_ v1 hF jY kC kU;go_wp2_with fail
    go_quiet(fail);go_wp2_with fail
    exact⟨⟨mH+1,by omega,rfl,by go_num,ym l0.o _⟩,by simp[intOf];omega⟩
   ·have cR:=J (cd.o.below P l0.o)
    have sX:=J (kN.o.below l0.o);have sV:=J (uM.o.below l0.o);have rl:=J (uK.o.below l0.o);clear v1 hF jY kC kU cd kN uM uK;go_wp2_with fail
    refine(Wg wr iv aj (s+11,0,0) (s+11,4,0) (s+11,5,0) (s+12,4,0) _ _ _ _ _ _ _ ar BM BI _ n _ (by simp) (by omega) (by omega) (by omega) (by omega) (cR.o.acZ sV.o _)).mono ?_;rintro e E9 ⟨rfl,EM,amS,alY,Sx,DE,QN,nS⟩;have sQ:=J (cR.o.aa9 P nS);have Dj:=J (⟨QN,fun e (he:e∈DE)=>nS.kept e he⟩:_∧_);have xp:=J (sX.o.trans (nS.ay.da fun _=>L9));have mR:=J (rl.o.ay nS.ay (by simp));clear cR sX sV rl nS;go_wp2_with fail
    refine(Wg E9 EM aj (s+11,0,0) (s+11,4,0) (s+11,5,0) (s+12,5,0) _ _ _ _ _ _ _ (ar+1) _ _ _ n _ (by simp) (by omega) (by simp;omega) (by simp;omega) (by omega) (sQ.o.acZ mR.o _)).mono ?_;rintro e K0 ⟨rfl,EN,SZ,Sv,Sy,H5,QO,oP⟩;have dG:=J ((sQ.o.aa9 P oP).C0 P);have O0:=J (fun e (he:e∈DE)=>(Xa (b3.ay (Dj.o.2 e he).1 oP.ay (by simp):Full K0 EN (s+12,4,0) 3 _ e.1 e.2)));have O1:=J (fun e (he:e∈H5)=>(⟨Xb (oP.kept e he).1,(oP.kept e he).2⟩:_∧_));have DG:=J (ab2 (xp.o.trans (oP.ay.da fun _=>L9)));clear sQ xp mR oP;go_wp2_with fail
    go_ret;have ba:ar+1+1=ar+2:=by omega
    have h1:=dG.o;have ae:=O1.o;rw[ba]at h1 ae;exact⟨rfl,_,SZ,Sv,DE,H5,Dj.o.1,QO,h1,fun e he=>⟨O0.o e he,by have:=(Dj.o.2 e he).2;omega⟩,fun e he=>⟨(ae e he).1,by have:=(ae e he).2;omega⟩,DG.o⟩
end Go.Proofs.YtiplgdkpnhamaaaGreatDoor.Tv
