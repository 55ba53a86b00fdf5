import Derived.Test.YtiplgdkpnhamaaaGreatDoorT28
import Derived.Deep.RegionHeld3
import Derived.Deep.RegionWith
import Derived.Deep.DeepCutAuto
import Derived.BigRegion
set_option maxHeartbeats 8000000
set_option maxRecDepth 100000
namespace Go.Proofs.YtiplgdkpnhamaaaGreatDoor
open Go.Proofs.Tryz
open Go.RowKit
theorem api (w:World)(aj:Nat)(kind a b c:Int)(key text:ByteArray):Calls prog 17 #[ptr aj,.pointer none,.agg #[I kind,I a,I b,I c,ai key,ai text]] w (bx (.bool true) fun w'=>ax w w'):=by
 go_enter func17,ntmps17;go_wp2_with fail
 go_region;all_goals go_wp2_with fail
 all_goals go_ret
 all_goals exact⟨rfl,((cj _ _)).drew⟩
theorem apj (w:World)(aj r1 n fD l ix G9 oN:Nat)(anQ Tn OJ:Option Addr)(kind a b c:Int)(key text:ByteArray)
  (c8:eh w aj 0 (.slice anQ n ix))(dm:eh w r1 0 (.slice Tn fD G9))(ei:eh w r1 2 (.slice OJ l oN))(h:fD=n∨(¬fD=n∧l=0)):
  Calls prog 17 #[ptr aj,ptr r1,.agg #[I kind,I a,I b,I c,ai key,ai text]] w (bx (.bool true) fun w'=>ax w w'):=by
 have dc:=hU w _ c8;have bT:=hU w _ dm;simp only at dc bT;rcases h with rfl|⟨h,rfl⟩
 ·go_enter func17,ntmps17
  go_wp2_with fail
  go_region;all_goals go_wp2_with fail
  all_goals go_ret
  all_goals exact⟨rfl,((cj _ _)).drew⟩
 ·have h1:((fD:Int)==(n:Int))=false:=by simp;omega
  go_enter func17,ntmps17;go_wp2_with fail
  go_region;all_goals go_wp2_with fail
  all_goals go_ret
  all_goals exact⟨rfl,((cj _ _)).drew⟩
theorem aph (w:World)(aj r1 n fD l ix G9 oN iP jt bC eM eQ cN ln od Ka c3 c4 c5:Nat)(Tn a3 a4 a5:Option Addr)(xx:Bool)(kind a b c:Int)(key text tx:ByteArray)
  (c8:eh w aj 0 (bo iP n ix))(K5:eh w iP bC (ptr eQ))(mE:bC<n)(dm:eh w r1 0 (.slice Tn fD G9))(ei:eh w r1 2 (bo jt l oN))(wA:eM<l)
  (eo:eh w jt (eM*6) (ai tx))(aP:eh w jt (eM*6+1) (.bool xx))(ba:eh w jt (eM*6+2) (I cN))(ey:eh w jt (eM*6+3) (.slice a3 ln c3))(hB:eh w jt (eM*6+4) (.slice a4 od c4))(gS:eh w jt (eM*6+5) (.slice a5 Ka c5))
  (ha:∀v,Calls prog 51 #[I a,I n] v (bx (I bC) fun w'=>w'=v))(xH:∀v,Calls prog 51 #[I b,I l] v (bx (I eM) fun w'=>w'=v))(h:¬fD=n)
  (Gj:∀W,ax w W->Calls prog 40 #[ptr eQ,ai tx] W (bx (.tuple #[ai ⟨#[]⟩,I 6]) fun w'=>ax W w'))
  (GA:∀W,ax w W->Calls prog 41 #[ptr eQ,ai tx] W (bx (I 6) fun w'=>ax W w')):
  Calls prog 17 #[ptr aj,ptr r1,.agg #[I kind,I a,I b,I c,ai key,ai text]] w (bx (.bool true) fun w'=>ax w w'):=by
 have h1:((fD:Int)==(n:Int))=false:=by simp;omega
 have ae:((l:Int)==0)=false:=by simp;omega
 generalize bY:w.alloc (.cells #[I kind,I a,I b,I c,ai key,ai text] 30)=W;have ao:ax w W:=by rw[<-bY];exact cj _ _
 have sP:aQ W w.heap.size [I kind,I a,I b,I c,ai key,ai text] 30:=by rw[<-bY];exact cC w _
 replace c8:=bZ ao c8
 replace K5:=bZ ao K5
 replace dm:=bZ ao dm
 replace ei:=bZ ao ei
 have cI:=sP.c1;have dq:=sP.c2;have bX:=J (⟨bZ ao eo,bZ ao aP,bZ ao ba,bZ ao ey,bZ ao hB,bZ ao gS⟩:_∧_∧_∧_∧_∧_);have bO:=J ao;have dp:=J ha;have fs:=J xH;have cM:=J Gj;have bc:=J GA;have eY:=hU W _ c8;have q1:=hU W _ dm;have dy:=hU W _ cI;have fE:=hU W _ K5;have hf:=hU W _ bX.o.1;simp only at eY q1 dy fE hf;clear sP ao ha xH Gj GA eo aP ba ey hB gS h;go_enter func17,ntmps17;go_wp2_with fail
 go_region;go_upto_region 3 with(fail);go_cut[7] (fun v wc=>v=ptr eQ∧Hid (ax W wc))
 case first=>
  have m0:=aR.cell c8;have m1:=aR.cell K5;have m2:=aR.cell cI;have Lw:Hid (∀f:dO (aR W),Calls prog 51 #[I a,I n] f.w fun e fv=>e= .returned (I bC)∧∃g:dO (aR W),fv=g.w):=fun f=>(dp.o f.w).mono fun e w' ⟨h1,ae⟩=>⟨h1,f,ae⟩
  refine qm (aR W) (by kernel_rfl) (by kernel_rfl) (cE).drew.drew ?_;repeat(go_big_quiet_step (first|(go_at_call 51;exact Lw.o _)))
  refine gG ?_;intro _ ds;obtain⟨fq,rfl⟩:=ds;go_wp2_with fail
  go_meet;exact⟨rfl,fq.ok⟩
 case rest=>
  obtain⟨rfl,kA⟩:=hcut;obtain⟨hv,R5⟩:∃hv,hv=wc:=⟨_,rfl⟩;subst R5;have hs:=kA.o.size;have gl:=cy (bO.o.trans (kA.o.mono bO.o.size));have v2:=bZ kA.o ei;have rO:=bZ kA.o dq;have eo:=bZ kA.o bX.o.1;have aP:=bZ kA.o bX.o.2.1;have ba:=bZ kA.o bX.o.2.2.1;have ey:=bZ kA.o bX.o.2.2.2.1;have hB:=bZ kA.o bX.o.2.2.2.2.1;have gS:=bZ kA.o bX.o.2.2.2.2.2;have dk:r1<hv.heap.size:=by omega
  have eu:w.heap.size<hv.heap.size:=by omega
  have fO:jt<hv.heap.size:=by omega
  clear c8 K5 dm ei cI dq bX bO dp eY q1 dy fE hf h1 ae bY hs kA mE;go_upto_region 4 with(fail);go_cut[8] (fun p wd=>∃lb,p= .pointer (some (aa lb 0))∧Hid (aQ wd lb [ai tx,.bool xx,I cN,.slice a3 ln c3,.slice a4 od c4,.slice a5 Ka c5] 101∧ax hv wd))
  case first=>
   have aaN:¬hv.heap.size=r1:=by omega
   have aaO:¬r1=hv.heap.size:=by omega
   have SP:¬hv.heap.size=w.heap.size:=by omega
   have SQ:¬w.heap.size=hv.heap.size:=by omega
   have aaP:¬hv.heap.size=jt:=by omega
   have SR:¬jt=hv.heap.size:=by omega
   have aaR:=World.new_ne hv _ v2;have NI:=World.new_ne hv _ rO;have NJ:=World.new_ne hv _ eo;have aaS:=World.new_ne hv _ aP;have aaT:=World.new_ne hv _ ba;have SS:=World.new_ne hv _ ey;have aaU:=World.new_ne hv _ hB;have amD:=World.new_ne hv _ gS;go_region_held3(fun W=>W.cell? (aa r1 2)=some (bo jt l oN)∧W.cell? (aa (w.heap.size) 2)=some (I b)∧W.cell? (aa jt (eM*6))=some (ai tx)∧W.cell? (aa jt (eM*6+1))=some (.bool xx)∧W.cell? (aa jt (eM*6+2))=some (I cN)∧W.cell? (aa jt (eM*6+3))=some (.slice a3 ln c3)∧W.cell? (aa jt (eM*6+4))=some (.slice a4 od c4)∧W.cell? (aa jt (eM*6+5))=some (.slice a5 Ka c5)) (go_keep) (first|(go_at_call 51;refine(fs.o _).mono ?_;rintro e w5 ⟨rfl,rfl⟩))
   all_goals go_wp2_with fail
   all_goals go_meet
   all_goals exact⟨_,rfl,cC hv _,((cj _ _)).drew⟩
  case rest=>
   obtain⟨lb,rfl,cm⟩:=hcut;have jE:=cy (gl.o.trans (cm.o.2.mono gl.o.size));have z0:=cm.o.1.c0;have uE:=cm.o.1.lt;clear v2 rO eo aP ba ey hB gS dk eu fO gl fs;go_wp2_with fail
   refine(cM.o _ jE.o).mono ?_;rintro e w2 ⟨rfl,bP⟩;have qx:=cy (jE.o.trans (bP.mono jE.o.size));have h0:=bZ bP z0;have aq_:lb<w2.heap.size:=by have:=bP.size;omega
   clear bP z0 uE jE cm cM;go_wp2_with fail
   refine(bc.o _ qx.o).mono ?_;rintro e bN ⟨rfl,b0⟩;have mP:=cy (qx.o.trans (b0.mono qx.o.size));clear b0 qx h0 aq_;go_wp2_with fail
   go_ret;exact⟨rfl,mP.o⟩
theorem amP (w:World)(ak n:Nat)(t:ByteArray)(a:Nat)(e_ aq k:Int)(r:List UInt8)(h:ga w ak n t a)(au:t.data.toList.drop a=ec k++r)(aS: -9223372036854775808<=k)(h1:k<=9223372036854775807)(hb:k<e_∨aq<k)(al:fI w):
  Calls prog 161 #[bl ak,I e_,I aq] w fun e w'=>e=fault∧Touch (fun q=>q=ak) w w':=by
 have c1:∀f:dO (aR w),f.w.cell? (aa ak 1)=some (ai t):=aR.cell (h.U.cell 1);have c2:∀f:dO (aR w),f.w.cell? (aa ak 2)=some (I a):=aR.cell (h.U.cell 2);have hle:=h.le;have n_:=h.sm;have hlen:(t.data.toList.drop a).length=t.size-a:=by simp
 have gV:(Lib.itoa k).length+1+r.length=t.size-a:=by
  rw[<-hlen,au];simp[ec];omega
 have aP:Lib.indexByte (t.extract a t.size).data.toList 32=(Lib.itoa k).length:=by
  rw[F6,lQ (by simp),au,ec,mN];exact Sd _ _ (Nu k)
 have ba:t.extract a (a+(Lib.itoa k).length)=⟨(Lib.itoa k).toArray⟩:=by
  rw[F5,au];simp[ec]
 obtain⟨L,cT⟩:∃L:Nat,(Lib.itoa k).length=L:=⟨_,rfl⟩;rw[cT]at aP ba gV;have bX:=J (⟨aP,ba,cT⟩:_∧_∧_);have aO:=J h;have dA:=J al;clear aP ba au h hlen cT al;go_enter func161,ntmps161;go_wp2_with fail
 refine kd (aR w) 9 (by kernel_rfl) (by kernel_rfl) (cE).drew ?_;simp only[jC,ju,j4,jR];repeat(go_big_quiet_step (fail))
 refine gG ?_;intro _ ds;obtain⟨fq,rfl⟩:=ds;have bO:Hid (ax w fq.w):=fq.ok;generalize fq.w=an at*;clear c1 c2;have aq:=Se (t.extract a t.size) an;rw[bX.o.1]at aq;have cw:=J aq;have H1:=J (aO.o.later bO.o);have cD:=J (E1 an ak n t a L H1.o (by omega));clear aq;go_wp2_with(first|(go_at_call 196;refine cw.o.mono ?_;rintro e w2 ⟨rfl,rfl⟩)|(go_at_call 159;refine(Al _).mono ?_;rintro e w2 ⟨rfl,rfl⟩)|(go_at_call 160;refine cD.o.mono ?_;rintro e bN ⟨rfl,aH,t3⟩;refine gE ?_))
 refine Lib.hid ?_;rw[bX.o.2.1];have lE:Hid (Touch (fun q=>q=ak) w bN):=(Touch.dh bO.o).then t3;have HP:=J (E1 bN ak n t (a+L) 1 aH (by omega));have cF:(⟨(Lib.itoa k).toArray⟩:ByteArray).size=L:=by rw[<-bX.o.2.2];rfl
 have et:∀W:World,Calls prog 197 #[ai ⟨(Lib.itoa k).toArray⟩] W (bx (.tuple #[I k,.nilIface]) fun w'=>ax W w'):=fun W=>VD _ (by omega) k (by simpa using VC k aS h1) W
 have cM:=J et;clear aH t3 cw cD H1 bO et;go_wp2_with(first|(go_at_call 160;refine HP.o.mono ?_;rintro e cc ⟨rfl,bd,t4⟩;have cd:=J bd;have j7:=J t4;clear bd t4)|(go_at_call 197;refine(cM.o _).mono ?_;rintro e w5 ⟨rfl,ow⟩;have mP:=J ow;clear ow)|(go_at_call 198;refine gE ?_))
 refine Lib.hid ?_;have nk:Hid (Touch (fun q=>q=ak) w w5):=(lE.o.then j7.o).then (Touch.dh mP.o);have cw:=J (Z3 k aS h1 w5 (aO.o.ke dA.o nk.o));have cR:=J (cd.o.later mP.o);refine cw.o.mono ?_;rintro e eS ⟨rfl,gm⟩;have DK:Hid (Touch (fun q=>q=ak) w eS):=nk.o.then (Touch.dh gm);have dL:=J (cR.o.later gm);clear gm cw cR nk mP cd j7 lE cM HP;have e6:¬e_<=k∨(e_<=k∧¬k<=aq):=by omega
 clear hb;rcases e6 with hb|⟨D_,hb⟩
 all_goals
  go_wp2_with(go_at_call 159;refine(Wn _ (by first|rfl|(simp;omega))).mono ?_;rintro e qs ⟨rfl,rfl⟩)
  exact⟨rfl,rfl,DK.o⟩
theorem Yo (w:World)(ak n:Nat)(t:ByteArray)(c:UInt8)(k:Int)(r:List UInt8)(h:ga w ak n t 0)(au:t.data.toList=c::(ec k++r))(aS: -9223372036854775808<=k)(h1:k<=9223372036854775807)(hk:¬k=n)(al:fI w):
  Calls prog 116 #[bl ak,.int .u8 c.toNat] w fun e w'=>e=fault∧Touch (fun q=>q=ak) w w':=by
 generalize bj:w.alloc (.cells #[I 0,I 0,I 0,I 0,I 0,I 0] 144)=W0;have bp:ax w W0:=by rw[<-bj];exact cj _ _
 have hs:1<=t.size:=by
  have:t.data.toList.length=(ec k++r).length+1:=by rw[au];rfl
  have e:t.data.toList.length=t.size:=by simp
  omega
 have uk:t.data.toList.drop (0+1)=ec k++r:=by rw[au];rfl
 have e7:=E1 W0 ak n t 0 1 (h.later bp) (by omega);rw[F5,jR,au]at e7;simp only[Nat.sub_zero,jC,ju]at e7;have cD:=J e7;have Dl:=J bp;have di:=J bj;have aO:=J h;have cm:=J uk;clear h au bj bp e7 uk;go_enter func116,ntmps116;go_wp2_with(go_at_call 160;rw[di.o];refine cD.o.mono ?_;rintro e w2 ⟨rfl,b_,c6⟩;have mv:=J b_;have dG:Hid (Touch (fun q=>q=ak) w w2):=(Touch.dh Dl.o).then c6;clear c6 b_)
 go_wp2_with(go_at_call 159;refine(Qe _ (by show((c.toNat:Int)==(c.toNat:Int))=true;simp)).mono ?_;rintro e w2 ⟨rfl,rfl⟩)
 have xA:∀f:dO (aR w2),f.w.cell? (aa ak 0)=some (I n):=aR.cell (mv.o.U.cell 0);refine kd (aR w2) 9 (by kernel_rfl) (by kernel_rfl) (cE).drew ?_;simp only[jC,ju,j4,jR];repeat(go_big_quiet_step (fail))
 refine gG ?_;intro _ ds;obtain⟨fq,rfl⟩:=ds;have eD:Hid (Touch (fun q=>q=ak) w fq.w):=dG.o.then (Touch.dh fq.ok);have cp:=J (amP fq.w ak n t (0+1) n n k r (mv.o.later fq.ok) cm.o aS h1 (by omega) (aO.o.ke al eD.o));generalize fq.w=adr at*;clear xA mv;go_wp2_with(go_at_call 161;refine cp.o.mono ?_;rintro e bN ⟨rfl,lE⟩)
 exact⟨rfl,rfl,eD.o.then lE⟩
end Go.Proofs.YtiplgdkpnhamaaaGreatDoor
