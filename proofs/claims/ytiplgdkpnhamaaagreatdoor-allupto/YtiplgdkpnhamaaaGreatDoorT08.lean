import Derived.Test.YtiplgdkpnhamaaaGreatDoorT07
import Derived.Shelf.Abstract
import Derived.Deep.RegionLaw
import Derived.Deep.RegionWith
import Derived.Deep.DeepCutAuto
set_option maxHeartbeats 8000000
set_option maxRecDepth 100000
namespace Go.Proofs.YtiplgdkpnhamaaaGreatDoor
open Go.Proofs.Tryz List
open Go.RowKit
variable {o1:Nat->Own}{an:World}
theorem ahq (args:Array Value)(w:World):(callFunc 207 args).run prog w= .ok (.enter 207 args) w:=enters_of func207 (by kernel_rfl) rfl args w
theorem ag0 {s:ByteArray}(h:s.size<=maxLen)(ty:TypeId)(w:World):(Builtin.delete_ #[244,9] ty #[.map none,ai s]).run prog w= .ok (.tuple #[]) w:=by
 obtain⟨cQ,dU⟩:=zv h;simp[Builtin.delete_,Bh underlying244,zw.check w true dU,Result.andThen]
theorem len_nil (ty:TypeId)(w:World):(Builtin.len_ #[244] ty #[.map none]).run prog w= .ok (I 0) w:=by
 simp[Builtin.len_,Bh underlying244,Result.andThen,goInt]
theorem ahc {w:World}{o:Nat->Own}{aE cg bM b6 n:Nat}{bU:Value}{b4:Place->Option Value}{bB:ByteArray->Option Nat}{ah:Nat->Value}{st:b5}(h:fz w o aE cg bM b6 bU b4 bB ah n st)(x:cn)(au:x.Ok)(hn:n<1000000000000):
  Calls prog 177 #[bl aE,x.val] w (bx (.tuple #[]) fun w'=>∃o',fR w' o' aE n (vZ st x)∧bA dN w o w' o'):=by
 have AN:n<maxLen:=by unfold maxLen;omega
 obtain⟨cQ,hk⟩:=au.lit;have J4:=au.at_;obtain⟨⟨a_,bq⟩,⟨b1,dX⟩⟩:=x;simp only[cn.val]at*;generalize bj:w.alloc (.cells #[ai a_,ai bq,I b1,I dX] 233)=W0;have bp:ax w W0:=by rw[<-bj];exact cj _ _
 have gT:aQ W0 w.heap.size [ai a_,ai bq,I b1,I dX] 233:=by rw[<-bj];exact cC w _
 have aS:fz W0 o aE cg bM b6 bU b4 bB ah n st:=h.below bp;have sG:=aR.cell (show W0.cell? (aa aE 5)=some (.map (some cg))from aS.U.U.cell 5);have c8:=aR.cell (show W0.cell? (aa (w.heap.size) 0)=some (ai a_)from gT.cell 0);have dr:=aR.cell (show W0.cell? (aa (w.heap.size) 1)=some (ai bq)from gT.cell 1);have en:=aR.cell (show W0.cell? (aa (w.heap.size) 2)=some (I b1)from gT.cell 2);have d_:=aR.cell (show W0.cell? (aa (w.heap.size) 3)=some (I dX)from gT.cell 3);have aO:=J (⟨h,aS,gT,bp⟩:_∧_∧_∧_);have di:=J bj;have cm:=J (⟨hk,J4,au⟩:_∧_∧_);clear h aS gT bp hk J4 bj au;go_enter func177,ntmps177;go_wp2_with fail
 rw[di.o];refine kd (aR W0) 5 (by kernel_rfl) (by kernel_rfl) (cE).drew ?_;simp only[jC,ju,j4,jR];repeat(go_big_quiet_step (fail))
 refine gG ?_;intro _ ds;obtain⟨fq,rfl⟩:=ds;obtain⟨bR,aF⟩:=fq;try dsimp only
 -- E2 version goes
 have h1:=aO.o.2.1.below aF;obtain⟨w2,GB,rC,fi⟩:=h1.bh.drop (t:=178) NH underlying178 SN (a:=⟨⟨a_,bq⟩,⟨b1,dX⟩⟩) cm.o.1 0;have jW:bA (·= .aK) bR o w2 o:=bA.oi fi h1.nM;have ae:fz w2 o aE cg bM b6 bU b4 bB ah n {st with bh:=lv st.bh ⟨⟨a_,bq⟩,⟨b1,dX⟩⟩ none}:=h1.TK jW rC;have atb:=aO.o.1.bh.lt;have wh:aQ w2 w.heap.size [ai a_,ai bq,I b1,I dX] 233:=(aO.o.2.2.1.below aF).move (fi.block _ (aO.o.2.2.1.below aF).lt (fun e=>by injection e with e;omega));have dy:bA dN w o w2 o:=((bA.dh aO.o.2.2.2).below aF).trans (jW.mono fun t al=>by rw[al];trivial);have uz:=aR.cell (show w2.cell? (aa aE 6)=some (.map (some bM))from ae.U.U.cell 6);have dm:=aR.cell (show w2.cell? (aa (w.heap.size) 0)=some (ai a_)from wh.cell 0);have dz:=aR.cell (show w2.cell? (aa (w.heap.size) 1)=some (ai bq)from wh.cell 1);have cW:∀f:dO (aR w2),(Instr.lookup 179 (.map (some bM)) (.agg #[ai a_,ai bq]) false).run prog f.w= .ok (rB b4 ⟨a_,bq⟩) f.w:=fun f=>L4 ae cm.o.2.1 (f.ok.block _ ae.came.lt)
 have bu:=J (⟨ae,wh,dy⟩:_∧_∧_);simp only[cn.val]at GB;clear h1 rC fi jW ae wh dy sG c8 dr en d_;go_wp2_with fail
 refine kd (aR w2) 8 (by kernel_rfl) (by kernel_rfl) (cE).drew ?_;simp only[jC,ju,j4,jR];repeat(go_big_quiet_step (fail))
 refine gG ?_;intro _ ds;obtain⟨fq,rfl⟩:=ds;obtain⟨dH,b0⟩:=fq;try dsimp only
 clear GB uz dm dz cW;have Cz:=(bu.o.1.below b0).rowAt ⟨a_,bq⟩;have vm:=bu.o.2.1.below b0;have qc:=vm.lt;have hF:∀q,(rB b4 ⟨a_,bq⟩).ownBlock=some q->q<w.heap.size:=fun q ad=>(aO.o.1.rowAt ⟨a_,bq⟩).lt ad
 have cy:=ag1 dH (rB b4 ⟨a_,bq⟩) (st.came ⟨a_,bq⟩) Cz.row 207 #[bl w.heap.size] (fun d=>decide (d=⟨b1,dX⟩)) ahq (fun W bY d _=>by
  have hb:W.heap[w.heap.size]?=dH.heap[w.heap.size]?:=bY.block _ qc (fun e=>by have:=hF _ e;omega);exact ahd W w.heap.size d ⟨b1,dX⟩ (ua hb (vm.cell 2)) (ua hb (vm.cell 3)))
 go_wp2_with fail
 refine cy.mono ?_;rintro e ie ⟨v4,rfl,va,No,qO⟩;have cT:(rS (st.came ⟨a_,bq⟩) ⟨b1,dX⟩)=(st.came ⟨a_,bq⟩).filter fun e=> !decide (e=⟨b1,dX⟩):=rfl
 rw[<-cT]at va;clear cT cy;have aH:=bu.o.1.below b0;have fE:bA (fun t=>t= .mI∨t= .row ⟨a_,bq⟩) dH o ie o:=⟨qO.mono fun q _ e=>Or.inr (Cz.tag q e),fun _ _=>rfl⟩;have M3:aQ ie w.heap.size [ai a_,ai bq,I b1,I dX] 233:=vm.move (qO.block _ qc (fun e=>by have:=hF _ e;omega));have RQ:fS ie o .hR aE _ 183:=aH.U.ay fE (by simp);have Ya:=aH.came.hP (A:=(·= .row ⟨a_,bq⟩)) (w':=ie) (o':=o) ⟨qO.mono fun q _ e=>Cz.tag q e,fun _ _=>rfl⟩ (by rw[aH.lF];simp);have uz:=aR.cell (show ie.cell? (aa aE 6)=some (.map (some bM))from RQ.U.cell 6);have dm:=aR.cell (show ie.cell? (aa (w.heap.size) 0)=some (ai a_)from M3.cell 0);have dz:=aR.cell (show ie.cell? (aa (w.heap.size) 1)=some (ai bq)from M3.cell 1);have Vi:gZ ie o (.row ⟨a_,bq⟩) 62 2 v4 (rS (st.came ⟨a_,bq⟩) ⟨b1,dX⟩).length ((rS (st.came ⟨a_,bq⟩) ⟨b1,dX⟩).flatMap bF.cells):=⟨va,fun q ad=>Cz.tag q (by rw[<-No];exact ad)⟩;obtain⟨cA,cap,rfl,gg,jJ,-⟩:=va.shape;have cd:=J (⟨aH,fE,M3,RQ,Ya,Vi,bu.o.2.2.below b0⟩:_∧_∧_∧_∧_∧_∧bA dN w o dH o);clear Cz vm aH fE M3 RQ Ya Vi va No qO;obtain⟨AV,vj⟩:=cm.o.2.1.lit;have UQ:=J vj;clear vj;by_cases hlen:0<(rS (st.came ⟨a_,bq⟩) ⟨b1,dX⟩).length
 ·have wy:¬rS (st.came ⟨a_,bq⟩) ⟨b1,dX⟩=[]:=fun e=>by rw[e]at hlen;simp at hlen
  go_wp2_with fail
  refine kd (aR ie) 7 (by kernel_rfl) (by kernel_rfl) (cE).drew ?_;simp only[jC,ju,j4,jR];repeat(go_big_quiet_step (fail))
  refine gG ?_;intro _ ds;obtain⟨fq,rfl⟩:=ds;obtain⟨fY,c7⟩:=fq;try dsimp only
  clear uz dm dz;obtain⟨u0,akF⟩:∃u,b4 ⟨a_,bq⟩=some u:=by
   cases c:b4 ⟨a_,bq⟩with
   |none=>
    have:=cd.o.1.q3 _ c;have c2:st.came ⟨a_,bq⟩=[]:=this;rw[c2]at hlen;simp[rS]at hlen
   |some u=>exact⟨u,rfl⟩
  obtain⟨eS,GC,sg,mD⟩:=(cd.o.2.2.2.2.1.move (w':=fY) (c7.block _ cd.o.2.2.2.2.1.lt)).acK (t:=179) rV underlying179 zn AN UQ.o akF (.slice cA (rS (st.came ⟨a_,bq⟩) ⟨b1,dX⟩).length cap);have zz:o bM= .mI:=cd.o.1.lF;have o_:bA (·= .mI) fY o eS o:=bA.oi mD zz;have rP:bA (fun t=>t= .mI∨t= .row ⟨a_,bq⟩) dH o eS o:=(cd.o.2.1.below c7).trans (o_.mono fun t al=>Or.inl al);have Ic:=(cd.o.2.2.2.2.2.1.below c7).ay o_ (by simp);have ep:=cd.o.1.setRow (p:=⟨a_,bq⟩) (l:=rS (st.came ⟨a_,bq⟩) ⟨b1,dX⟩) rP sg (fun q ad=>by simp[ad]) (by simp) Ic;have bX:=J (⟨ep,cd.o.2.2.2.2.2.2.trans (rP.mono fun t al=>by rcases al with rfl|rfl<;>trivial)⟩:_∧bA dN w o eS o);clear zz o_ rP Ic ep sg mD;simp only[Place.val]at GC;go_wp2_with fail
  have e:vZ st ⟨⟨a_,bq⟩,⟨b1,dX⟩⟩={st with bh:=lv st.bh ⟨⟨a_,bq⟩,⟨b1,dX⟩⟩ none,came:=ml st.came ⟨a_,bq⟩ (rS (st.came ⟨a_,bq⟩) ⟨b1,dX⟩)}:=by
   unfold vZ;rw[if_neg wy]
  have nX:∃o',fR eS o' aE n (vZ st ⟨⟨a_,bq⟩,⟨b1,dX⟩⟩)∧bA dN w o eS o':=by
   rw[e];exact⟨_,⟨_,_,_,_,_,_,_,bX.o.1⟩,bX.o.2⟩
  exact iX (v:= .tuple #[]) (by simp[results,results177,go_sem]) rfl ⟨rfl,nX⟩
 ·have wy:rS (st.came ⟨a_,bq⟩) ⟨b1,dX⟩=[]:=eq_nil_of_length_eq_zero (by omega)
  have Lu:=J wy;clear wy;go_wp2_with fail
  refine kd (aR ie) 6 (by kernel_rfl) (by kernel_rfl) (cE).drew ?_;simp only[jC,ju,j4,jR];repeat(go_big_quiet_step (fail))
  refine gG ?_;intro _ ds;obtain⟨fq,rfl⟩:=ds;obtain⟨fY,c7⟩:=fq;try dsimp only
  clear uz dm dz;obtain⟨eS,GC,sg,mD⟩:=(cd.o.2.2.2.2.1.move (w':=fY) (c7.block _ cd.o.2.2.2.2.1.lt)).drop (t:=179) rV underlying179 zn UQ.o 0;have zz:o bM= .mI:=cd.o.1.lF;have o_:bA (·= .mI) fY o eS o:=bA.oi mD zz;have rP:bA (fun t=>t= .mI∨t= .row ⟨a_,bq⟩) dH o eS o:=(cd.o.2.1.below c7).trans (o_.mono fun t al=>Or.inl al);have ep:=cd.o.1.agX (p:=⟨a_,bq⟩) rP sg (fun q ad=>by simp[ad]) (by simp);have nc:bA dN w o eS o:=cd.o.2.2.2.2.2.2.trans (rP.mono fun t al=>by rcases al with rfl|rfl<;>trivial);have Ea:aQ eS w.heap.size [ai a_,ai bq,I b1,I dX] 233:=(cd.o.2.2.1.below c7).move (mD.block _ (cd.o.2.2.1.below c7).lt (fun e=>by injection e with e;have:=aO.o.1.came.lt;omega));have dL:=J (⟨ep,Ea,nc⟩:_∧_∧_);clear zz o_ rP ep nc Ea sg mD;simp only[Place.val]at GC;have sH:=aR.cell (show eS.cell? (aa aE 7)=some (.map (some b6))from dL.o.1.U.U.cell 7);have dm:=aR.cell (show eS.cell? (aa (w.heap.size) 0)=some (ai a_)from dL.o.2.1.cell 0);have dz:=aR.cell (show eS.cell? (aa (w.heap.size) 1)=some (ai bq)from dL.o.2.1.cell 1);have cW:∀f:dO (aR eS),(Instr.lookup 180 (.map (some b6)) (ai a_) false).run prog f.w= .ok (.map (bB a_)) f.w:=fun f=>DV dL.o.1.els cm.o.2.1.key (f.ok.block _ dL.o.1.els.lt)
  go_wp2_with fail
  refine kd (aR eS) 11 (by kernel_rfl) (by kernel_rfl) (cE).drew ?_;simp only[jC,ju,j4,jR];repeat(go_big_quiet_step (fail))
  refine gG ?_;intro _ ds;obtain⟨fq,rfl⟩:=ds;obtain⟨jT,gb⟩:=fq;try dsimp only
  clear sH dm dz cW GC;cases jc:bB a_ with
  |none=>
   have Ei:=fun w=>ag0 cm.o.2.1.el 0 w
   have p7:=dL.o.1.below gb;have Q0:=dL.o.2.1.below gb;have sH:=aR.cell (show jT.cell? (aa aE 7)=some (.map (some b6))from p7.U.U.cell 7);have dm:=aR.cell (show jT.cell? (aa (w.heap.size) 0)=some (ai a_)from Q0.cell 0);have cW:∀f:dO (aR jT),(Instr.lookup 180 (.map (some b6)) (ai a_) false).run prog f.w= .ok (.map none) f.w:=fun f=>by
    have:=DV p7.els cm.o.2.1.key (f.ok.block _ p7.els.lt);rw[jc]at this;exact this
   have ij:=fun w=>len_nil 3 w
   have kg:=J (⟨p7,Q0,dL.o.2.2.below gb⟩:_∧_∧bA dN w o jT o);have Fv:=J jc;clear p7 Q0 jc;go_wp2_with fail
   refine qm (aR jT) (by kernel_rfl) (by kernel_rfl) (cE).drew ?_;repeat(go_big_quiet_step (fail))
   refine gG ?_;intro _ ds;obtain⟨fq,rfl⟩:=ds;obtain⟨vQ,lZ⟩:=fq;try dsimp only
   clear sH dm cW ij Ei;have mC:=kg.o.1.below lZ;have pB:=kg.o.2.1.below lZ;have sH:=aR.cell (show vQ.cell? (aa aE 7)=some (.map (some b6))from mC.U.U.cell 7);have dm:=aR.cell (show vQ.cell? (aa (w.heap.size) 0)=some (ai a_)from pB.cell 0);clear mC pB;go_wp2_with fail
   refine kd (aR vQ) 7 (by kernel_rfl) (by kernel_rfl) (cE).drew ?_;simp only[jC,ju,j4,jR];repeat(go_big_quiet_step (fail))
   refine gG ?_;intro _ ds;obtain⟨fq,rfl⟩:=ds;obtain⟨PL,I2⟩:=fq;try dsimp only
   clear sH dm;have lH:=(kg.o.1.below lZ).below I2;obtain⟨alK,Jw⟩:=zv cm.o.2.1.key;obtain⟨KZ,aks,I_,Jp⟩:=lH.els.drop (t:=180) zw underlying180 E0 Jw 0;have zh:bA (·= .x6) PL o KZ o:=bA.oi Jp lH.ox;have eV:∀e,st.els a_ e=false:=lH.tC a_ Fv.o;have IW:=(lH.Wl (key:=a_) zh I_ (fun q ad=>by simp[ad]) (by simp) eV);have bX:=J (⟨IW,((kg.o.2.2.below lZ).below I2).trans (zh.mono fun t al=>by rw[al];trivial)⟩:_∧bA dN w o KZ o);have e:vZ st ⟨⟨a_,bq⟩,⟨b1,dX⟩⟩={st with bh:=lv st.bh ⟨⟨a_,bq⟩,⟨b1,dX⟩⟩ none,came:=ml st.came ⟨a_,bq⟩ []}:=by
    unfold vZ;rw[if_pos Lu.o,Lu.o];have:nI st.els ⟨a_,bq⟩ false=st.els:=by
     funext k e;unfold nI;split
     ·rename_i c;rw[c.1];exact(eV e).symm
     ·rfl
    rw[this]
   have Lk:=J e;clear lH Jw I_ Jp zh eV IW e;go_wp2_with fail
   go_end0;refine⟨rfl,_,?_,bX.o.2⟩;rw[Lk.o];exact⟨_,_,_,_,_,_,_,bX.o.1⟩
  |some b=>
   obtain⟨Sq,YV⟩:=zv cm.o.2.1.el;have p7:=dL.o.1.below gb;obtain⟨kI,JR,Ja,xP⟩:=(p7.set a_ b jc).drop (t:=244) zw underlying244 E0 YV 0;have J8:bA (·= .set a_) jT o kI o:=bA.oi xP (p7.mM a_ b jc);have lI:=p7.TJ (p:=⟨a_,bq⟩) (x:=false) J8 jc cm.o.2.1.el (by simpa using Ja);have EU:bA dN w o kI o:=(dL.o.2.2.below gb).trans (J8.mono fun t al=>by rw[al];trivial);have Gk:aQ kI w.heap.size [ai a_,ai bq,I b1,I dX] 233:=(dL.o.2.1.below gb).move (xP.block _ (dL.o.2.1.below gb).lt (fun e=>by injection e with e;have:=(aO.o.1.set a_ b jc).lt;omega));have sH:=aR.cell (show kI.cell? (aa aE 7)=some (.map (some b6))from lI.U.U.cell 7);have dm:=aR.cell (show kI.cell? (aa (w.heap.size) 0)=some (ai a_)from Gk.cell 0);have cW:∀f:dO (aR kI),(Instr.lookup 180 (.map (some b6)) (ai a_) false).run prog f.w= .ok (.map (some b)) f.w:=fun f=>by
    have:=DV lI.els cm.o.2.1.key (f.ok.block _ lI.els.lt);rw[jc]at this;exact this
   obtain⟨c,MI,uj,fh⟩:=(lI.set a_ b jc).len (t:=244) underlying244 3;have ajR:∀f:dO (aR kI),(Builtin.len_ #[244] 3 #[.map (some b)]).run prog f.w= .ok (I c) f.w:=fun f=>fh _ (f.ok.block _ (lI.set a_ b jc).lt)
   have kg:=J (⟨lI,Gk,EU,uj⟩:_∧_∧_∧_);have Fv:=J jc;clear p7 Ja xP J8 lI EU Gk fh uj jc YV;go_wp2_with fail
   refine qm (aR kI) (by kernel_rfl) (by kernel_rfl) (cE).drew ?_;repeat(go_big_quiet_step (fail))
   refine gG ?_;intro _ ds;obtain⟨fq,rfl⟩:=ds;obtain⟨vQ,lZ⟩:=fq;try dsimp only
   clear sH dm cW ajR JR;have e:vZ st ⟨⟨a_,bq⟩,⟨b1,dX⟩⟩={st with bh:=lv st.bh ⟨⟨a_,bq⟩,⟨b1,dX⟩⟩ none,came:=ml st.came ⟨a_,bq⟩ [],els:=nI st.els ⟨a_,bq⟩ false}:=by
    unfold vZ;rw[if_pos Lu.o,Lu.o]
   have Lk:=J e;clear e;by_cases Yd:c=0
   ·subst Yd
    have mC:=kg.o.1.below lZ;have pB:=kg.o.2.1.below lZ;have sH:=aR.cell (show vQ.cell? (aa aE 7)=some (.map (some b6))from mC.U.U.cell 7);have dm:=aR.cell (show vQ.cell? (aa (w.heap.size) 0)=some (ai a_)from pB.cell 0);clear mC pB;go_wp2_with fail
    refine kd (aR vQ) 7 (by kernel_rfl) (by kernel_rfl) (cE).drew ?_;simp only[jC,ju,j4,jR];repeat(go_big_quiet_step (fail))
    refine gG ?_;intro _ ds;obtain⟨fq,rfl⟩:=ds;obtain⟨PL,I2⟩:=fq;try dsimp only
    clear sH dm;have lH:=(kg.o.1.below lZ).below I2;obtain⟨alK,Jw⟩:=zv cm.o.2.1.key;obtain⟨KZ,aks,I_,Jp⟩:=lH.els.drop (t:=180) zw underlying180 E0 Jw 0;have zh:bA (·= .x6) PL o KZ o:=bA.oi Jp lH.ox;have eV:∀e,nI st.els ⟨a_,bq⟩ false a_ e=false:=fun e=>by
     cases he:nI st.els ⟨a_,bq⟩ false a_ e with
     |false=>rfl
     |true=>
      obtain⟨alL,ajL⟩:=zv (lH.s8 a_ e he);have:=kg.o.2.2.2 (by trivial) e alL ajL;unfold p6 at this;simp[he]at this
    have IW:=(lH.Wl (key:=a_) zh I_ (fun q ad=>by simp[ad]) (by simp) eV);have bX:=J (⟨IW,((kg.o.2.2.1.below lZ).below I2).trans (zh.mono fun t al=>by rw[al];trivial)⟩:_∧bA dN w o KZ o);clear lH Jw I_ Jp zh eV IW;go_wp2_with fail
    go_end0;refine⟨rfl,_,?_,bX.o.2⟩;rw[Lk.o];exact⟨_,_,_,_,_,_,_,bX.o.1⟩
   ·have asi:((c:Int)==0)=false:=Bg.2 (by omega)
    clear Yd;go_wp2_with fail
    go_end0;refine⟨rfl,_,?_,kg.o.2.2.1.below lZ⟩;rw[Lk.o];exact⟨_,_,_,_,_,_,_,(kg.o.1.below lZ)⟩
theorem Z8 {bh:cn->Option gQ}{x:cn}:∀{a:List ej} {s:ej} {b:List ej},(∀t,t∈a->mK t.saw bh x=false)->mK s.saw bh x=true->wL bh x (a++s::b)=some (a++oJ x s::b)
 |[],s,b,_,hs=>by simp[wL,hs]
 |t::a,s,b,aU,hs=>by
  have al:=aU t (by simp);have ih:=Z8 (a:=a) (b:=b) (fun u hu=>aU u (by simp[hu])) hs;simp[wL,al,ih]
theorem Z9 {bh:cn->Option gQ}{x:cn}:∀{a:List ej},(∀t,t∈a->mK t.saw bh x=false)->wL bh x a=none
 |[],_=>rfl
 |t::a,aU=>by
  have ih:=Z9 (a:=a) (fun u hu=>aU u (by simp[hu]));simp[wL,aU t (by simp),ih]
section
variable {w w':World}{o o':Nat->Own}{aE cg bM b6 n:Nat}{bU:Value}{b4:Place->Option Value}{bB:ByteArray->Option Nat}{ah:Nat->Value}{st:b5}
theorem fz.alG (h:fz w o aE cg bM b6 bU b4 bB ah n st)(ho:(st.bW.map ej.U).Nodup){a b:List ej}{s:ej}(e:st.bW=a++s::b){x:cn}{v5:Value}(k:bA (fun t=>t= .snap s.U∨t= .kept s.U) w o w' o')
  (ao:fS w' o' (.snap s.U) s.U [bl aE,I s.saw.a,I s.saw.b,I s.saw.c,I s.saw.d,I s.saw.e,v5] 186)(bI:gZ w' o' (.kept s.U) 233 4 v5 (s.kept++[x]).length ((s.kept++[x]).flatMap cn.cells)):
  fz w' o' aE cg bM b6 bU b4 bB (fun q=>if q=s.U then v5 else ah q) n {st with bW:=a++oJ x s::b}:=by
 have ik:∀t,t∈a++oJ x s::b->t=oJ x s∨(t∈st.bW∧t.U≠s.U):=fun t al=>by
  rw[e,tJ,map_cons,yn]at ho;obtain⟨og,fD,mh⟩:=ho;rw[yt]at fD;rw[hT,h3]at al;rcases al with c|c|c
  ·exact Or.inr ⟨by rw[e];simp[c],fun eq=>mh _ (gF.2 ⟨t,c,rfl⟩) s.U (by simp) eq⟩
  ·exact Or.inl c
  ·exact Or.inr ⟨by rw[e];simp[c],fun eq=>fD.1 (by rw[<-eq];exact gF.2 ⟨t,c,rfl⟩)⟩
 refine⟨h.U.ay k (by simp),h.bh.hP k (by rw[h.nM];simp),(k.same _ h.bh.lt).trans h.nM,h.came.hP k (by rw[h.lF];simp),(k.same _ h.came.lt).trans h.lF,h.q3,fun q u ad=>(h.row q u ad).ay k (by simp),h.els.hP k (by rw[h.ox];simp),(k.same _ h.els.lt).trans h.ox,h.tC,
  fun x b e=>(k.same _ (h.set x b e).lt).trans (h.mM x b e),fun x b e=>(h.set x b e).hP k (by rw[h.mM x b e];simp),?_,fun t al=>?_,fun t al=>?_,h.s8⟩
 ·have cO:=h.opens.ay k (by simp)
  rw[e]at cO;simpa[oJ]using cO
 ·rcases ik t al with rfl|⟨ma,bS⟩
  ·simpa[oJ]using ao
  ·have cO:=(h.snap t ma).ay k (by simp[bS])
   simpa[bS]using cO
 ·rcases ik t al with rfl|⟨ma,bS⟩
  ·simpa[oJ]using bI
  ·have cO:=(h.kept t ma).ay k (by simp[bS])
   simpa[bS]using cO
end
theorem Tryz.ald:(prog.info? 233).map (fun i=>(i.zero,i.size,i.bytes))=some (some (.agg #[ai ⟨#[]⟩,ai ⟨#[]⟩,I 0,I 0]),4,48):=by kernel_rfl
theorem WJ {w:World}{o:Nat->Own}{aE n:Nat}{st:b5}(ez:fR w o aE n st)(ho:(st.bW.map ej.U).Nodup)(x:cn)(au:x.Ok)(hw:∀v,st.bh x=some v->0<=v.fL.rep∧v.fL.rep<5)(hk:ku st 1)(hn:n<1000000000000):
  Calls prog 147 #[bl aE,x.val] w (bx (.tuple #[]) fun w'=>∃o',fR w' o' aE n (gA st x)∧bA dN w o w' o'):=by
 obtain⟨cg,bM,b6,bU,b4,bB,ah,h⟩:=ez;obtain⟨i0,aq,dC,dM,dK⟩:=iV Tryz.ald;have cm:=J (⟨au,hw,hk,ho⟩:_∧_∧_∧_);obtain⟨⟨a_,bq⟩,⟨b1,dX⟩⟩:=x;simp only[cn.val]at*;generalize bj:w.alloc (.cells #[ai a_,ai bq,I b1,I dX] 233)=W0;have bp:ax w W0:=by rw[<-bj];exact cj _ _
 have gT:aQ W0 w.heap.size [ai a_,ai bq,I b1,I dX] 233:=by rw[<-bj];exact cC w _
 have aS:=h.below bp;obtain⟨cA,cap,rfl,gg,jJ,eb⟩:=aS.opens.row.shape;have aca:=aS.U.U.yN;unfold maxLen at jJ;have aO:=J (⟨h,aS,gT,bp,eb⟩:_∧_∧_∧_∧_);have cw:=J (⟨aq,dC,dM,dK⟩:_∧_∧_∧_);have o3:=h.U.U.lt;have atS:=h.U.U.yN;have di:=J bj;clear h aS gT bp eb aq dC dM dK au hw hk ho bj;go_enter func147,ntmps147;go_wp2_with fail
 rw[di.o];go_loopw[11] (fun i wr=>∃k:Nat,k<=st.bW.length∧i=I k∧Hid ((∀t,t∈st.bW.take k->mK t.saw st.bh ⟨⟨a_,bq⟩,⟨b1,dX⟩⟩=false)∧ax W0 wr)) (fun i _=>st.bW.length-(intOf i).toNat)
 case atStart=>exact⟨0,ch,rfl,fun t al=>by simp at al,cE⟩
 case round=>
  obtain⟨k,dU,rfl,hinv⟩:=hrel;have l2:=aO.o.2.2.1.below hinv.o.2;have dm:=l2.c0;have dz:=l2.c1;have ei:=l2.c2;have fG:=l2.c3;clear l2;by_cases cW:k<st.bW.length
  ·obtain⟨g0,eo,c0⟩:=aO.o.2.2.2.2 k (by omega)
   subst eo;rw[zK,hg cW]at c0;have d0:=bZ hinv.o.2 c0;clear c0;have h1:=aO.o.2.1.below hinv.o.2;have o4:=h1.snap st.bW[k] (eT cW);have o2:=abU wr st.bW[k].U aE cg n st.bW[k].saw (ah st.bW[k].U) ⟨⟨a_,bq⟩,⟨b1,dX⟩⟩ st.bh o4.U (h1.U.U.cell 5) h1.bh cm.o.1 cm.o.2.1;have uI:=J o4;obtain⟨s,hs⟩:∃s,st.bW[k]=s:=⟨_,rfl⟩;have aL:=J hs;unfold Hid at uI;rw[hs]at d0 o2 uI;have arj:=J uI;clear h1 o4 hs uI;cases aJ:mK s.saw st.bh ⟨⟨a_,bq⟩,⟨b1,dX⟩⟩
   ·rw[aJ]at o2
    have r5:=J o2;have bc:=J aJ;clear o2 aJ;go_wp2_with fail
    refine r5.o.mono ?_;rintro e an ⟨rfl,aF⟩;go_wp2_with fail
    refine⟨⟨k+1,by omega,by go_num,fun t al=>?_,hinv.o.2.trans (aF.mono hinv.o.2.size)⟩,by simp[intOf];omega⟩;rw[kr cW,hT,k4]at al;rcases al with c|c
    ·exact hinv.o.1 t c
    ·rw[c,aL.o];exact bc.o
   ·rw[aJ]at o2
    have r5:=J o2;have bc:=J aJ;clear o2 aJ;go_wp2_with fail
    refine r5.o.mono ?_;rintro e an ⟨rfl,aF⟩;have kP:=hinv.o.2.trans (aF.mono hinv.o.2.size);have h1:=aO.o.2.1.below kP;have l2:=aO.o.2.2.1.below kP;have RR:s∈st.bW:=by rw[<-aL.o];exact eT cW
    have o4:=h1.snap s RR;have vj:=h1.kept s RR;have Cq:=cm.o.2.2.1 s RR;clear dm dz ei fG d0;have dm:=l2.c0;have dz:=l2.c1;have ei:=l2.c2;have fG:=l2.c3;have iG:=o4.U.iG;have as6:=o4.U.lt;have td:=l2.lt;obtain⟨Sw,Ro⟩:∃v,ah s.U=v:=⟨_,rfl⟩;have arh:=J Ro;rw[Ro]at iG vj o4;have xI:aQ (an.alloc (.cells #[ai a_,ai bq,I b1,I dX] 233)).drew an.heap.size [ai a_,ai bq,I b1,I dX] 233:=cC an _;have Dt:=J (A0 xI);have zT:=J (⟨vj,o4,h1,kP⟩:_∧_∧_∧_);have wk:¬Sw.ownBlock=some s.U:=fun e=>by have:=vj.tag _ e;rw[o4.tag]at this;cases this
    clear h1 l2 o4 vj Ro xI kP aF;go_wp2_with fail
    go_region_law(refine q6 rfl _ _ 184 rfl 233 i0 (.agg #[ai ⟨#[]⟩,ai ⟨#[]⟩,I 0,I 0]) 4 48 underlying184 cw.o.1 cw.o.2.1 cw.o.2.2.1 cw.o.2.2.2 rfl (by decide) Sw s.kept.length (s.kept.flatMap cn.cells) (by simp[Act.eval]) (by exact h2 zT.o.1.row _) (aa (an.heap.size) 0) 1 1 [ai a_,ai bq,I b1,I dX] (by simp[Act.eval]) rfl (by exact Dt.o) (by intro u hu;simp at hu;rcases hu with rfl|rfl|rfl|rfl<;>rfl) (by unfold maxLen;omega) (by omega) ?_;intro v5 w5 cB b_ dW;obtain⟨g5,t_,rfl,-,-,-,-,-⟩:=Row.pos cB (by omega);have G8:(an.alloc (.cells #[ai a_,ai bq,I b1,I dX] 233)).grownBy w5 Sw.ownBlock:=⟨b_.os,b_.tape,b_.output,b_.size,b_.block⟩;have iT:=((zT.o.2.1.alloc (.cells #[ai a_,ai bq,I b1,I dX] 233)).dw G8 zT.o.1.tag (by simp));have nc:=iT.U.cell 6;have sF:=iT.U.frozen 6;have CM:=iT.U.lt;have rj:=J (⟨cB,G8,dW,iT⟩:_∧_∧_∧_);clear cB b_ G8 dW iT)
    all_goals go_wp2_with fail
    all_goals
     have oH:st.bW=st.bW.take k++s::st.bW.drop (k+1):=by
      rw[<-aL.o,<-drop_eq_getElem_cons cW,take_append_drop]
     have l3:gA st ⟨⟨a_,bq⟩,⟨b1,dX⟩⟩={st with bW:=st.bW.take k++oJ ⟨⟨a_,bq⟩,⟨b1,dX⟩⟩ s::st.bW.drop (k+1)}:=by
      unfold gA;have:=Z8 (b:=st.bW.drop (k+1)) hinv.o.1 bc.o;rw[<-oH]at this;rw[this]
     obtain⟨cB,b_,dW,iT⟩:=rj.o;obtain⟨vj,o4,h1,kP⟩:=zT.o;have q1:=((bA.refl (fun t=>t=Own.snap s.U∨t= .kept s.U) an o).alloc (.cells #[ai a_,ai bq,I b1,I dX] 233)).dw b_ vj.tag (Or.inr rfl);have dy:=q1.set (p:=(aa (s.U) 6)) (by show _∨_;rw[iT.tag];exact Or.inl rfl) (bo g5 (s.kept.length+1) t_);have BN:=((vj.alloc (.cells #[ai a_,ai bq,I b1,I dX] 233)).app cB dW).set (p:=(aa (s.U) 6)) iT.tag (by simp) (bo g5 (s.kept.length+1) t_);rw[show s.kept.flatMap cn.cells++[ai a_,ai bq,I b1,I dX]=(s.kept++[(⟨⟨a_,bq⟩,⟨b1,dX⟩⟩:cn)]).flatMap cn.cells by simp]at BN;have mP:=iT.set 6 (bo g5 (s.kept.length+1) t_);have nX:=h1.alG cm.o.2.2.2 oH (x:=⟨⟨a_,bq⟩,⟨b1,dX⟩⟩) dy mP (by simpa using BN);have l8:∃o',fR (w5.setCell (aa (s.U) 6) (bo g5 (s.kept.length+1) t_)) o' aE n (gA st ⟨⟨a_,bq⟩,⟨b1,dX⟩⟩)∧bA dN w o (w5.setCell (aa (s.U) 6) (bo g5 (s.kept.length+1) t_)) o':=by
      rw[l3];exact⟨_,⟨_,_,_,_,_,_,_,nX⟩,(((bA.dh aO.o.2.2.2.1).below kP).trans (dy.mono fun t al=>by rcases al with rfl|rfl<;>trivial))⟩
     exact iX (v:= .tuple #[]) (by simp[results,results147,go_sem]) rfl ⟨rfl,l8⟩
  ·have h1:=aO.o.2.1.below hinv.o.2
   have uk:=ahc h1 ⟨⟨a_,bq⟩,⟨b1,dX⟩⟩ cm.o.1 hn;simp only[cn.val]at uk;have Dq:=J uk;clear h1 uk;go_wp2_with fail
   refine Dq.o.mono ?_;rintro e w2 ⟨rfl,o',dJ,ad⟩;have nX:gA st ⟨⟨a_,bq⟩,⟨b1,dX⟩⟩=vZ st ⟨⟨a_,bq⟩,⟨b1,dX⟩⟩:=by
    unfold gA;rw[Z9 fun t al=>hinv.o.1 t (by rw[lQ (by omega)];exact al)]
   have tP:=J nX;clear nX;go_wp2_with fail
   go_end0;refine⟨rfl,o',?_,((bA.dh aO.o.2.2.2.1).below hinv.o.2).trans ad⟩;rw[tP.o];exact dJ
theorem fR.jo {w:World}{o:Nat->Own}{aE n:Nat}{st:b5}(h:fR w o aE n st)(f:Nat->Own):fR w (je o w.heap.size f) aE n st:=by
 obtain⟨cg,bM,b6,bU,b4,bB,ah,h⟩:=h;exact⟨cg,bM,b6,bU,b4,bB,ah,h.move fun q ad _=>⟨rfl,jz ad⟩⟩
theorem fR.below {w w':World}{o:Nat->Own}{aE n:Nat}{st:b5}(h:fR w o aE n st)(ao:ax w w'):fR w' o aE n st:=by
 obtain⟨cg,bM,b6,bU,b4,bB,ah,h⟩:=h;exact⟨cg,bM,b6,bU,b4,bB,ah,h.below ao⟩
theorem fR.mono {w:World}{o:Nat->Own}{aE n n':Nat}{st:b5}(h:fR w o aE n st)(hn:n<=n'):fR w o aE n' st:=by
 obtain⟨cg,bM,b6,bU,b4,bB,ah,h⟩:=h;exact⟨cg,bM,b6,bU,b4,bB,ah,h.mono hn⟩
theorem bA.jo {A:Own->Prop}{w:World}{o:Nat->Own}(h:bA A w o an o1)(f:Nat->Own):bA A w o an (je o1 an.heap.size f):=
 ⟨h.ay,fun q ad=>by rw[jz (hV ad h.ay.size)];exact h.same q ad⟩
theorem ku.steps (p:Place)(seen:aW)(cN:bF):∀(l:List bF) (st:b5) (m:Nat),ku st (m+l.length)->ku (l.foldl (iy p seen cN) st) m
 |[],_,_,h=>h
 |d::l,st,m,h=>ku.steps p seen cN l _ m (ku.one (m:=m+l.length) (by rw[lP]at h;exact h) p seen cN d)
abbrev others:Nat->Own:=fun _=> .other
theorem rZ:¬dN .other:=id
theorem Og {w:World}{o:Nat->Own}{aE n:Nat}{st:b5}(ez:fR w o aE n st)(bY:st.h5)(p:Place)(aw:p.Ok)(seen:aW)(cN:bF)(hb:cN.Ok)(hk:ku st (st.came p).length)(aC:(st.came p).length<=1000000000)(hn:n<1000000000000):
  Calls prog 149 #[bl aE,p.val,seen.val,cN.val] w (bx (.tuple #[]) fun w'=>∃o',fR w' o' aE n (oL st p seen cN)∧bA dN w o w' o'):=by
 have AN:n<maxLen:=by unfold maxLen;omega
 obtain⟨a_,bq⟩:=p;obtain⟨g_,gR⟩:=cN;simp only[Place.val]at*;generalize bj:((w.alloc (.cells #[ai a_,ai bq] 129)).alloc (.cells #[I seen.a,I seen.b,I seen.c,I seen.d,I seen.e] 104)).alloc (.cells #[I g_,I gR] 62)=W0;have bp:ax w W0:=by rw[<-bj];exact(((cj _ _)).alloc (by simp) _).alloc (by simp;omega) _
 have dC:W0.heap.size=w.heap.size+3:=by rw[<-bj];simp
 have eA:aQ W0 w.heap.size [ai a_,ai bq] 129:=by rw[<-bj];exact(aQ.first w _ _ _).alloc _
 have e6:aQ W0 (w.heap.size+1) [I seen.a,I seen.b,I seen.c,I seen.d,I seen.e] 104:=by rw[<-bj];exact(aQ.second w _ _ _).alloc _
 have tc:aQ W0 (w.heap.size+2) [I g_,I gR] 62:=by
  rw[<-bj];have a:=aQ.second (w.alloc (.cells #[ai a_,ai bq] 129)) (.cells #[I seen.a,I seen.b,I seen.c,I seen.d,I seen.e] 104) [I g_,I gR] 62;rw[show(w.alloc (.cells #[ai a_,ai bq] 129)).heap.size=w.heap.size+1 by simp]at a;exact a
 obtain⟨o1,ny⟩:∃o1,o1=je o w.heap.size others:=⟨_,rfl⟩;have u9:fR W0 o1 aE n st:=by rw[ny];exact(ez.jo others).below bp
 have eY:bA dN w o W0 o1:=by rw[ny];exact((bA.refl dN w o).jo others).below bp
 have t1:∀q,w.heap.size<=q->o1 q= .other:=fun q ad=>by rw[ny];exact sE ad
 obtain⟨cg,bM,b6,bU,b4,bB,ah,h⟩:=u9;have iG:=h.U.U.iG;have c8:=eA.c0;have dr:=eA.c1;have cW:(Instr.lookup 179 (.map (some bM)) (.agg #[ai a_,ai bq]) false).run prog W0.drew= .ok (rB b4 ⟨a_,bq⟩) W0.drew:=L4 h aw (W:=W0.drew) rfl;have fh:=agz W0.drew (rB b4 ⟨a_,bq⟩) (st.came ⟨a_,bq⟩) (h.rowAt ⟨a_,bq⟩).row aC;have aO:=J (⟨⟨cg,bM,b6,bU,b4,bB,ah,h⟩,eY,eA,e6,tc,bp,dC,t1⟩:fR W0 o1 aE n st∧_∧_∧_∧_∧_∧_∧_);have cm:=J (⟨bY,aw,hb,hk⟩:_∧_∧_∧_);have qB:=J fh;have di:=J bj;clear h ez bY aw hb hk eY eA e6 tc bp dC t1 ny fh bj;obtain⟨l,kC⟩:∃l,st.came ⟨a_,bq⟩=l:=⟨_,rfl⟩;have xh:=J kC;unfold Hid at qB cm;rw[kC]at qB cm aC;have ad3:=J qB;have yF:=J cm;clear kC qB cm;go_enter func149,ntmps149;go_upto_region 1 with(fail);rw[di.o];go_cut[18,19,20] (fun a b c wc=>∃(cA:Option Addr) (cap:Nat),a= .slice cA l.length cap∧b=I l.length∧c=I 0∧l.length<=cap∧cap<=maxLen∧Hid (wc.ownsRow W0.heap.size 62 2 (.slice cA l.length cap) l.length (l.flatMap bF.cells)∧ax W0 wc))
 case first=>
  go_region_with(go_at_call 179;refine ad3.o.mono ?_;rintro e an ⟨v',rfl,dd,ao⟩;obtain⟨cA,cap,rfl,gg,jJ,-⟩:=Row.shape (e3 dd ch))
  all_goals go_wp2_with fail
  all_goals go_meet
  all_goals exact⟨_,_,rfl,rfl,rfl,gg,jJ,dd,ao.os,ao.tape,ao.output,ao.size,ao.block⟩
 case rest=>
  obtain⟨cA,cap,rfl,rfl,rfl,gg,jJ,Et⟩:=hcut;unfold maxLen at jJ;clear iG c8 dr cW;have XP:gZ wc o1 .other 62 2 (.slice cA l.length cap) l.length (l.flatMap bF.cells):=⟨e3 Et.o.1 ch,fun q ad=>aO.o.2.2.2.2.2.2.2 q (by have:=(World.ownsRow.lt Et.o.1 q ad).1;have:=aO.o.2.2.2.2.2.2.1;omega)⟩;have dk:fS wc o1 .other w.heap.size [ai a_,ai bq] 129:=⟨aO.o.2.2.1.below Et.o.2,aO.o.2.2.2.2.2.2.2 _ cv⟩;have eu:fS wc o1 .other (w.heap.size+1) [I seen.a,I seen.b,I seen.c,I seen.d,I seen.e] 104:=⟨aO.o.2.2.2.1.below Et.o.2,aO.o.2.2.2.2.2.2.2 _ (by omega)⟩;have eL:fS wc o1 .other (w.heap.size+2) [I g_,I gR] 62:=⟨aO.o.2.2.2.2.1.below Et.o.2,aO.o.2.2.2.2.2.2.2 _ (by omega)⟩;have dp:=J (⟨XP,dk,eu,eL⟩:_∧_∧_∧_);clear XP dk eu eL;go_wp2_with fail
  go_loopw[20] (fun i wr=>∃(k:Nat) (o':Nat->Own),k<=l.length∧i=I k∧Hid (fR wr o' aE n ((l.take k).foldl (iy ⟨a_,bq⟩ seen ⟨g_,gR⟩) st)∧bA dN wc o1 wr o')) (fun i _=>l.length-(intOf i).toNat)
  case atStart=>exact⟨0,o1,ch,rfl,aO.o.1.below Et.o.2,bA.refl _ _ _⟩
  case round=>
   obtain⟨k,o',dU,rfl,hinv⟩:=hrel;by_cases cW:k<l.length
   ·have bI:=dp.o.1.ay hinv.o.2 rZ
    have dk:=dp.o.2.1.ay hinv.o.2 rZ;have eu:=dp.o.2.2.1.ay hinv.o.2 rZ;have eL:=dp.o.2.2.2.ay hinv.o.2 rZ;obtain⟨g,_,e,-,-,fW,eb,-⟩:=Row.pos bI.row (by omega);cases e;have d0:=eb (k*2+0) (by omega);have d1:=eb (k*2+1) (by omega);rw[hC _ 2 (fun _=>rfl) _ _ _ cW (by omega)]at d0 d1;simp only[bF.cells,jg,kK,j3]at d0 d1;have c8:=dk.U.c0;have dr:=dk.U.c1;have ft:=eL.U.lt;have ar_:=dk.U.lt
    -- E2 state at this round
    obtain⟨gu,CB⟩:∃s,(l.take k).foldl (iy ⟨a_,bq⟩ seen ⟨g_,gR⟩) st=s:=⟨_,rfl⟩;obtain⟨d,aB⟩:∃d,l[k]=d:=⟨_,rfl⟩;have QK:=hinv.o.1;rw[CB]at QK;rw[aB]at d0 d1;obtain⟨cg,bM,b6,bU,b4,bB,ah,h⟩:=QK.jo others;generalize fg:(wr.alloc (.cells #[I d.rep,I d.seq] 62)).alloc (.cells #[ai a_,ai bq,I d.rep,I d.seq] 233)=W2;have bP:ax wr W2:=by rw[<-fg];exact((cj _ _)).alloc (by simp) _
    have z2:W2.heap.size=wr.heap.size+2:=by rw[<-fg];simp
    have mA:aQ W2 wr.heap.size [I d.rep,I d.seq] 62:=by rw[<-fg];exact aQ.first wr _ _ _
    have rA:aQ W2 (wr.heap.size+1) [ai a_,ai bq,I d.rep,I d.seq] 233:=by rw[<-fg];exact aQ.second wr _ _ _
    have ae:=h.below bP;obtain⟨v,av⟩:∃v,hS gu.bh ⟨⟨a_,bq⟩,d⟩=v:=⟨_,rfl⟩
    -- aqp E2 walk of E2 first steps left true
    have M4:(l.take k).Nodup:=by have:=yF.o.1.once ⟨a_,bq⟩;rw[xh.o]at this;exact this.sublist (take_sublist _ _)
    have tp:∀e,e∈l->(st.bh ⟨⟨a_,bq⟩,e⟩).isSome:=fun e he=>(yF.o.1.here ⟨a_,bq⟩ e).1 (by rw[xh.o];exact he)
    obtain⟨Ay,RJ⟩:=TA yF.o.1 ⟨a_,bq⟩ seen yF.o.2.2.1 (l.take k) M4 (fun e he=>tp e (Fg he));rw[CB]at Ay RJ;have wm:d∈l:=by rw[<-aB];exact eT cW
    have Ei:d∉l.take k:=fun c=>by
     have h1:=yF.o.1.once ⟨a_,bq⟩;rw[xh.o]at h1;obtain⟨j,af,e⟩:=fQ.1 c;rw[ng]at af;rw[getElem_take,<-aB]at e;have:=(getElem_inj h1).1 e;omega
    have qW:(gu.bh ⟨⟨a_,bq⟩,d⟩).isSome:=by rw[RJ d Ei];exact tp d wm
    have qX:(⟨⟨a_,bq⟩,d⟩:cn).Ok:=yF.o.1.ok ⟨a_,bq⟩ d (by rw[xh.o];exact wm);have c5:=ae.U.U.c5;have pH:=rA.c0;have og:=rA.c1;have fD:=rA.c2;have mh:=rA.c3;have sw:=ae.U.U.lt;have aj_:=rA.lt;have ai8:=mA.lt;have eF:=E6 ae.bh qX (W:=W2.drew) rfl;have dY:=E6 ae.bh qX (W:=(W2.alloc (.cells #[I 0,I 0,I 0,ai ⟨#[]⟩] 239)).drew) (iW _ _ _ ae.bh.lt);rw[av]at eF dY;simp only at eF dY;generalize f_:(W2.alloc (.cells #[I v.fL.rep,I v.fL.seq,I v.sum,ai v.value] 239)).drew=dH;have b0:ax W2 dH:=by rw[<-f_];exact((cj _ _)).drew
    have tZ:aQ dH W2.heap.size [I v.fL.rep,I v.fL.seq,I v.sum,ai v.value] 239:=by rw[<-f_];exact cC W2 _
    have cM:=J (⟨h,ae,bP,b0,z2,mA,rA,tZ,dk,eu,eL⟩:_∧_∧_∧_∧_∧_∧_∧_∧_∧_∧_);have cz:=J (⟨CB,aB,av,Ay,qW,qX⟩:_∧_∧_∧_∧_∧_);have pZ:=J fg;have uJ:=J f_;have dK:=J z2;clear bI dk eu eL eb CB aB QK h fg bP z2 mA rA ae av M4 tp Ay RJ wm Ei qW qX f_ b0 tZ;go_wp2_with fail
    rw[pZ.o];go_region;all_goals go_wp2_with fail
    all_goals
     rw[uJ.o];refine(TQ dH v).mono ?_;rintro e cc ⟨a1,hX⟩;clear eF dY c5 pH og fD mh c8 dr d0 d1;obtain⟨h,ae,bP,b0,z2,mA,rA,tZ,dk,eu,eL⟩:=cM.o;have I3:ax W2 cc:=b0.trans (hX.mono b0.size);have D1:ax wr cc:=bP.trans (I3.mono (by omega));have cY:=(eu.U.below D1).c0;have s1:=(eu.U.below D1).c1;have s2:=(eu.U.below D1).c2;have fX:=(eu.U.below D1).c3;have hI:=(eu.U.below D1).c4;have eo:=(mA.below I3).c0;have aP:=(mA.below I3).c1;have kM:=J (⟨hX,I3,D1⟩:_∧_∧_);have kb:(l.take (k+1)).foldl (iy ⟨a_,bq⟩ seen ⟨g_,gR⟩) st=iy ⟨a_,bq⟩ seen ⟨g_,gR⟩ gu d:=by
      rw[kr cW,foldl_append,cz.o.1,cz.o.2.1];rfl
     have Pr:=J kb;have yV:fR wr (je o' wr.heap.size others) aE n gu:=⟨cg,bM,b6,bU,b4,bB,ah,h⟩;have UN:=J yV;clear h ae bP b0 z2 mA rA tZ dk eu eL I3 D1 kb yV hX;cases hs:v.wT
     ·rw[hs]at a1
      subst a1;have eV:iy ⟨a_,bq⟩ seen ⟨g_,gR⟩ gu d=gu:=by
       unfold iy;rw[cz.o.2.2.1,hs];rfl
      have vK:=J eV;clear eV hs;go_wp2_with fail
      refine⟨⟨k+1,je o' wr.heap.size others,by omega,by go_num,?_,?_⟩,by simp[intOf];omega⟩
      ·rw[Pr.o,vK.o];exact UN.o.below kM.o.2.2
      ·exact(hinv.o.2.jo others).below kM.o.2.2
     ·rw[hs]at a1
      subst a1;have aL:=J hs;clear hs;go_wp2_with fail
      refine(Mb cc seen d cz.o.2.2.2.2.2.dot.eE cz.o.2.2.2.2.2.dot.ql).mono ?_;rintro e w5 ⟨oU,c7⟩;cases aA:seen.gI d
      ·rw[aA]at oU
       subst oU;have eV:iy ⟨a_,bq⟩ seen ⟨g_,gR⟩ gu d=gu:=by
        unfold iy;rw[cz.o.2.2.1,aL.o,aA];rfl
       have vK:=J eV;have Xu:ax wr w5:=kM.o.2.2.trans (c7.mono kM.o.2.2.size);clear eV aA cY s1 s2 fX hI eo aP c7;go_wp2_with fail
       refine⟨⟨k+1,je o' wr.heap.size others,by omega,by go_num,?_,?_⟩,by simp[intOf];omega⟩
       ·rw[Pr.o,vK.o];exact UN.o.below Xu
       ·exact(hinv.o.2.jo others).below Xu
      ·rw[aA]at oU
       subst oU;clear cY s1 s2 fX hI eo aP;obtain⟨h,ae,bP,b0,z2,mA,rA,tZ,dk,eu,eL⟩:=cM.o;have sd:ax W2 w5:=kM.o.2.1.trans (c7.mono kM.o.2.1.size);have QE:ax wr w5:=kM.o.2.2.trans (c7.mono kM.o.2.2.size);have FY:aQ w5 W2.heap.size [I v.fL.rep,I v.fL.seq,I v.sum,ai v.value] 239:=(tZ.below kM.o.1).below c7;have g0:=(eL.U.below QE).c0;have g1:=(eL.U.below QE).c1;have v0:=FY.c0;have v1:=FY.c1;have aqe:=FY.frozen 0;have aqf:=FY.frozen 1;generalize j9:(w5.setCell (aa (W2.heap.size) 0) (I g_)).setCell (aa (W2.heap.size) 1) (I gR)=dv;have Ms:ax W2 dv:=by rw[<-j9];exact(sd.setCell cv _).setCell cv _
       have vV:aQ dv W2.heap.size [I g_,I gR,I v.sum,ai v.value] 239:=by rw[<-j9];exact(FY.set 0 _).set 1 _
       have FV:=rA.below Ms;have ep:=ae.below Ms;have c5:=aR.cell (show dv.cell? (aa aE 5)=some (.map (some cg))from ep.U.U.cell 5);have pH:=aR.cell (show dv.cell? (aa (wr.heap.size+1) 0)=some (ai a_)from FV.cell 0);have og:=aR.cell (show dv.cell? (aa (wr.heap.size+1) 1)=some (ai bq)from FV.cell 1);have fD:=aR.cell (show dv.cell? (aa (wr.heap.size+1) 2)=some (I d.rep)from FV.cell 2);have mh:=aR.cell (show dv.cell? (aa (wr.heap.size+1) 3)=some (I d.seq)from FV.cell 3);have m0:=aR.cell (show dv.cell? (aa (W2.heap.size) 0)=some (I g_)from vV.cell 0);have m1:=aR.cell (show dv.cell? (aa (W2.heap.size) 1)=some (I gR)from vV.cell 1);have m2:=aR.cell (show dv.cell? (aa (W2.heap.size) 2)=some (I v.sum)from vV.cell 2);have m3:=aR.cell (show dv.cell? (aa (W2.heap.size) 3)=some (ai v.value)from vV.cell 3);have Px:=J j9;have dL:=J (⟨ep,FV,bP.trans (Ms.mono (by omega))⟩:_∧_∧ax wr dv);have ZN:iy ⟨a_,bq⟩ seen ⟨g_,gR⟩ gu d=gA {gu with bh:=lv gu.bh ⟨⟨a_,bq⟩,d⟩ (some ⟨⟨g_,gR⟩,v.sum,v.value⟩)} ⟨⟨a_,bq⟩,d⟩:=by
        unfold iy;rw[cz.o.2.2.1,aL.o,aA];rfl
       have aeW:=J ZN;clear h ae bP b0 z2 mA rA tZ dk eu eL sd QE FY j9 Ms vV FV ep ZN aA c7;go_wp2_with fail
       rw[Px.o];clear g0 g1 v0 v1 aqe aqf;refine kd (aR dv) 6 (by kernel_rfl) (by kernel_rfl) (cE).drew ?_;simp only[jC,ju,j4,jR];repeat(go_big_quiet_step (fail))
       refine gG ?_;intro _ ds;obtain⟨fq,rfl⟩:=ds;obtain⟨jT,gb⟩:=fq;try dsimp only
       clear c5 pH og fD mh m0 m1 m2 m3;have p7:=dL.o.1.below gb;obtain⟨y,b9⟩:=mn.1 cz.o.2.2.2.2.1;obtain⟨cQ,eC⟩:=cz.o.2.2.2.2.2.lit;obtain⟨kI,JR,Ja,xP⟩:=p7.bh.acK (t:=178) NH underlying178 SN AN eC b9 ⟨⟨g_,gR⟩,v.sum,v.value⟩;have EU:bA (·= .aK) jT (je o' wr.heap.size others) kI (je o' wr.heap.size others):=bA.oi xP p7.nM;have lI:fz kI (je o' wr.heap.size others) aE cg bM b6 bU b4 bB ah n {gu with bh:=lv gu.bh ⟨⟨a_,bq⟩,d⟩ (some ⟨⟨g_,gR⟩,v.sum,v.value⟩)}:=p7.TK EU Ja;have XW:=cz.o.2.2.2.1.gone b9 (v':=⟨⟨g_,gR⟩,v.sum,v.value⟩) yF.o.2.2.1;have Cq:ku gu 1:=by
        have:=ku.steps ⟨a_,bq⟩ seen ⟨g_,gR⟩ (l.take k) st 1 (yF.o.2.2.2.less (by rw[ng];omega));rw[cz.o.1]at this;exact this
       have l3:=WJ ⟨cg,bM,b6,bU,b4,bB,ah,lI⟩ XW.qK ⟨⟨a_,bq⟩,d⟩ cz.o.2.2.2.2.2 (fun u hu=>by
        have iS:lv gu.bh ⟨⟨a_,bq⟩,d⟩ (some ⟨⟨g_,gR⟩,v.sum,v.value⟩) ⟨⟨a_,bq⟩,d⟩=some u:=hu;rw[vy]at iS;cases iS;exact⟨yF.o.2.2.1.eE,yF.o.2.2.1.ql⟩) Cq hn
       have Ir:aQ kI (wr.heap.size+1) [ai a_,ai bq,I d.rep,I d.seq] 233:=(dL.o.2.1.below gb).move (xP.block _ (dL.o.2.1.below gb).lt (fun e=>by
        injection e with e
        have:=cM.o.1.bh.lt;omega))
       have pH:=Ir.c0;have og:=Ir.c1;have fD:=Ir.c2;have mh:=Ir.c3;have y7:bA dN wc o1 kI (je o' wr.heap.size others):=((((hinv.o.2.jo others).below dL.o.2.2).below gb)).trans (EU.mono fun t al=>by rw[al];trivial);have aeC:=J y7;simp only[cn.val]at l3 JR;have O9:=J l3;clear p7 b9 eC Ja xP EU lI XW Cq l3 Ir y7;go_wp2_with fail
       refine O9.o.mono ?_;rintro e E8 ⟨rfl,amT,QL,ako⟩;clear pH og fD mh JR;go_wp2_with fail
       refine⟨⟨k+1,amT,by omega,by go_num,?_,aeC.o.trans ako⟩,by simp[intOf];omega⟩;rw[Pr.o,aeW.o];exact QL
   ·go_wp2_with fail
    go_end0;refine⟨rfl,o',?_,(aO.o.2.1.below Et.o.2).trans hinv.o.2⟩;have:=hinv.o.1;rw[lQ (by omega)]at this;unfold oL;rw[xh.o];exact this
theorem ahN {α:Type}{p:α->Bool}{l:List α}{k:Nat}(hk:k<l.length)(aw:p l[k]=true)(h:∀j (af:j<l.length),j<k->p l[j]=false):l.find? p=some l[k]:=by
 rw[find?_eq_some_iff_getElem];exact⟨aw,k,hk,rfl,fun j af=>by simp[h j (by omega) af]⟩
theorem ahQ {α:Type}{p:α->Bool}{l:List α}(h:∀j (af:j<l.length),p l[j]=false):l.find? p=none:=by
 rw[find?_eq_none];intro a aU;obtain⟨j,af,rfl⟩:=fQ.1 aU;simp[h j af]
theorem apc {w:World}{o:Nat->Own}{aE n:Nat}{st:b5}(ez:fR w o aE n st)(p:Place)(aw:p.Ok)(fK:∀d,d∈st.came p->(⟨p,d⟩:cn).Ok):
  Calls prog 178 #[bl aE,p.val] w (bx (I (C3 st p)) fun w'=>ax w w'):=by
 obtain⟨cg,bM,b6,bU,b4,bB,ah,h⟩:=ez;obtain⟨a_,bq⟩:=p;simp only[Place.val]at*;generalize bj:w.alloc (.cells #[ai a_,ai bq] 129)=W0;have bp:ax w W0:=by rw[<-bj];exact cj _ _
 have gT:aQ W0 w.heap.size [ai a_,ai bq] 129:=by rw[<-bj];exact cC w _
 have aS:=h.below bp;obtain⟨l,kC⟩:∃l,st.came ⟨a_,bq⟩=l:=⟨_,rfl⟩;have bf:=aS.rowAt ⟨a_,bq⟩;rw[kC]at bf fK;have cW:∀f:dO (aR W0),(Instr.lookup 179 (.map (some bM)) (.agg #[ai a_,ai bq]) false).run prog f.w= .ok (rB b4 ⟨a_,bq⟩) f.w:=fun f=>L4 aS aw (f.ok.block _ aS.came.lt)
 obtain⟨cA,cap,sx,gg,jJ,eb⟩:=bf.row.shape;unfold maxLen at jJ;rw[sx]at cW;have iG:=aR.cell (show W0.cell? (aa aE 6)=some (.map (some bM))from aS.U.U.cell 6);have c8:=aR.cell (show W0.cell? (aa (w.heap.size) 0)=some (ai a_)from gT.cell 0);have dr:=aR.cell (show W0.cell? (aa (w.heap.size) 1)=some (ai bq)from gT.cell 1);have aO:=J (⟨aS,gT,bp,eb⟩:_∧_∧_∧_);have cm:=J (⟨aw,fK⟩:_∧_);have xh:=J kC;have di:=J bj;clear h aS gT bp eb bf sx aw fK kC bj;go_enter func178,ntmps178;go_wp2_with fail
 rw[di.o];refine qm (aR W0) (by kernel_rfl) (by kernel_rfl) (cE).drew ?_;repeat(go_big_quiet_step (fail))
 refine gG ?_;intro _ ds;obtain⟨fq,rfl⟩:=ds;obtain⟨bR,aF⟩:=fq;try dsimp only
 clear iG c8 dr cW;go_wp2_with fail
 go_loopw[15] (fun i wr=>∃k:Nat,k<=l.length∧i=I k∧Hid ((∀j (af:j<l.length),j<k->(hS st.bh ⟨⟨a_,bq⟩,l[j]⟩).wT=false)∧ax W0 wr)) (fun i _=>l.length-(intOf i).toNat)
 case atStart=>exact⟨0,ch,rfl,fun j _ h=>absurd h (De _),aF⟩
 case round=>
  obtain⟨k,dU,rfl,hinv⟩:=hrel;by_cases cW:k<l.length
  ·obtain⟨g,eo,d0⟩:=aO.o.2.2.2 (k*2+0) (by omega)
   obtain⟨g1,aP,d1⟩:=aO.o.2.2.2 (k*2+1) (by omega);subst eo;cases aP;rw[hC _ 2 (fun _=>rfl) _ _ _ cW (by omega)]at d0 d1;simp only[bF.cells,jg,kK,j3]at d0 d1;have Aj:=bZ hinv.o.2 d0;have Ak:=bZ hinv.o.2 d1;have l2:=aO.o.2.1.below hinv.o.2;have c8:=l2.c0;have dr:=l2.c1;have ft:=l2.lt;obtain⟨d,aB⟩:∃d,l[k]=d:=⟨_,rfl⟩;have rE:(⟨⟨a_,bq⟩,d⟩:cn).Ok:=cm.o.2 d (by rw[<-aB];exact eT cW);rw[aB]at Aj Ak;clear d0 d1 l2;generalize fg:wr.alloc (.cells #[I d.rep,I d.seq] 62)=W2;have bP:ax wr W2:=by rw[<-fg];exact cj _ _
   have kP:=hinv.o.2.trans (bP.mono hinv.o.2.size);have ae:=aO.o.1.below kP;have mA:aQ W2 wr.heap.size [I d.rep,I d.seq] 62:=by rw[<-fg];exact cC wr _
   have s6:=aO.o.2.1.below kP;have c5:=ae.U.U.c5;have pH:=s6.c0;have og:=s6.c1;have fD:=mA.c0;have mh:=mA.c1;have sw:=ae.U.U.lt;have aj_:=s6.lt;have ai8:=mA.lt;obtain⟨v,av⟩:∃v,hS st.bh ⟨⟨a_,bq⟩,d⟩=v:=⟨_,rfl⟩;have eF:=E6 ae.bh rE (W:=W2.drew) rfl;have dY:=E6 ae.bh rE (W:=(W2.alloc (.cells #[I 0,I 0,I 0,ai ⟨#[]⟩] 239)).drew) (iW _ _ _ ae.bh.lt);rw[av]at eF dY;simp only at eF dY;generalize f_:(W2.alloc (.cells #[I v.fL.rep,I v.fL.seq,I v.sum,ai v.value] 239)).drew=dH;have b0:ax W2 dH:=by rw[<-f_];exact((cj _ _)).drew
   have tZ:aQ dH W2.heap.size [I v.fL.rep,I v.fL.seq,I v.sum,ai v.value] 239:=by rw[<-f_];exact cC W2 _
   have Xx:=kP.trans (b0.mono kP.size);have cM:=J (⟨Xx,tZ,aB,av⟩:_∧_∧_∧_);have pZ:=J fg;have uJ:=J f_;clear ae bP kP mA s6 aB rE av fg f_ b0 tZ Xx;go_wp2_with fail
   rw[pZ.o];go_region;all_goals go_wp2_with fail
   all_goals
    rw[uJ.o];refine(TQ dH v).mono ?_;rintro e cc ⟨a1,hX⟩;clear eF dY c5 pH og fD mh c8 dr Aj Ak;have nu:=cM.o.1.trans (hX.mono cM.o.1.size);have v2:=(cM.o.2.1.below hX).c2;cases hs:v.wT
    ·rw[hs]at a1
     subst a1;have aL:=J hs;clear hs;go_wp2_with fail
     refine⟨⟨k+1,by omega,by go_num,fun j af sk=>?_,nu⟩,by simp[intOf];omega⟩;by_cases c:j=k
     ·subst c;rw[cM.o.2.2.1,cM.o.2.2.2];exact aL.o
     ·exact hinv.o.1 j af (by omega)
    ·rw[hs]at a1
     subst a1;have aL:=J hs;clear hs;go_wp2_with fail
     go_ret;refine⟨om ?_,aO.o.2.2.1.trans (nu.mono aO.o.2.2.1.size)⟩;unfold C3;rw[xh.o,ahN cW (by rw[cM.o.2.2.1,cM.o.2.2.2];exact aL.o) hinv.o.1,cM.o.2.2.1];show v.sum=(hS st.bh ⟨⟨a_,bq⟩,d⟩).sum
     rw[cM.o.2.2.2]
  ·go_wp2_with fail
   go_ret;refine⟨om ?_,aO.o.2.2.1.trans (hinv.o.2.mono aO.o.2.2.1.size)⟩;unfold C3;rw[xh.o,ahQ fun j af=>hinv.o.1 j af (by omega)]
theorem Tk {w:World}{o:Nat->Own}{aE n:Nat}{st:b5}(ez:fR w o aE n st)(x:cn)(au:x.Ok)(v:gQ)(aC:(st.came x.at_).length<=1000000000)(hn:n<1000000000000):
  Calls prog 150 #[bl aE,x.val,v.val] w (bx (.tuple #[]) fun w'=>∃o',fR w' o' aE (n+1) (vv st x v)∧bA dN w o w' o'):=by
 obtain⟨cg,bM,b6,bU,b4,bB,ah,h⟩:=ez;exact(anJ h x au v aC hn).mono fun e w' ⟨a,o',uX,b,c⟩=>⟨a,o',⟨cg,bM,b6,bU,uX,bB,ah,b⟩,c⟩
theorem amb {w:World}{o:Nat->Own}{aE n:Nat}{st:b5}(ez:fR w o aE n st)(p:Place)(aw:p.Ok)(hn:n<1000000000000):
  Calls prog 151 #[bl aE,p.val] w (bx (.tuple #[]) fun w'=>∃o',fR w' o' aE (n+2) (GS st p)∧bA dN w o w' o'):=by
 obtain⟨cg,bM,b6,bU,b4,bB,ah,h⟩:=ez;exact(amc h p aw hn).mono fun e w' ⟨a,o',uY,b,c⟩=>⟨a,o',⟨cg,bM,b6,bU,b4,uY,ah,b⟩,c⟩
theorem ahv (st:b5)(x:cn)(q:Place):((gA st x).came q).length<=(st.came q).length:=by
 unfold gA;split
 ·exact cv
 ·show(ml st.came x.at_ _ q).length<=_
  by_cases c:q=x.at_
  ·subst c;rw[zt];exact Ff _ _
  ·rw[uA c];exact cv
theorem amX (p:Place)(seen:aW)(cN:bF)(st:b5)(d:bF)(q:Place):((iy p seen cN st d).came q).length<=(st.came q).length:=by
 unfold iy;split
 ·exact ahv {st with bh:=lv st.bh ⟨p,d⟩ (some {hS st.bh ⟨p,d⟩with fL:=cN})} ⟨p,d⟩ q
 ·exact cv
theorem acG (p:Place)(seen:aW)(cN:bF)(q:Place):∀(l:List bF) (st:b5),((l.foldl (iy p seen cN) st).came q).length<=(st.came q).length
 |[],_=>cv
 |d::l,st=>fx (acG p seen cN q l _) (amX p seen cN st d q)
theorem Tz (st:b5)(p:Place)(seen:aW)(cN:bF)(q:Place):((oL st p seen cN).came q).length<=(st.came q).length:=acG p seen cN q _ st
theorem afn {w:World}{o:Nat->Own}{aE n:Nat}{st:b5}(ez:fR w o aE n st)(bY:st.h5)(p:Place)(aw:p.Ok)(cH:Int)(cN:bF)(hb:cN.Ok)(hk:ku st (st.came p).length)(aC:(st.came p).length<=1000000000)(hn:n<1000000000000):
  Calls prog 148 #[bl aE,p.val,I cH,cN.val] w (bx (.tuple #[]) fun w'=>∃o',fR w' o' aE (n+1) (DM st p cH cN)∧bA dN w o w' o'):=by
 obtain⟨a_,bq⟩:=p;obtain⟨g_,gR⟩:=cN;generalize bj:(w.alloc (.cells #[ai a_,ai bq] 129)).alloc (.cells #[I g_,I gR] 62)=W0;have bp:ax w W0:=by rw[<-bj];exact((cj _ _)).alloc (by simp) _
 have dC:W0.heap.size=w.heap.size+2:=by rw[<-bj];simp
 have eA:aQ W0 w.heap.size [ai a_,ai bq] 129:=by rw[<-bj];exact aQ.first w _ _ _
 have e6:aQ W0 (w.heap.size+1) [I g_,I gR] 62:=by rw[<-bj];exact aQ.second w _ _ _
 obtain⟨o1,ny⟩:∃o1,o1=je o w.heap.size others:=⟨_,rfl⟩;have u9:fR W0 o1 aE n st:=by rw[ny];exact(ez.jo others).below bp
 have eY:bA dN w o W0 o1:=by rw[ny];exact((bA.refl dN w o).jo others).below bp
 have t1:∀q,w.heap.size<=q->o1 q= .other:=fun q ad=>by rw[ny];exact sE ad
 have GF:=apc u9 ⟨a_,bq⟩ aw (fun d aB=>bY.ok _ d aB);have c8:=eA.c0;have dr:=eA.c1;simp only[Place.val]at*;have aO:=J (⟨u9,eY,eA,e6,t1⟩:_∧_∧_∧_∧_);have cm:=J (⟨bY,aw,hb,hk⟩:_∧_∧_∧_);have LA:=J GF;have di:=J bj;clear ez bY aw hb hk bp dC eA e6 ny u9 eY t1 GF bj;obtain⟨KJ,GF⟩:∃s,C3 st ⟨a_,bq⟩=s:=⟨_,rfl⟩;unfold Hid at LA;rw[GF]at LA;have aeJ:=J LA;have aL:=J GF;clear GF LA;go_enter func148,ntmps148;go_wp2_with fail
 rw[di.o];refine aeJ.o.mono ?_;rintro e an ⟨rfl,aF⟩;clear c8 dr;have wa:=aO.o.1.below aF;obtain⟨cg,bM,b6,bU,b4,bB,ah,h⟩:=wa;have dk:fS an o1 .other w.heap.size [ai a_,ai bq] 129:=⟨aO.o.2.2.1.below aF,aO.o.2.2.2.2 _ cv⟩;have eu:fS an o1 .other (w.heap.size+1) [I g_,I gR] 62:=⟨aO.o.2.2.2.1.below aF,aO.o.2.2.2.2 _ (by omega)⟩;have c8:=aR.cell (show an.cell? (aa (w.heap.size) 0)=some (ai a_)from dk.U.cell 0);have dr:=aR.cell (show an.cell? (aa (w.heap.size) 1)=some (ai bq)from dk.U.cell 1);have dm:=aR.cell (show an.cell? (aa (w.heap.size+1) 0)=some (I g_)from eu.U.cell 0);have dz:=aR.cell (show an.cell? (aa (w.heap.size+1) 1)=some (I gR)from eu.U.cell 1);have cY:=aR.cell (show an.cell? (aa aE 0)=some (I st.ag.a)from h.U.U.cell 0);have s1:=aR.cell (show an.cell? (aa aE 1)=some (I st.ag.b)from h.U.U.cell 1);have s2:=aR.cell (show an.cell? (aa aE 2)=some (I st.ag.c)from h.U.U.cell 2);have fX:=aR.cell (show an.cell? (aa aE 3)=some (I st.ag.d)from h.U.U.cell 3);have hI:=aR.cell (show an.cell? (aa aE 4)=some (I st.ag.e)from h.U.U.cell 4);have H1:=J (⟨⟨cg,bM,b6,bU,b4,bB,ah,h⟩,dk,eu,aO.o.2.1.below aF⟩:fR an o1 aE n st∧_∧_∧bA dN w o an o1);clear h dk eu aF;go_wp2_with fail
 refine kd (aR an) 7 (by kernel_rfl) (by kernel_rfl) (cE).drew ?_;simp only[jC,ju,j4,jR];repeat(go_big_quiet_step (fail))
 refine gG ?_;intro _ ds;obtain⟨fq,rfl⟩:=ds;obtain⟨W2,bP⟩:=fq;try dsimp only
 clear c8 dr dm dz cY s1 s2 fX hI;have uv:=Og (H1.o.1.below bP) cm.o.1 ⟨a_,bq⟩ cm.o.2.1 st.ag ⟨g_,gR⟩ cm.o.2.2.1 cm.o.2.2.2 aC hn;simp only[Place.val]at uv;go_wp2_with fail
 refine uv.mono ?_;rintro e bN ⟨rfl,iv,I7,wB⟩;clear uv;have dk:=(H1.o.2.1.below bP).ay wB rZ;have eu:=(H1.o.2.2.1.below bP).ay wB rZ;have fE:=(H1.o.2.2.2.below bP).trans wB;have c8:=dk.U.c0;have dr:=dk.U.c1;have dm:=eu.U.c0;have dz:=eu.U.c1;have ck:=J (⟨I7,fE⟩:_∧_);clear I7 wB dk eu fE;by_cases cF:wrap64 (KJ+cH)=0
 ·have e:DM st ⟨a_,bq⟩ cH ⟨g_,gR⟩=oL st ⟨a_,bq⟩ st.ag ⟨g_,gR⟩:=by
   unfold DM;rw[aL.o];simp[cF]
  have bX:=J e;have o6:(wrap64 (KJ+cH)==0)=true:=by simp[cF]
  clear e cF;go_wp2_with fail
  go_end0;refine⟨rfl,iv,?_,ck.o.2⟩;rw[bX.o];exact ck.o.1.mono (pU n)
 ·have e:DM st ⟨a_,bq⟩ cH ⟨g_,gR⟩=vv (oL st ⟨a_,bq⟩ st.ag ⟨g_,gR⟩) ⟨⟨a_,bq⟩,⟨g_,gR⟩⟩ ⟨⟨0,0⟩,wrap64 (KJ+cH),⟨#[]⟩⟩:=by
   unfold DM;rw[aL.o];simp[cF]
  have bX:=J e;have o6:(wrap64 (KJ+cH)==0)=false:=by simp[cF]
  have RE:=Tk ck.o.1 ⟨⟨a_,bq⟩,⟨g_,gR⟩⟩ ⟨cm.o.2.1,cm.o.2.2.1⟩ ⟨⟨0,0⟩,wrap64 (KJ+cH),⟨#[]⟩⟩ (fx (Tz st _ _ _ _) aC) hn;simp only[cn.val]at RE;have aeu:=J RE;clear e cF RE;go_wp2_with fail
  refine aeu.o.mono ?_;rintro e cc ⟨rfl,hr,pz,jK⟩;clear c8 dr dm dz;go_wp2_with fail
  go_end0;refine⟨rfl,hr,?_,ck.o.2.trans jK⟩;rw[bX.o];exact pz
def aW.put (v:aW)(r s:Int):aW:=⟨if r=0 then s else v.a,if r=1 then s else v.b,if r=2 then s else v.c,if r=3 then s else v.d,if r=4 then s else v.e⟩
theorem fz.TL {w w':World}{o o':Nat->Own}{aE cg bM b6 n:Nat}{bU:Value}{b4:Place->Option Value}{bB:ByteArray->Option Nat}{ah:Nat->Value}{st:b5}(h:fz w o aE cg bM b6 bU b4 bB ah n st)(k:bA (·= .hR) w o w' o'){v:aW}
  (ao:fS w' o' .hR aE [I v.a,I v.b,I v.c,I v.d,I v.e,.map (some cg),.map (some bM),.map (some b6),bU] 183):fz w' o' aE cg bM b6 bU b4 bB ah n {st with ag:=v}:=
 ⟨ao,h.bh.hP k (by rw[h.nM];simp),(k.same _ h.bh.lt).trans h.nM,h.came.hP k (by rw[h.lF];simp),(k.same _ h.came.lt).trans h.lF,h.q3,fun p v e=>(h.row p v e).ay k (by simp),h.els.hP k (by rw[h.ox];simp),(k.same _ h.els.lt).trans h.ox,h.tC,
  fun x b e=>(k.same _ (h.set x b e).lt).trans (h.mM x b e),fun x b e=>(h.set x b e).hP k (by rw[h.mM x b e];simp),h.opens.ay k (by simp),fun s hs=>(h.snap s hs).ay k (by simp),fun s hs=>(h.kept s hs).ay k (by simp),h.s8⟩
def OX (P:(Place->Bool)->b5->Prop)(an:World)(o1:Nat->Own)(aE n mb r lN:Nat)(m:Place->Option cG)(wr:World):Prop:=
 ∃(left:Place->Bool) (ar:Nat) (o':Nat->Own) (st:b5),mT wr 129 mb r lN Place.val cG.val m left ar∧ar<=16∧fR wr o' aE (n+3*(16-ar)) st∧Touch (fun q=>dN (o1 q)∨q=r) an wr∧(∀q,q<an.heap.size->o' q=o1 q)∧P left st∧∀p,left p=true->(m p).isSome
theorem afB {wr w2 dH cc:World}{o' hr:Nat->Own}{r:Nat}(T:Touch (fun q=>dN (o1 q)∨q=r) an wr)(S:∀q,q<an.heap.size->o' q=o1 q)(kS:wr.grownBy w2 (some r))(b0:ax w2 dH)(k:bA dN dH (je o' w2.heap.size others) cc hr):
  Touch (fun q=>dN (o1 q)∨q=r) an cc∧∀q,q<an.heap.size->hr q=o1 q:=by
 have h0:=fx T.size kS.size;have z2:=fx h0 b0.size;refine⟨((T.trans ((Touch.oi kS).mono fun q _ e=>Or.inl (Or.inr (by injection e)))).trans (Touch.dh b0)).trans (k.ay.mono fun q ad al=>?_),fun q ad=>?_⟩
 ·by_cases c:q<an.heap.size
  ·rw[jz (by omega),S q c]at al
   exact Or.inl (Or.inl al)
  ·exact Or.inr (by omega)
 ·rw[k.same q (by omega),jz (by omega)]
  exact S q ad
structure Ut (P:(Place->Bool)->b5->Prop)(m:Place->Option cG)(saw:aW)(dot:bF):Prop where
 wf:∀left st,P left st->st.h5
 came:∀left st p,P left st->(st.came p).length<=10000000
 kept:∀left st,P left st->ku st 10000000
 kind:∀p x,m p=some x->(x.kind=0∨x.kind=1∨x.kind=2∨x.kind=3)∧p.Ok
 step:∀left st p x,P left st->left p=true->m p=some x->P (fun q=>left q&& !decide (q=p)) (C_ saw dot st p x)
theorem afJ {P:(Place->Bool)->b5->Prop}{w:World}{o:Nat->Own}{aE n mb lN:Nat}{st:b5}{m:Place->Option cG}{saw:aW}{dot:bF}(ez:fR w o aE n st)(bK:cV w 129 mb lN Place.val cG.val m)(Y6:¬dN (o mb))(asW:lN<=16)(dJ:Ut P m saw dot)(ha:P (fun p=>(m p).isSome) st)
  (rE:dot.Ok)(hn:n<100000000000):
  Calls prog 105 #[bl aE,.agg #[I dot.rep,I dot.seq,I saw.a,I saw.b,I saw.c,I saw.d,I saw.e,.map (some mb)]] w fun e w'=>e= .returned (.tuple #[])∧
   ∃o' jP,(∃left,P left jP∧∀p,left p=false)∧fR w' o' aE (n+48) {jP with ag:=jP.ag.put dot.rep dot.seq}∧bA dN w o w' o':=by
 obtain⟨b1,dX⟩:=dot;have kU:=bK.lt;generalize bj:w.alloc (.cells #[I b1,I dX,I saw.a,I saw.b,I saw.c,I saw.d,I saw.e,.map (some mb)] 139)=W0;have bp:ax w W0:=by rw[<-bj];exact cj _ _
 have dC:W0.heap.size=w.heap.size+1:=by rw[<-bj];simp
 have eA:aQ W0 w.heap.size [I b1,I dX,I saw.a,I saw.b,I saw.c,I saw.d,I saw.e,.map (some mb)] 139:=by rw[<-bj];exact cC w _
 obtain⟨o1,ny⟩:∃o1,o1=je o w.heap.size others:=⟨_,rfl⟩;have u9:fR W0 o1 aE n st:=by rw[ny];exact(ez.jo others).below bp
 have eY:bA dN w o W0 o1:=by rw[ny];exact((bA.refl dN w o).jo others).below bp
 have t1:∀q,w.heap.size<=q->o1 q= .other:=fun q ad=>by rw[ny];exact sE ad
 have bV:¬dN (o1 mb):=by rw[ny,jz kU];exact Y6
 obtain⟨an,F3,Zq,y9,si,Gr,jX⟩:=(bK.move (w':=W0) (bp.block _ kU)).range (t:=120) rV underlying120;have aF:ax W0 an:=(cE).grown Gr cv (fun j af=>by cases af);have hA:=eA.hA;have dk:fS an o1 .other w.heap.size [I b1,I dX,I saw.a,I saw.b,I saw.c,I saw.d,I saw.e,.map (some mb)] 139:=⟨eA.below aF,t1 _ cv⟩;have Cy:OX P an o1 aE n mb W0.heap.size lN m an:=⟨_,F3,o1,st,y9,by omega,(u9.below aF).mono (by omega),Touch.refl _ _,fun _ _=>rfl,ha,fun p aw=>aw⟩;have aO:=J (⟨Cy,dk,eY.below aF,bV,t1 W0.heap.size (by omega),rE⟩:_∧_∧_∧_∧_∧_);have aL:=J dJ;have di:=J bj;have br:mb≠w.heap.size:=by omega
 have EE:w.heap.size<W0.heap.size:=by omega
 have o0:W0.heap.size<an.heap.size:=by omega
 clear ez bK Y6 dJ ha rE bp dC eA ny u9 eY t1 bV y9 si Gr jX aF dk Cy bj;go_enter func105,ntmps105;go_upto_region 1 with(fail);rw[di.o];go_wp2_with fail
 go_loopw[] (fun wr=>OX P an o1 aE n mb W0.heap.size lN m wr) (fun wr=>wr.rangeLeft mb W0.heap.size)
 case atStart=>exact aO.o.1
 case round=>
  obtain⟨left,ar,o',gu,y9,ai6,yV,aD,D8,D5,vk⟩:=hrel;have eM:fS wr o' .other w.heap.size [I b1,I dX,I saw.a,I saw.b,I saw.c,I saw.d,I saw.e,.map (some mb)] 139:=⟨aO.o.2.1.U.move (aD.block _ aO.o.2.1.U.lt (fun e=>e.elim (fun e=>by rw[aO.o.2.1.tag]at e;exact e) (fun e=>by omega))),(D8 _ aO.o.2.1.U.lt).trans aO.o.2.1.tag⟩;have hF:=y9.left_eq;rcases y9.next rV zn 0 with⟨aS,aC,hd⟩|⟨p,y,w2,kz,dU,n0,jJ,hd,rJ,vl,kS,fb,l3⟩
  ·obtain⟨cg,bM,b6,bU,b4,bB,ah,h⟩:=yV
   have dc:=eM.U.c0;have bT:=eM.U.c1;have gn:∀p,left p=false:=fun p=>by
    cases e:left p with
    |false=>rfl
    |true=>
     obtain⟨x,au⟩:=mn.1 (vk p e);obtain⟨cQ,dU⟩:=(aL.o.kind p x au).2.lit;rw[aC p cQ dU]at e;cases e
   have c0:=h.U.U.c0;have c1:=h.U.U.c1;have c2:=h.U.U.c2;have c3:=h.U.U.c3;have c4:=h.U.U.c4;have f0:=h.U.U.frozen 0;have f1:=h.U.U.frozen 1;have f2:=h.U.U.frozen 2;have f3:=h.U.U.frozen 3;have f4:=h.U.U.frozen 4;have Yx:bA dN w o wr o':=by
    have q1:=aO.o.2.2.1;refine⟨q1.ay.trans (aD.mono fun q ad e=>?_),fun q ad=>(D8 q (hV ad q1.size)).trans (q1.same q ad)⟩;by_cases c:q<w.heap.size
    ·rcases e with e|e
     ·rw[q1.same q c]at e;exact Or.inl e
     ·omega
    ·exact Or.inr (by omega)
   have aeb:=J Yx;have nX:∀(j:Nat) (v:aW),v=gu.ag.put b1 dX->[I v.a,I v.b,I v.c,I v.d,I v.e,.map (some cg),.map (some bM),.map (some b6),bU]=[I gu.ag.a,I gu.ag.b,I gu.ag.c,I gu.ag.d,I gu.ag.e,.map (some cg),.map (some bM),.map (some b6),bU].set j (I dX)->
     ∃o' jP,(∃left,P left jP∧∀p,left p=false)∧fR (wr.setCell (aa aE j) (I dX)).drew o' aE (n+48) {jP with ag:=jP.ag.put b1 dX}∧bA dN w o (wr.setCell (aa aE j) (I dX)).drew o':=fun j v av JA=>by
    have cI:bA (·= .hR) wr o' (wr.setCell (aa aE j) (I dX)).drew o':=((bA.refl _ _ _).set (p:=(aa aE j)) h.U.tag _).drew;have sP:=(h.U.set j (I dX)).drew;rw[<-JA]at sP;have h1:=h.TL cI sP;rw[av]at h1;exact⟨o',gu,⟨left,D5,gn⟩,⟨cg,bM,b6,bU,b4,bB,ah,h1.mono (by omega)⟩,(aeb.o.trans (cI.mono fun t al=>by rw[al];trivial))⟩
   have tP:=J nX;have uk:b1=0∨b1=1∨b1=2∨b1=3∨b1=4:=by have:=aO.o.2.2.2.2.2.eE;have:=aO.o.2.2.2.2.2.ql;simp only at*;omega
   clear y9 hF aC aD D8 D5 vk eM h gn nX Yx aS Zq hA;rcases uk with rfl|rfl|rfl|rfl|rfl
   all_goals
    go_wp2_with fail
    go_region;all_goals go_wp2_with fail
    all_goals go_end0
   ·exact⟨rfl,tP.o 0 ⟨dX,gu.ag.b,gu.ag.c,gu.ag.d,gu.ag.e⟩ (by simp[aW.put]) rfl⟩
   ·exact⟨rfl,tP.o 1 ⟨gu.ag.a,dX,gu.ag.c,gu.ag.d,gu.ag.e⟩ (by simp[aW.put]) rfl⟩
   ·exact⟨rfl,tP.o 2 ⟨gu.ag.a,gu.ag.b,dX,gu.ag.d,gu.ag.e⟩ (by simp[aW.put]) rfl⟩
   ·exact⟨rfl,tP.o 3 ⟨gu.ag.a,gu.ag.b,gu.ag.c,dX,gu.ag.e⟩ (by simp[aW.put]) rfl⟩
   ·exact⟨rfl,tP.o 4 ⟨gu.ag.a,gu.ag.b,gu.ag.c,gu.ag.d,dX⟩ (by simp[aW.put]) rfl⟩
  ·obtain⟨fj,JM⟩:=aL.o.kind p y jJ
   have Y7:mb<an.heap.size:=by omega
   have acX:¬dN (o' mb):=by rw[D8 mb Y7];exact aO.o.2.2.2.1
   have T0:o' W0.heap.size= .other:=by rw[D8 _ o0];exact aO.o.2.2.2.2.1
   have akr:W0.heap.size<wr.heap.size:=hV o0 aD.size
   -- E2 iterator has gone on
   have dq:bA (·= .other) wr o' w2 o':=bA.oi kS T0;have wa:fR w2 (je o' w2.heap.size others) aE (n+3*(16-ar)) gu:=by
    obtain⟨cg,bM,b6,bU,b4,bB,ah,h⟩:=yV;exact fR.jo ⟨cg,bM,b6,bU,b4,bB,ah,h.ay dq (fun t al e=>by rw[e]at al;exact al)⟩ others
   obtain⟨dx,JH⟩:∃dx,dx=je o' w2.heap.size others:=⟨_,rfl⟩;have eu:fS w2 dx .other w.heap.size [I b1,I dX,I saw.a,I saw.b,I saw.c,I saw.d,I saw.e,.map (some mb)] 139:=by
    have hb:w2.heap[w.heap.size]?=wr.heap[w.heap.size]?:=kS.block _ eM.U.lt (fun e=>by injection e with e;omega);exact⟨eM.U.move hb,by rw[JH,jz (by have:=eM.U.lt;omega)];exact eM.tag⟩
   have t2:∀q,w2.heap.size<=q->dx q= .other:=fun q ad=>by rw[JH];exact sE ad
   rw[<-JH]at wa;have Zu:=aL.o.step left gu p y D5 n0 jJ;have ZI:=aL.o.wf left gu D5;have vd:=aL.o.came left gu p D5;have vj:=aL.o.kept left gu D5;obtain⟨a_,bq⟩:=p;obtain⟨Bf,yl,zI⟩:=y;simp only[Place.val,cG.val]at hd l3;generalize f_:(w2.alloc (.cells #[ai a_,ai bq] 129)).alloc (.cells #[I Bf,I yl,ai zI] 132)=dH;have b0:ax w2 dH:=by rw[<-f_];exact((cj _ _)).alloc (by simp) _
   have z3:dH.heap.size=w2.heap.size+2:=by rw[<-f_];simp
   have eL:fS dH dx .other w.heap.size [I b1,I dX,I saw.a,I saw.b,I saw.c,I saw.d,I saw.e,.map (some mb)] 139:=eu.below b0;have pp:fS dH dx .other w2.heap.size [ai a_,ai bq] 129:=⟨by rw[<-f_];exact aQ.first w2 _ _ _,t2 _ cv⟩;have abE:fS dH dx .other (w2.heap.size+1) [I Bf,I yl,ai zI] 132:=⟨by rw[<-f_];exact aQ.second w2 _ _ _,t2 _ (by omega)⟩;have I7:=wa.below b0;have nX:∀(cc:World) (hr:Nat->Own) (Hd:b5),fR cc hr aE (n+3*(16-ar)+3) Hd->bA dN dH dx cc hr->Hd=C_ saw ⟨b1,dX⟩ gu ⟨a_,bq⟩ ⟨Bf,yl,zI⟩->OX P an o1 aE n mb W0.heap.size lN m cc∧cc.rangeLeft mb W0.heap.size<wr.rangeLeft mb W0.heap.size:=fun cc hr Hd pz jK e=>by
    rw[JH]at jK;obtain⟨cO,a2⟩:=afB aD D8 kS b0 jK;have eA:cc.heap[mb]?=w2.heap[mb]?:=(jK.ay.block mb (by omega) (by rw[jz (by omega)];exact acX)).trans (b0.block _ (by omega));have e6:cc.heap[W0.heap.size]?=w2.heap[W0.heap.size]?:=(jK.ay.block _ (by omega) (by rw[jz (by omega),T0];exact rZ)).trans (b0.block _ (by omega));have Cx:=rJ.move eA e6;refine⟨⟨_,kz,hr,Hd,Cx,by omega,pz.mono (by omega),cO,a2,by rw[e];exact Zu,fun q ad=>vk q (by simp only[qv]at ad;exact ad.1)⟩,?_⟩;rw[Cx.left_eq,hF];exact vl
   have tP:=J nX;have ck:=J (⟨I7,eL,pp,abE,ZI,vd,vj,JM⟩:_∧_∧_∧_∧_∧_∧_∧_);have uJ:=J f_;have aj2:n+3*(16-ar)+3<1000000000000:=by omega
   obtain⟨kG,AP⟩:∃kG,n+3*(16-ar)=kG:=⟨_,rfl⟩;unfold Hid at tP ck;rw[AP]at tP ck aj2;have Lm:=J tP;have jS:=J ck;have ft:=eu.U.lt;have eo:=eu.U.c0;have aP:=eu.U.c1;have ba:=eu.U.c2;have ey:=eu.U.c3;have hB:=eu.U.c4;have gS:=eu.U.c5;have BW:=eu.U.iG;have UP:=J fj;clear y9 hF aD D8 D5 vk eM fj JM Y7 acX T0 akr dq wa JH eu t2 Zu ZI vd vj b0 z3 eL pp abE I7 nX tP ck f_ AP yV dU n0 jJ rJ vl kS fb Zq hA ai6;have fj:=UP.o;simp only at fj;clear UP;rcases fj with rfl|rfl|rfl|rfl
   ·have gU:=afn jS.o.1 jS.o.2.2.2.2.1 ⟨a_,bq⟩ jS.o.2.2.2.2.2.2.2 yl ⟨b1,dX⟩ aO.o.2.2.2.2.2 (jS.o.2.2.2.2.2.2.1.less jS.o.2.2.2.2.2.1) (fx jS.o.2.2.2.2.2.1 (by omega)) (by omega)
    simp only[Place.val]at gU;have hy:=J gU;clear gU;go_wp2_with fail
    rw[uJ.o];refine hy.o.mono ?_;rintro e cc ⟨rfl,hr,pz,jK⟩;clear eo aP ba ey hB gS BW hd l3;go_wp2_with fail
    exact Lm.o cc hr _ (pz.mono (by omega)) jK (by simp[C_])
   ·have gU:=Og jS.o.1 jS.o.2.2.2.2.1 ⟨a_,bq⟩ jS.o.2.2.2.2.2.2.2 saw ⟨b1,dX⟩ aO.o.2.2.2.2.2 (jS.o.2.2.2.2.2.2.1.less jS.o.2.2.2.2.2.1) (fx jS.o.2.2.2.2.2.1 (by omega)) (by omega)
    simp only[Place.val]at gU;have hy:=J gU;clear gU;go_wp2_with fail
    rw[uJ.o];refine hy.o.mono ?_;rintro e cc ⟨rfl,hr,pz,jK⟩;clear eo aP ba ey hB gS BW hd l3;have fO:=jS.o.2.1.ay jK rZ;have CW:=jS.o.2.2.1.ay jK rZ;have abF:=jS.o.2.2.2.1.ay jK rZ;have eo:=fO.U.c0;have aP:=fO.U.c1;have u0:=CW.U.c0;have u1:=CW.U.c1;have v2:=abF.U.c2;have n1:=Tk pz ⟨⟨a_,bq⟩,⟨b1,dX⟩⟩ ⟨jS.o.2.2.2.2.2.2.2,aO.o.2.2.2.2.2⟩ ⟨⟨0,0⟩,0,zI⟩ (fx (Tz gu _ _ _ _) (fx jS.o.2.2.2.2.2.1 (by omega))) (by omega);simp only[cn.val]at n1;have zS:=J n1;have Lx:=J jK;clear n1 fO CW abF pz jK;go_wp2_with fail
    refine zS.o.mono ?_;rintro e w5 ⟨rfl,nD,B6,Es⟩;clear eo aP u0 u1 v2;go_wp2_with fail
    exact Lm.o w5 nD _ (B6.mono (by omega)) (Lx.o.trans Es) (by simp[C_])
   ·have gU:=Og jS.o.1 jS.o.2.2.2.2.1 ⟨a_,bq⟩ jS.o.2.2.2.2.2.2.2 saw ⟨b1,dX⟩ aO.o.2.2.2.2.2 (jS.o.2.2.2.2.2.2.1.less jS.o.2.2.2.2.2.1) (fx jS.o.2.2.2.2.2.1 (by omega)) (by omega)
    simp only[Place.val]at gU;have hy:=J gU;clear gU;go_wp2_with fail
    rw[uJ.o];refine hy.o.mono ?_;rintro e cc ⟨rfl,hr,pz,jK⟩;clear eo aP ba ey hB gS BW hd l3;have fO:=jS.o.2.1.ay jK rZ;have CW:=jS.o.2.2.1.ay jK rZ;have eo:=fO.U.c0;have aP:=fO.U.c1;have u0:=CW.U.c0;have u1:=CW.U.c1;have n1:=Tk pz ⟨⟨a_,bq⟩,⟨b1,dX⟩⟩ ⟨jS.o.2.2.2.2.2.2.2,aO.o.2.2.2.2.2⟩ x8 (fx (Tz gu _ _ _ _) (fx jS.o.2.2.2.2.2.1 (by omega))) (by omega);simp only[cn.val,x8]at n1;have zS:=J n1;have Lx:=J (⟨jK,CW⟩:_∧_);clear n1 fO CW pz jK;go_wp2_with fail
    refine zS.o.mono ?_;rintro e w5 ⟨rfl,nD,B6,Es⟩;clear eo aP u0 u1;have Tb:fS w5 nD .other w2.heap.size [ai a_,ai bq] 129:=Lx.o.2.ay Es rZ;have u0:=Tb.U.c0;have u1:=Tb.U.c1;have JA:=amb B6 ⟨a_,bq⟩ jS.o.2.2.2.2.2.2.2 (by omega);simp only[Place.val]at JA;have aem:=J JA;have aeB:=J (Lx.o.1.trans Es);clear JA Tb B6 Es;go_wp2_with fail
    refine aem.o.mono ?_;rintro e eS ⟨rfl,sB,Mw,akm⟩;clear u0 u1;go_wp2_with fail
    exact Lm.o eS sB _ (Mw.mono (by omega)) (aeB.o.trans akm) (by simp[C_,x8])
   ·have gU:=Og jS.o.1 jS.o.2.2.2.2.1 ⟨a_,bq⟩ jS.o.2.2.2.2.2.2.2 saw ⟨b1,dX⟩ aO.o.2.2.2.2.2 (jS.o.2.2.2.2.2.2.1.less jS.o.2.2.2.2.2.1) (fx jS.o.2.2.2.2.2.1 (by omega)) (by omega)
    simp only[Place.val]at gU;have hy:=J gU;clear gU;go_wp2_with fail
    rw[uJ.o];refine hy.o.mono ?_;rintro e cc ⟨rfl,hr,pz,jK⟩;clear eo aP ba ey hB gS BW hd l3;go_wp2_with fail
    exact Lm.o cc hr _ (pz.mono (by omega)) jK (by simp[C_])
end Go.Proofs.YtiplgdkpnhamaaaGreatDoor
