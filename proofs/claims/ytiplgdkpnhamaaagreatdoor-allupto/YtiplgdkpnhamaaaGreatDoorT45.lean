import Derived.Test.YtiplgdkpnhamaaaGreatDoorT42
import Derived.Test.YtiplgdkpnhamaaaGreatDoorT40
set_option maxHeartbeats 2000000
set_option maxRecDepth 100000
namespace Go.Proofs.YtiplgdkpnhamaaaGreatDoor.Tv
open Go.Proofs.Tryz List
open Go.RowKit
variable {o:Nat->Tag}{s:Nat}
theorem LW (aX:World->(Nat->Tag)->Tag->Nat->Nat->Nat->aZ->Prop)(P:gH aX)(yG:Ib aX)(w:World):
  Calls prog 15 #[] w (bx (.bool true) fun w'=>ax w w'):=by
 go_enter func15,ntmps15;go_wp2_with fail
 refine(yG.aa3 w 1 2 (by decide)).mono ?_;rintro e an ⟨b,rfl,aF,hL⟩;have hY:=hL (fun _=>(0,0,0)) (1,0,0);have dF:=J aF;clear hL aF;go_wp2_with fail
 refine(P.PV _ _ _ b 2 1 _ hY (PT _ rfl rfl)).mono ?_;rintro e w2 ⟨he,dx,XL,eD⟩;rw[afQ]at he;subst he;have cB:Room uS:=PT _ (by unfold uS pt;split<;>rfl) (by unfold uS pt;split<;>rfl);have jH:=J XL;have zV:=J eD;clear hY XL eD;go_wp2_with fail
 refine(P.write _ _ _ b 2 1 uS 0 xz jH.o cB rfl (by simp[xz,maxLen];decide) (by simp[xz,maxLen];decide)).mono ?_;rintro e bN ⟨he,iv,XM,lE⟩;rw[VE]at he;subst he;have sA:Ac.hs=[]∧Ac.ag=[0,0]:=by
  unfold Ac jx;rw[LV];simp only[];split<;>exact⟨by unfold uS pt;split<;>rfl,by unfold uS pt;split<;>rfl⟩
 have b_:Room Ac:=PT _ sA.1 sA.2;have ri:=J XM;have Dz:=J (zV.o.trans lE);clear XM lE jH zV cB;go_wp2_with fail
 refine(P.read _ _ _ (2,0,0) b 2 1 Ac 0 ⟨#[114]⟩ ri.o b_ (by simp) (by simp[maxLen];decide)).mono ?_;rintro e cc ⟨bz,hr,he,aiQ,j7,cT⟩;rw[afS]at he cT;simp only at he cT;obtain⟨lb,iD,rfl,p_,-,kC,eb,-⟩:=cT.row.pos (by simp);subst he;have c0:cc.cell? (aa lb 0)=some (ai ⟨#[118]⟩):=by rw[eb 0 (by simp)];rfl
 have kM:=J (af3 dF.o (Dz.o.trans j7));clear ri Dz aiQ j7 cT eb dF;go_wp2_with fail
 go_ret;exact⟨rfl,kM.o.alloc kM.o.size _⟩
theorem A3:Ib (qC aX fun _=>rU):=⟨Go.Proofs.YtiplgdkpnhamaaaGreatDoor.amJ,amL⟩
theorem alO (n j:Nat):jM n rU j=mq n:=by
 refine yp (by simp[jM,mq]) fun r h1 ae=>?_
 have:mi.get (r:Int)=0:=by
  unfold aW.get mi aW.list;rw[kL];match r with
  |0|1|2|3|4=>rfl
  |r+5=>rfl
 simp only[jM,mq,getElem_map,getElem_range,getElem_replicate];exact this
theorem aio (n:Nat):jj n rU=mq n:=by
 refine yp (by simp[jj,mq]) fun r h1 ae=>?_
 simp[jj,mq,rU]
theorem Below.aa_ {cr w:World}(h:dS (hq s) cr (fun _=>(0,0,0)) w o):ax cr w:=
 ⟨h.ay.os,h.ay.tape,h.ay.output,h.ay.size,fun q ad=>h.ay.block q ad (by simp[hq])⟩
theorem TX {an w2:World}{aj az n:Nat}{aI ak:List Nat}{a6 k0:Value}{ar:Int}(a1:qy (qC aX fun _=>rU) (fun _ _=>mq n) (fun _=>mq n) an w2 o s aj az n aI ak a6 k0 ar)(kk:aI.length=n)(hF:ak.length=n)(b2:n<=5)(al:fI an)(m:iM)(hm:∀j,m j []):pr s aj az n aI ak jN jN jN jN ar m 0 w2 o:=by
 have bK:=a1.da.mono (B:=hq s) fun _=>x5
 have aS:∀q,q<6->q<an.heap.size∧¬hq s ((fun _=>(0,0,0):Nat->Tag) q):=fun q ad=>⟨by have:=al.room;omega,by simp[hq]⟩
 obtain⟨eF,dY⟩:=zk aS bK;have cT:=a1.law kk hF m hm;have aP:(fun _ _=>mq n:Nat->Nat->List Int)=fun i=>jM n ((fun _=>rU:Nat->dD) i):=by funext i j;exact(alO n j).symm
 have ba:(fun _=>mq n:Nat->List Int)=fun i=>jj n ((fun _=>rU:Nat->dD) i):=by funext i;exact(aio n).symm
 rw[aP,ba]at cT;exact⟨a6,jN,_,_,fun _=>rU,[],cT,⟨⟨jD _ _ _ _,fun q ad=>by simp[Value.ownBlock]at ad⟩,fun l aC=>by cases aC⟩,r7.init b2,al.kept dY,eF,by simp,by simp⟩
end Go.Proofs.YtiplgdkpnhamaaaGreatDoor.Tv
