import Derived.Test.YtiplgdkpnhamaaaGreatDoorT10
set_option maxHeartbeats 4000000
set_option maxRecDepth 100000
namespace Go.Proofs.YtiplgdkpnhamaaaGreatDoor
open Go.Proofs.Tryz
open Go.RowKit
variable {A:Tag->Prop}{cap hi j m m' n aj:Nat}{ar:Int}{g ah l aK aN rs aG v1 a8:Value}{ms news ts xs bb:List Value}{o ef:Nat->Tag}{bE:Obj}{aV bt bV bL:Tag}{cr an wr:World}
structure mU (cr:World)(ef:Nat->Tag)(A:Tag->Prop)(wr:World)(o:Nat->Tag)(aj:Nat)(aV bL bV bt:Tag)(rs g a8 aG aK aN ah:Value)(ar:Int)(m:Nat)(l:Value)(n:Nat):Prop where
 U:cP wr o aV aj [rs,g,a8,aG,aK,aN,ah,I ar] 94
 texts:∃ts,ts.length<=m∧b3 wr o bL 41 1 aG ts.length ts
 marks:∃ms,ms.length<=m∧b3 wr o bV 3 1 aK ms.length ms
 list:∃xs,b3 wr o bt 9 1 l n xs
 ay:ct A cr ef wr o
theorem mU.stored
  (h:mU cr ef A wr o aj aV bL bV bt rs g a8 aG aK aN ah ar m (bo hi n cap) n)(d:aV≠bt∧bL≠bt∧bV≠bt)(aU:A bt)(x:Value):
  mU cr ef A (wr.setCell (aa hi j) x) o aj aV bL bV bt rs g a8 aG aK aN ah ar m (bo hi n cap) n:=by
 obtain⟨hb,⟨ts,jL,al⟩,⟨ms,kV,hm⟩,⟨xs,au⟩,eP⟩:=h;have e:=au.tag hi rfl;exact⟨hb.other e d.1 x,⟨ts,jL,al.set e d.2.1 x⟩,⟨ms,kV,hm.set e d.2.2 x⟩,⟨_,⟨(ly au.row j x).1,au.tag⟩⟩,eP.set (by rw[e];exact aU) x⟩
theorem mU.kept
  (ao:cP wr o aV aj [rs,g,a8,aG,aK,aN,ah,I ar] 94)(aD:b3 wr o bL 41 1 aG ts.length ts)(bK:∃ms,ms.length<=m∧b3 wr o bV 3 1 aK ms.length ms)
  (cT:∃xs,b3 wr o bt 9 1 l n xs)(eP:ct A cr ef wr o)(jL:ts.length<=m)(oZ:news.length=1)
  (d:aV≠bL∧bV≠bL∧bt≠bL∧bL≠aV∧bV≠aV∧bt≠aV)(aU:A bL∧A aV)
  (dd:an.ownsRow 0 41 1 v1 (ts.length+1) (ts++news))(aM:(wr.alloc bE).grownBy an aG.ownBlock)(et:v1.ownBlock=aG.ownBlock∨v1.ownBlock=some (wr.alloc bE).heap.size):
  mU cr ef A (an.setCell (aa aj 3) v1) (ee o (wr.alloc bE).heap.size bL) aj aV bL bV bt rs g a8 v1 aK aN ah ar (m+1) l n:=by
 obtain⟨ms,kV,bK⟩:=bK;obtain⟨xs,cT⟩:=cT;have aF:=(ao.alloc bE).dw aM aD.tag d.1;have h7:=(aD.alloc bE).app dd et;have nW:=(bK.alloc bE).dw aM aD.tag d.2.1;have fJ:=(cT.alloc bE).dw aM aD.tag d.2.2.1;have e:=aF.tag;refine⟨aF.set 3 v1,⟨ts++news,by simp[oZ];omega,?_⟩,⟨ms,by omega,nW.set e d.2.2.2.2.1 v1⟩,⟨xs,fJ.set e d.2.2.2.2.2 v1⟩,((eP.alloc bE).dw aM aD.tag aU.1).set (by rw[e];exact aU.2) v1⟩;rw[eN,oZ];exact h7.set e d.2.2.2.1 v1
theorem mU.marked
  (ao:cP wr o aV aj [rs,g,a8,aG,aK,aN,ah,I ar] 94)(aD:∃ts,ts.length<=m∧b3 wr o bL 41 1 aG ts.length ts)(bK:b3 wr o bV 3 1 aK ms.length ms)
  (cT:∃xs,b3 wr o bt 9 1 l n xs)(eP:ct A cr ef wr o)(kV:ms.length<=m)(oZ:news.length=1)
  (d:aV≠bV∧bL≠bV∧bt≠bV∧bV≠aV∧bL≠aV∧bt≠aV)(aU:A bV∧A aV)
  (dd:an.ownsRow 0 3 1 v1 (ms.length+1) (ms++news))(aM:(wr.alloc bE).grownBy an aK.ownBlock)(et:v1.ownBlock=aK.ownBlock∨v1.ownBlock=some (wr.alloc bE).heap.size):
  mU cr ef A (an.setCell (aa aj 4) v1) (ee o (wr.alloc bE).heap.size bV) aj aV bL bV bt rs g a8 aG v1 aN ah ar (m+1) l n:=by
 obtain⟨ts,jL,aD⟩:=aD;obtain⟨xs,cT⟩:=cT;have aF:=(ao.alloc bE).dw aM bK.tag d.1;have nW:=(bK.alloc bE).app dd et;have h7:=(aD.alloc bE).dw aM bK.tag d.2.1;have fJ:=(cT.alloc bE).dw aM bK.tag d.2.2.1;have e:=aF.tag;refine⟨aF.set 4 v1,⟨ts,by omega,h7.set e d.2.2.2.2.1 v1⟩,⟨ms++news,by simp[oZ];omega,?_⟩,⟨xs,fJ.set e d.2.2.2.2.2 v1⟩,((eP.alloc bE).dw aM bK.tag aU.1).set (by rw[e];exact aU.2) v1⟩;rw[eN,oZ];exact nW.set e d.2.2.2.1 v1
theorem mU.vt
  (ao:cP wr o aV aj [rs,g,a8,aG,aK,aN,ah,I ar] 94)(aD:∃ts,ts.length<=m∧b3 wr o bL 41 1 aG ts.length ts)(bK:∃ms,ms.length<=m∧b3 wr o bV 3 1 aK ms.length ms)
  (cT:b3 wr o bt 9 1 l n xs)(eP:ct A cr ef wr o)
  (d:aV≠bt∧bL≠bt∧bV≠bt)(aU:A bt)
  (dd:an.ownsRow 0 9 1 v1 (n+1) bb)(aM:(wr.alloc bE).grownBy an l.ownBlock)(et:v1.ownBlock=l.ownBlock∨v1.ownBlock=some (wr.alloc bE).heap.size):
  mU cr ef A an (ee o (wr.alloc bE).heap.size bt) aj aV bL bV bt rs g a8 aG aK aN ah ar m v1 (n+1):=by
 obtain⟨ts,jL,aD⟩:=aD;obtain⟨ms,kV,bK⟩:=bK;exact⟨(ao.alloc bE).dw aM cT.tag d.1,⟨ts,jL,(aD.alloc bE).dw aM cT.tag d.2.1⟩,⟨ms,kV,(bK.alloc bE).dw aM cT.tag d.2.2⟩,⟨bb,(cT.alloc bE).app dd et⟩,(eP.alloc bE).dw aM cT.tag aU⟩
theorem mU.bound
  (h:mU cr ef A wr o aj aV bL bV bt rs g a8 aG aK aN ah ar m l n)(hm:m<=m'):mU cr ef A wr o aj aV bL bV bt rs g a8 aG aK aN ah ar m' l n:=by
 obtain⟨hb,⟨ts,jL,al⟩,⟨ms,kV,qa⟩,au,eP⟩:=h;exact⟨hb,⟨ts,by omega,al⟩,⟨ms,by omega,qa⟩,au,eP⟩
theorem acR (w:World)(o:Nat->Tag)(aj:Nat)(aV bL bV bt:Tag)(rs g a8 aG aK aN ah:Value)(ar:Int)(m:Nat)(l:Value)(n:Nat)
  (d:aV≠bL∧aV≠bV∧aV≠bt∧bL≠bV∧bL≠bt∧bV≠bt)(si:0<=ar∧ar<=3000000000)(hm:m<=1000000000)(hn:n<=1000000000)
  (a1:mU w o (fun t=>t=aV∨t=bL∨t=bV∨t=bt) w o aj aV bL bV bt rs g a8 aG aK aN ah ar m l n):
  Calls prog 90 #[.pointer (some (aa aj 0)),l] w (bx (.tuple #[]) fun w'=>∃o' lx lo ca,mU w o (fun t=>t=aV∨t=bL∨t=bV∨t=bt) w' o' aj aV bL bV bt rs g a8 lx lo aN ah (ar+1) (m+130) ca (n+65)):=by
 obtain⟨d1,d2,d3,d4,d5,d6⟩:=d;obtain⟨i0,aq,dC,dM,dK⟩:=iV Tryz.CL;obtain⟨i1,mZ,xY,qY,tt⟩:=iV Tryz.ZY;obtain⟨i2,nw,vq,oa,wJ⟩:=iV Tryz.GL;have bn:Hid ((aV≠bt∧bL≠bt∧bV≠bt)∧(aV≠bL∧bV≠bL∧bt≠bL∧bL≠aV∧bV≠aV∧bt≠aV)∧(aV≠bV∧bL≠bV∧bt≠bV∧bV≠aV∧bL≠aV∧bt≠aV)):=
  ⟨⟨d3,d5,d6⟩,⟨d1,d4.symm,d5.symm,d1.symm,d2.symm,d3.symm⟩,⟨d2,d4,d6.symm,d2.symm,d1.symm,d3.symm⟩⟩
 clear d1 d2 d3 d4 d5 d6;have hA:=a1.U.U.hA;have f7:=a1.U.U.frozen 7;have ir:=a1.U.U.lt;have sT:Hid (mU w o (fun t=>t=aV∨t=bL∨t=bV∨t=bt) (w.setCell (aa aj 7) (I (ar+1))) o aj aV bL bV bt rs g a8 aG aK aN ah (ar+1) m l n):=by
  obtain⟨hb,⟨ts,jL,al⟩,⟨ms,kV,qa⟩,⟨xs,au⟩,eP⟩:=a1;have e:=hb.tag;exact⟨hb.set 7 _,⟨ts,jL,al.set e bn.o.2.1.2.2.2.1 _⟩,⟨ms,kV,qa.set e bn.o.2.1.2.2.2.2.1 _⟩,⟨xs,au.set e bn.o.2.1.2.2.2.2.2 _⟩,eP.set (Or.inl hb.tag) _⟩
 obtain⟨e_,iD,rfl,-,-,-⟩:=(a1.list.choose_spec).row.shape;clear a1;go_enter func90,ntmps90;go_wp2_with fail
 refine(Uh (ar+1) _ (by omega) (by omega)).mono ?_;rintro e an ⟨rfl,aF⟩;have jh:Hid (mU w o (fun t=>t=aV∨t=bL∨t=bV∨t=bt) an o aj aV bL bV bt rs g a8 aG aK aN ah (ar+1) m (.slice e_ n iD) n):=by
  obtain⟨hb,⟨ts,jL,al⟩,⟨ms,kV,qa⟩,⟨xs,au⟩,eP⟩:=sT.o;exact⟨hb.below aF,⟨ts,jL,al.below aF⟩,⟨ms,kV,qa.below aF⟩,⟨xs,au.below aF⟩,eP.below aF⟩
 clear sT aF hA f7;generalize r2 (ar+1)=x at*;go_wp2_with fail
 go_loopw[5] (fun i wr=>∃k:Nat,k<=n∧i=I k∧mU w o (fun t=>t=aV∨t=bL∨t=bV∨t=bt) wr o aj aV bL bV bt rs g a8 aG aK aN ah (ar+1) m (.slice e_ n iD) n) (fun i _=>n-(intOf i).toNat)
 case atStart=>exact⟨0,ch,rfl,jh.o⟩
 case round=>
  obtain⟨k,hk,rfl,a1⟩:=hrel;by_cases cW:k<n
  ·obtain⟨xs,gd⟩:=a1.list
   obtain⟨hi,cap,e,-,-,fW,aA,bm⟩:=gd.row.pos (by omega);obtain⟨dI,-,An⟩:=sN e;subst dI An;clear e;have oT:∃y,wr.cell? (aa hi k)=some y:=by
    have oa:=gd.row.1;exact⟨xs[k]'(by omega),by rw[aA k (by omega)];simp[show k<xs.length by omega]⟩
   obtain⟨y,oT⟩:=oT;have vg:=bm k;have er:=J (a1.stored (j:=k) bn.o.1 (Or.inr (Or.inr (Or.inr rfl))) (ai x));clear aA bm gd a1;go_wp2_with fail
   exact⟨⟨k+1,by omega,by go_num,er.o⟩,by simp[intOf];omega⟩
  ·have er:=J a1
   clear a1;go_wp2_with fail
   go_loopw[1,6] (fun l i wr=>∃(k:Nat) (o':Nat->Tag) (lx lo:Value),k<=65∧i=I k∧mU w o (fun t=>t=aV∨t=bL∨t=bV∨t=bt) wr o' aj aV bL bV bt rs g a8 lx lo aN ah (ar+1) (m+2*k) l (n+k)) (fun _ i _=>65-(intOf i).toNat)
   case atStart=>exact⟨0,o,aG,aK,by omega,rfl,er.o⟩
   case round=>
    obtain⟨k,o',lx,lo,hk,rfl,a1⟩:=hrel;by_cases cW:k<65
    ·obtain⟨ao,⟨ts,jL,aD⟩,bK,⟨xs,gd⟩,mX⟩:=a1
     obtain⟨TZ,Hh,rfl,-,-,-⟩:=aD.row.shape;obtain⟨EL,EK,rfl,-,-,-⟩:=gd.row.shape;have c3:=ao.U.c3;have kX:=ao.U.lt;have bO:=J ao;have dA:=J aD;have fr:=J bK;have cm:=J gd;have pY:=J mX;by_cases gB:k<3∨k=64
     ·clear ao aD bK gd mX
      rcases gB with aH|rfl
      all_goals go_wp2_with(at_builtin;refine tK _ rfl _ _ 91 rfl 0 41 i1 (.slice none 0 0) 1 24 underlying91 mZ xY qY tt rfl (by decide) _ _ _ rfl (h2 dA.o.row _) (aa (wr.heap.size) 0) 1 1 [.slice EL _ EK] rfl rfl (qw _ _ _) (by intro u hu;simp at hu;subst hu;rfl) (by unfold maxLen;omega) (by omega) ch ?_;intro v1 an hc iI qT kQ;obtain⟨g1,vX,rfl,-,-,-,-,-⟩:=Row.pos hc (by omega);have aF:=(bO.o.alloc _).dw iI dA.o.tag bn.o.2.1.1;have fE:=aF.U.cell 3;have eL:=aF.U.frozen 3;have gJ:=aF.U.lt;clear aF)
      all_goals(have cD:=J (mU.kept bO.o dA.o fr.o ⟨xs,cm.o⟩ pY.o jL rfl bn.o.2.1 ⟨Or.inr (Or.inl rfl),Or.inl rfl⟩ hc iI kQ);clear hc iI kQ qT fE eL gJ c3 kX bO dA fr cm pY jL;generalize World.setCell _ _ _=W2 at*;generalize ee o' _ bL=dx at*;obtain⟨ao,aD,⟨ms,kV,bK⟩,gd,mX⟩:=cD.o;clear cD;obtain⟨gy,pb,rfl,-,-,-⟩:=bK.row.shape;have c4:W2.cell? (aa aj 4)=some (.slice gy ms.length pb):=ao.U.cell 4;have hA:W2.cell? (aa aj 7)=some (I (ar+1)):=ao.U.cell 7;have f4:W2.frozen? (aa aj 4)=false:=ao.U.frozen 4;have gV:=ao.U.lt;have bO:=J ao;have dA:=J aD;have fr:=J bK;have cm:=J gd;have pY:=J mX;clear ao aD bK gd mX;go_region_law(refine q6 rfl _ _ 44 rfl 3 i2 (I 0) 1 8 underlying44 nw vq oa wJ rfl (by decide) (.slice gy ms.length pb) ms.length ms (by simp[Act.eval]) (by exact h2 fr.o.row _) (aa (W2.heap.size) 0) 1 1 [I (ar+1)] (by simp[Act.eval]) rfl (by exact CP _ _ _) (by intro u hu;simp at hu;subst hu;rfl) (by unfold maxLen;omega) (by omega) ?_;intro v2 w2 fm gh kR;obtain⟨g2,lV,rfl,-,-,-,-,-⟩:=Row.pos fm (by omega);have fi:(W2.alloc (.cells #[I (ar+1)] 3)).grownBy w2 (Value.slice gy ms.length pb).ownBlock:=⟨gh.os,gh.tape,gh.output,gh.size,gh.block⟩;have aF:=(bO.o.alloc _).dw fi fr.o.tag bn.o.2.2.1;have hf:=aF.U.cell 4;have fO:=aF.U.frozen 4;have gJ:=aF.U.lt;clear aF gh))
      all_goals(have cD:=J (mU.marked bO.o dA.o fr.o cm.o pY.o kV rfl bn.o.2.2 ⟨Or.inr (Or.inr (Or.inl rfl)),Or.inl rfl⟩ fm fi kR);clear fm fi kR hf fO gJ c4 hA f4 gV bO dA fr cm pY kV;generalize World.setCell _ _ _=dH at*;generalize ee dx _ bV=iv at*;obtain⟨ao,aD,bK,⟨bb,gd⟩,mX⟩:=cD.o;clear cD;have bO:=J ao;have dA:=J aD;have fr:=J bK;have cm:=J gd;have pY:=J mX;clear ao aD bK gd mX;go_wp2_with(at_builtin;refine tK _ rfl _ _ 41 rfl 0 9 i0 (ai ⟨#[]⟩) 1 16 underlying41 aq dC dM dK rfl (by decide) _ _ _ rfl (h2 cm.o.row _) (aa (dH.heap.size) 0) 1 1 [ai x] rfl rfl (qw _ _ _) (by intro u hu;simp at hu;subst hu;rfl) (by unfold maxLen;omega) (by omega) ch ?_;intro v3 bN sr AJ aj6 AB))
      all_goals first|exact⟨⟨k+1,_,_,_,by omega,by go_num,(mU.vt bO.o dA.o fr.o cm.o pY.o bn.o.1 (Or.inr (Or.inr (Or.inr rfl))) sr AJ AB).bound (by omega)⟩,by simp[intOf];omega⟩|exact⟨⟨65,_,_,_,by omega,by go_num,(mU.vt bO.o dA.o fr.o cm.o pY.o bn.o.1 (Or.inr (Or.inr (Or.inr rfl))) sr AJ AB).bound (by omega)⟩,by simp[intOf]⟩
     ·clear ao aD bK gd mX
      have aH:¬k<3:=fun h=>gB (Or.inl h)
      have QB:¬k=64:=fun h=>gB (Or.inr h)
      have QC:((k:Int)==64)=false:=by simp;omega
      clear gB;go_wp2_with(at_builtin;refine tK _ rfl _ _ 41 rfl 0 9 i0 (ai ⟨#[]⟩) 1 16 underlying41 aq dC dM dK rfl (by decide) _ _ _ rfl (h2 cm.o.row _) (aa (wr.heap.size) 0) 1 1 [ai x] rfl rfl (qw _ _ _) (by intro u hu;simp at hu;subst hu;rfl) (by unfold maxLen;omega) (by omega) ch ?_;intro v1 an hc iI qT kQ)
      exact⟨⟨k+1,_,_,_,by omega,by go_num,(mU.vt bO.o ⟨ts,jL,dA.o⟩ fr.o cm.o pY.o bn.o.1 (Or.inr (Or.inr (Or.inr rfl))) hc iI kQ).bound (by omega)⟩,by simp[intOf];omega⟩
    ·have En:k=65:=by omega
     subst En;have er:=J a1;clear a1;go_wp2_with fail
     go_end0;exact⟨rfl,o',lx,lo,_,er.o⟩
structure nh (cr:World)(ef:Nat->Tag)(A:Tag->Prop)(wr:World)(o:Nat->Tag)(aj:Nat)(aV bL bV bt:Tag)(rs g a8 aG aK aN ah:Value)(ar:Int)(m:Nat)(l:Value)(n:Nat):Prop where
 U:cP wr o aV aj [rs,g,a8,aG,aK,aN,ah,I ar] 94
 texts:∃ts,ts.length<=m∧b3 wr o bL 44 1 aN ts.length ts
 marks:∃ms,ms.length<=m∧b3 wr o bV 3 1 ah ms.length ms
 list:∃xs,b3 wr o bt 3 1 l n xs
 ay:ct A cr ef wr o
theorem nh.stored
  (h:nh cr ef A wr o aj aV bL bV bt rs g a8 aG aK aN ah ar m (bo hi n cap) n)(d:aV≠bt∧bL≠bt∧bV≠bt)(aU:A bt)(x:Value):
  nh cr ef A (wr.setCell (aa hi j) x) o aj aV bL bV bt rs g a8 aG aK aN ah ar m (bo hi n cap) n:=by
 obtain⟨hb,⟨ts,jL,al⟩,⟨ms,kV,hm⟩,⟨xs,au⟩,eP⟩:=h;have e:=au.tag hi rfl;exact⟨hb.other e d.1 x,⟨ts,jL,al.set e d.2.1 x⟩,⟨ms,kV,hm.set e d.2.2 x⟩,⟨_,⟨(ly au.row j x).1,au.tag⟩⟩,eP.set (by rw[e];exact aU) x⟩
theorem nh.kept
  (ao:cP wr o aV aj [rs,g,a8,aG,aK,aN,ah,I ar] 94)(aD:b3 wr o bL 44 1 aN ts.length ts)(bK:∃ms,ms.length<=m∧b3 wr o bV 3 1 ah ms.length ms)
  (cT:∃xs,b3 wr o bt 3 1 l n xs)(eP:ct A cr ef wr o)(jL:ts.length<=m)(oZ:news.length=1)
  (d:aV≠bL∧bV≠bL∧bt≠bL∧bL≠aV∧bV≠aV∧bt≠aV)(aU:A bL∧A aV)
  (dd:an.ownsRow 0 44 1 v1 (ts.length+1) (ts++news))(aM:(wr.alloc bE).grownBy an aN.ownBlock)(et:v1.ownBlock=aN.ownBlock∨v1.ownBlock=some (wr.alloc bE).heap.size):
  nh cr ef A (an.setCell (aa aj 5) v1) (ee o (wr.alloc bE).heap.size bL) aj aV bL bV bt rs g a8 aG aK v1 ah ar (m+1) l n:=by
 obtain⟨ms,kV,bK⟩:=bK;obtain⟨xs,cT⟩:=cT;have aF:=(ao.alloc bE).dw aM aD.tag d.1;have h7:=(aD.alloc bE).app dd et;have nW:=(bK.alloc bE).dw aM aD.tag d.2.1;have fJ:=(cT.alloc bE).dw aM aD.tag d.2.2.1;have e:=aF.tag;refine⟨aF.set 5 v1,⟨ts++news,by simp[oZ];omega,?_⟩,⟨ms,by omega,nW.set e d.2.2.2.2.1 v1⟩,⟨xs,fJ.set e d.2.2.2.2.2 v1⟩,((eP.alloc bE).dw aM aD.tag aU.1).set (by rw[e];exact aU.2) v1⟩;rw[eN,oZ];exact h7.set e d.2.2.2.1 v1
theorem nh.marked
  (ao:cP wr o aV aj [rs,g,a8,aG,aK,aN,ah,I ar] 94)(aD:∃ts,ts.length<=m∧b3 wr o bL 44 1 aN ts.length ts)(bK:b3 wr o bV 3 1 ah ms.length ms)
  (cT:∃xs,b3 wr o bt 3 1 l n xs)(eP:ct A cr ef wr o)(kV:ms.length<=m)(oZ:news.length=1)
  (d:aV≠bV∧bL≠bV∧bt≠bV∧bV≠aV∧bL≠aV∧bt≠aV)(aU:A bV∧A aV)
  (dd:an.ownsRow 0 3 1 v1 (ms.length+1) (ms++news))(aM:(wr.alloc bE).grownBy an ah.ownBlock)(et:v1.ownBlock=ah.ownBlock∨v1.ownBlock=some (wr.alloc bE).heap.size):
  nh cr ef A (an.setCell (aa aj 6) v1) (ee o (wr.alloc bE).heap.size bV) aj aV bL bV bt rs g a8 aG aK aN v1 ar (m+1) l n:=by
 obtain⟨ts,jL,aD⟩:=aD;obtain⟨xs,cT⟩:=cT;have aF:=(ao.alloc bE).dw aM bK.tag d.1;have nW:=(bK.alloc bE).app dd et;have h7:=(aD.alloc bE).dw aM bK.tag d.2.1;have fJ:=(cT.alloc bE).dw aM bK.tag d.2.2.1;have e:=aF.tag;refine⟨aF.set 6 v1,⟨ts,by omega,h7.set e d.2.2.2.2.1 v1⟩,⟨ms++news,by simp[oZ];omega,?_⟩,⟨xs,fJ.set e d.2.2.2.2.2 v1⟩,((eP.alloc bE).dw aM bK.tag aU.1).set (by rw[e];exact aU.2) v1⟩;rw[eN,oZ];exact nW.set e d.2.2.2.1 v1
theorem nh.vt
  (ao:cP wr o aV aj [rs,g,a8,aG,aK,aN,ah,I ar] 94)(aD:∃ts,ts.length<=m∧b3 wr o bL 44 1 aN ts.length ts)(bK:∃ms,ms.length<=m∧b3 wr o bV 3 1 ah ms.length ms)
  (cT:b3 wr o bt 3 1 l n xs)(eP:ct A cr ef wr o)
  (d:aV≠bt∧bL≠bt∧bV≠bt)(aU:A bt)
  (dd:an.ownsRow 0 3 1 v1 (n+1) bb)(aM:(wr.alloc bE).grownBy an l.ownBlock)(et:v1.ownBlock=l.ownBlock∨v1.ownBlock=some (wr.alloc bE).heap.size):
  nh cr ef A an (ee o (wr.alloc bE).heap.size bt) aj aV bL bV bt rs g a8 aG aK aN ah ar m v1 (n+1):=by
 obtain⟨ts,jL,aD⟩:=aD;obtain⟨ms,kV,bK⟩:=bK;exact⟨(ao.alloc bE).dw aM cT.tag d.1,⟨ts,jL,(aD.alloc bE).dw aM cT.tag d.2.1⟩,⟨ms,kV,(bK.alloc bE).dw aM cT.tag d.2.2⟩,⟨bb,(cT.alloc bE).app dd et⟩,(eP.alloc bE).dw aM cT.tag aU⟩
theorem nh.bound
  (h:nh cr ef A wr o aj aV bL bV bt rs g a8 aG aK aN ah ar m l n)(hm:m<=m'):nh cr ef A wr o aj aV bL bV bt rs g a8 aG aK aN ah ar m' l n:=by
 obtain⟨hb,⟨ts,jL,al⟩,⟨ms,kV,qa⟩,au,eP⟩:=h;exact⟨hb,⟨ts,by omega,al⟩,⟨ms,by omega,qa⟩,au,eP⟩
theorem Wf (w:World)(o:Nat->Tag)(aj:Nat)(aV bL bV bt:Tag)(rs g a8 aG aK aN ah:Value)(ar:Int)(m:Nat)(l:Value)(n:Nat)
  (d:aV≠bL∧aV≠bV∧aV≠bt∧bL≠bV∧bL≠bt∧bV≠bt)(si:0<=ar∧ar<=3000000000)(hm:m<=1000000000)(hn:n<=1000000000)
  (a1:nh w o (fun t=>t=aV∨t=bL∨t=bV∨t=bt) w o aj aV bL bV bt rs g a8 aG aK aN ah ar m l n):
  Calls prog 96 #[.pointer (some (aa aj 0)),l] w (bx (.tuple #[]) fun w'=>∃o' lp iC ca,nh w o (fun t=>t=aV∨t=bL∨t=bV∨t=bt) w' o' aj aV bL bV bt rs g a8 aG aK lp iC (ar+1) (m+130) ca (n+65)):=by
 obtain⟨d1,d2,d3,d4,d5,d6⟩:=d;obtain⟨i1,mZ,xY,qY,tt⟩:=iV Tryz.ZW;obtain⟨i2,nw,vq,oa,wJ⟩:=iV Tryz.GL;have bn:Hid ((aV≠bt∧bL≠bt∧bV≠bt)∧(aV≠bL∧bV≠bL∧bt≠bL∧bL≠aV∧bV≠aV∧bt≠aV)∧(aV≠bV∧bL≠bV∧bt≠bV∧bV≠aV∧bL≠aV∧bt≠aV)):=
  ⟨⟨d3,d5,d6⟩,⟨d1,d4.symm,d5.symm,d1.symm,d2.symm,d3.symm⟩,⟨d2,d4,d6.symm,d2.symm,d1.symm,d3.symm⟩⟩
 clear d1 d2 d3 d4 d5 d6;have hA:=a1.U.U.hA;have f7:=a1.U.U.frozen 7;have ir:=a1.U.U.lt;have jh:Hid (nh w o (fun t=>t=aV∨t=bL∨t=bV∨t=bt) (w.setCell (aa aj 7) (I (ar+1))) o aj aV bL bV bt rs g a8 aG aK aN ah (ar+1) m l n):=by
  obtain⟨hb,⟨ts,jL,al⟩,⟨ms,kV,qa⟩,⟨xs,au⟩,eP⟩:=a1;have e:=hb.tag;exact⟨hb.set 7 _,⟨ts,jL,al.set e bn.o.2.1.2.2.2.1 _⟩,⟨ms,kV,qa.set e bn.o.2.1.2.2.2.2.1 _⟩,⟨xs,au.set e bn.o.2.1.2.2.2.2.2 _⟩,eP.set (Or.inl hb.tag) _⟩
 obtain⟨e_,iD,rfl,-,-,-⟩:=(a1.list.choose_spec).row.shape;clear a1;go_enter func96,ntmps96;go_wp2_with fail
 go_loopw[4] (fun i wr=>∃k:Nat,k<=n∧i=I k∧nh w o (fun t=>t=aV∨t=bL∨t=bV∨t=bt) wr o aj aV bL bV bt rs g a8 aG aK aN ah (ar+1) m (.slice e_ n iD) n) (fun i _=>n-(intOf i).toNat)
 case atStart=>exact⟨0,ch,rfl,jh.o⟩
 case round=>
  clear hA f7 jh;obtain⟨k,hk,rfl,a1⟩:=hrel;by_cases cW:k<n
  ·obtain⟨xs,gd⟩:=a1.list
   obtain⟨hi,cap,e,-,-,fW,aA,bm⟩:=gd.row.pos (by omega);obtain⟨dI,-,An⟩:=sN e;subst dI An;clear e;have oT:∃y,wr.cell? (aa hi k)=some y:=by
    have oa:=gd.row.1;exact⟨xs[k]'(by omega),by rw[aA k (by omega)];simp[show k<xs.length by omega]⟩
   obtain⟨y,oT⟩:=oT;have vg:=bm k;have hA:=a1.U.U.hA;have er:=J (a1.stored (j:=k) bn.o.1 (Or.inr (Or.inr (Or.inr rfl))) (I (-(ar+1))));clear aA bm gd a1;go_wp2_with fail
   exact⟨⟨k+1,by omega,by go_num,er.o⟩,by simp[intOf];omega⟩
  ·have er:=J a1
   clear a1;go_wp2_with fail
   go_loopw[1,5] (fun l i wr=>∃(k:Nat) (o':Nat->Tag) (lp iC:Value),k<=65∧i=I k∧nh w o (fun t=>t=aV∨t=bL∨t=bV∨t=bt) wr o' aj aV bL bV bt rs g a8 aG aK lp iC (ar+1) (m+2*k) l (n+k)) (fun _ i _=>65-(intOf i).toNat)
   case atStart=>exact⟨0,o,aN,ah,by omega,rfl,er.o⟩
   case round=>
    obtain⟨k,o',lp,iC,hk,rfl,a1⟩:=hrel;by_cases cW:k<65
    ·obtain⟨ao,⟨ts,jL,aD⟩,bK,⟨xs,gd⟩,mX⟩:=a1
     obtain⟨TZ,Hh,rfl,-,-,-⟩:=aD.row.shape;obtain⟨EL,EK,rfl,-,-,-⟩:=gd.row.shape;have c5:=ao.U.c5;have kX:=ao.U.lt;have bO:=J ao;have dA:=J aD;have fr:=J bK;have cm:=J gd;have pY:=J mX;by_cases gB:k<3∨k=64
     ·clear ao aD bK gd mX
      rcases gB with aH|rfl
      all_goals go_wp2_with(at_builtin;refine tK _ rfl _ _ 92 rfl 0 44 i1 (.slice none 0 0) 1 24 underlying92 mZ xY qY tt rfl (by decide) _ _ _ rfl (h2 dA.o.row _) (aa (wr.heap.size) 0) 1 1 [.slice EL _ EK] rfl rfl (qw _ _ _) (by intro u hu;simp at hu;subst hu;rfl) (by unfold maxLen;omega) (by omega) ch ?_;intro v1 an hc iI qT kQ;obtain⟨g1,vX,rfl,-,-,-,-,-⟩:=Row.pos hc (by omega);have aF:=(bO.o.alloc _).dw iI dA.o.tag bn.o.2.1.1;have fE:=aF.U.cell 5;have eL:=aF.U.frozen 5;have gJ:=aF.U.lt;clear aF)
      all_goals(have cD:=J (nh.kept bO.o dA.o fr.o ⟨xs,cm.o⟩ pY.o jL rfl bn.o.2.1 ⟨Or.inr (Or.inl rfl),Or.inl rfl⟩ hc iI kQ);clear hc iI kQ qT fE eL gJ c5 kX bO dA fr cm pY jL;generalize World.setCell _ _ _=W2 at*;generalize ee o' _ bL=dx at*;obtain⟨ao,aD,⟨ms,kV,bK⟩,gd,mX⟩:=cD.o;clear cD;obtain⟨gy,pb,rfl,-,-,-⟩:=bK.row.shape;have iG:W2.cell? (aa aj 6)=some (.slice gy ms.length pb):=ao.U.cell 6;have hA:W2.cell? (aa aj 7)=some (I (ar+1)):=ao.U.cell 7;have f6:W2.frozen? (aa aj 6)=false:=ao.U.frozen 6;have gV:=ao.U.lt;have bO:=J ao;have dA:=J aD;have fr:=J bK;have cm:=J gd;have pY:=J mX;clear ao aD bK gd mX;go_region_law(refine q6 rfl _ _ 44 rfl 3 i2 (I 0) 1 8 underlying44 nw vq oa wJ rfl (by decide) (.slice gy ms.length pb) ms.length ms (by simp[Act.eval]) (by exact h2 fr.o.row _) (aa (W2.heap.size) 0) 1 1 [I (IntKind.i64.wrap (-(ar+1)))] (by simp[Act.eval]) rfl (by exact CP _ _ _) (by intro u hu;simp at hu;subst hu;rfl) (by unfold maxLen;omega) (by omega) ?_;intro v2 w2 fm gh kR;obtain⟨g2,lV,rfl,-,-,-,-,-⟩:=Row.pos fm (by omega);have fi:(W2.alloc (.cells #[I (IntKind.i64.wrap (-(ar+1)))] 3)).grownBy w2 (Value.slice gy ms.length pb).ownBlock:=⟨gh.os,gh.tape,gh.output,gh.size,gh.block⟩;have aF:=(bO.o.alloc _).dw fi fr.o.tag bn.o.2.2.1;have hf:=aF.U.cell 6;have fO:=aF.U.frozen 6;have gJ:=aF.U.lt;clear aF gh))
      all_goals(have cD:=J (nh.marked bO.o dA.o fr.o cm.o pY.o kV rfl bn.o.2.2 ⟨Or.inr (Or.inr (Or.inl rfl)),Or.inl rfl⟩ fm fi kR);clear fm fi kR hf fO gJ iG hA f6 gV bO dA fr cm pY kV;generalize World.setCell _ _ _=dH at*;generalize ee dx _ bV=iv at*;obtain⟨ao,aD,bK,⟨bb,gd⟩,mX⟩:=cD.o;clear cD;have hA:dH.cell? (aa aj 7)=some (I (ar+1)):=ao.U.cell 7;have bO:=J ao;have dA:=J aD;have fr:=J bK;have cm:=J gd;have pY:=J mX;clear ao aD bK gd mX;go_wp2_with(at_builtin;refine tK _ rfl _ _ 44 rfl 0 3 i2 (I 0) 1 8 underlying44 nw vq oa wJ rfl (by decide) _ _ _ rfl (h2 cm.o.row _) (aa (dH.heap.size) 0) 1 1 [I (-(ar+1))] rfl rfl (qw _ _ _) (by intro u hu;simp at hu;subst hu;rfl) (by unfold maxLen;omega) (by omega) ch ?_;intro v3 bN sr AJ aj6 AB))
      all_goals first|exact⟨⟨k+1,_,_,_,by omega,by go_num,(nh.vt bO.o dA.o fr.o cm.o pY.o bn.o.1 (Or.inr (Or.inr (Or.inr rfl))) sr AJ AB).bound (by omega)⟩,by simp[intOf];omega⟩|exact⟨⟨65,_,_,_,by omega,by go_num,(nh.vt bO.o dA.o fr.o cm.o pY.o bn.o.1 (Or.inr (Or.inr (Or.inr rfl))) sr AJ AB).bound (by omega)⟩,by simp[intOf]⟩
     ·have hA:=ao.U.hA
      clear ao aD bK gd mX;have aH:¬k<3:=fun h=>gB (Or.inl h)
      have QB:¬k=64:=fun h=>gB (Or.inr h)
      have QC:((k:Int)==64)=false:=by simp;omega
      clear gB;go_wp2_with(at_builtin;refine tK _ rfl _ _ 44 rfl 0 3 i2 (I 0) 1 8 underlying44 nw vq oa wJ rfl (by decide) _ _ _ rfl (h2 cm.o.row _) (aa (wr.heap.size) 0) 1 1 [I (-(ar+1))] rfl rfl (qw _ _ _) (by intro u hu;simp at hu;subst hu;rfl) (by unfold maxLen;omega) (by omega) ch ?_;intro v1 an hc iI qT kQ)
      exact⟨⟨k+1,_,_,_,by omega,by go_num,(nh.vt bO.o ⟨ts,jL,dA.o⟩ fr.o cm.o pY.o bn.o.1 (Or.inr (Or.inr (Or.inr rfl))) hc iI kQ).bound (by omega)⟩,by simp[intOf];omega⟩
    ·have En:k=65:=by omega
     subst En;have er:=J a1;clear a1;go_wp2_with fail
     go_end0;exact⟨rfl,o',lp,iC,_,er.o⟩
end Go.Proofs.YtiplgdkpnhamaaaGreatDoor
