import Derived.Test.YtiplgdkpnhamaaaGreatDoorT11
set_option maxHeartbeats 4000000
set_option maxRecDepth 100000
namespace Go.Proofs.YtiplgdkpnhamaaaGreatDoor
open Go.Proofs.Tryz List
open Go.RowKit
variable {y:Value}
structure lR (cr:World)(ef:Nat->Tag)(A:Tag->Prop)(wr:World)(o:Nat->Tag)(aj:Nat)(aV bL bV bt:Tag)(rs g a8 aG aK aN ah:Value)(ar:Int)(T M:List Value)(l:Value)(n:Nat)(xs:List Value)(x:Value)(eU:List (Value×Nat)):Prop where
 U:cP wr o aV aj [rs,g,a8,aG,aK,aN,ah,I ar] 94
 texts:b3 wr o bL 44 1 aN T.length T
 marks:b3 wr o bV 3 1 ah M.length M
 list:b3 wr o bt 3 1 l n xs
 kept:∀e,e∈eU->Full wr o bt 3 x e.1 e.2∧e.2<=n
 ay:ct A cr ef wr o
section
variable {cr wr an:World}{ef o:Nat->Tag}{A:Tag->Prop}{aj:Nat}{aV bL bV bt:Tag}{rs g a8 aG aK aN ah v1:Value}{ar:Int}{T M:List Value}{n hi cap j:Nat}{l x:Value}{bE:Obj}{xs news:List Value}{eU:List (Value×Nat)}
theorem lR.stored (h:lR cr ef A wr o aj aV bL bV bt rs g a8 aG aK aN ah ar T M (bo hi n cap) n xs x [])(d:aV≠bt∧bL≠bt∧bV≠bt)(aU:A bt)(y:Value):
  lR cr ef A (wr.setCell (aa hi j) y) o aj aV bL bV bt rs g a8 aG aK aN ah ar T M (bo hi n cap) n (xs.set j y) x []:=by
 obtain⟨hb,al,hm,au,-,eP⟩:=h;have e:=au.tag hi rfl;exact⟨hb.other e d.1 y,al.set e d.2.1 y,hm.set e d.2.2 y,⟨(ly au.row j y).1,au.tag⟩,fun e he=>(by cases he),eP.set (by rw[e];exact aU) y⟩
theorem lR.rQ (h:lR cr ef A wr o aj aV bL bV bt rs g a8 aG aK aN ah ar T M l n (replicate n x) x eU)
  (d:aV≠bL∧bV≠bL∧bt≠bL∧bL≠aV∧bV≠aV∧bt≠aV)(aU:A bL∧A aV)
  (dd:an.ownsRow 0 44 1 v1 (T.length+1) (T++[l]))(aM:(wr.alloc bE).grownBy an aN.ownBlock)(et:v1.ownBlock=aN.ownBlock∨v1.ownBlock=some (wr.alloc bE).heap.size):
  lR cr ef A (an.setCell (aa aj 5) v1) (ee o (wr.alloc bE).heap.size bL) aj aV bL bV bt rs g a8 aG aK v1 ah ar (T++[l]) M l n (replicate n x) x (eU++[(l,n)]):=by
 obtain⟨ao,aD,bK,cT,cx,eP⟩:=h;have aF:=(ao.alloc bE).dw aM aD.tag d.1;have h7:=(aD.alloc bE).app dd et;have nW:=(bK.alloc bE).dw aM aD.tag d.2.1;have fJ:=(cT.alloc bE).dw aM aD.tag d.2.2.1;have e:=aF.tag;refine⟨aF.set 5 v1,?_,nW.set e d.2.2.2.2.1 v1,fJ.set e d.2.2.2.2.2 v1,fun y b9=>?_,((eP.alloc bE).dw aM aD.tag aU.1).set (by rw[e];exact aU.2) v1⟩
 ·rw[eN,ys]
  exact h7.set e d.2.2.2.1 v1
 ·rcases hT.1 b9 with b9|b9
  ·obtain⟨h1,ae⟩:=cx y b9
   exact⟨(b3.dw (b3.alloc h1 bE) aM aD.tag d.2.2.1).set e d.2.2.2.2.2 v1,ae⟩
  ·rw[k4.1 b9]
   exact⟨fJ.set e d.2.2.2.2.2 v1,cv⟩
theorem lR.mark (h:lR cr ef A wr o aj aV bL bV bt rs g a8 aG aK aN ah ar T M l n xs x eU)
  (d:aV≠bV∧bL≠bV∧bt≠bV∧bV≠aV∧bL≠aV∧bt≠aV)(aU:A bV∧A aV)
  (dd:an.ownsRow 0 3 1 v1 (M.length+1) (M++[y]))(aM:(wr.alloc bE).grownBy an ah.ownBlock)(et:v1.ownBlock=ah.ownBlock∨v1.ownBlock=some (wr.alloc bE).heap.size):
  lR cr ef A (an.setCell (aa aj 6) v1) (ee o (wr.alloc bE).heap.size bV) aj aV bL bV bt rs g a8 aG aK aN v1 ar T (M++[y]) l n xs x eU:=by
 obtain⟨ao,aD,bK,cT,cx,eP⟩:=h;have aF:=(ao.alloc bE).dw aM bK.tag d.1;have nW:=(bK.alloc bE).app dd et;have h7:=(aD.alloc bE).dw aM bK.tag d.2.1;have fJ:=(cT.alloc bE).dw aM bK.tag d.2.2.1;have e:=aF.tag;refine⟨aF.set 6 v1,h7.set e d.2.2.2.2.1 v1,?_,fJ.set e d.2.2.2.2.2 v1,fun z cF=>?_,((eP.alloc bE).dw aM bK.tag aU.1).set (by rw[e];exact aU.2) v1⟩
 ·rw[eN,ys]
  exact nW.set e d.2.2.2.1 v1
 ·obtain⟨h1,ae⟩:=cx z cF
  exact⟨(b3.dw (b3.alloc h1 bE) aM bK.tag d.2.2.1).set e d.2.2.2.2.2 v1,ae⟩
theorem lR.vt (h:lR cr ef A wr o aj aV bL bV bt rs g a8 aG aK aN ah ar T M l n (replicate n x) x eU)
  (d:aV≠bt∧bL≠bt∧bV≠bt)(aU:A bt)
  (dd:an.ownsRow 0 3 1 v1 (n+1) (replicate n x++[x]))(aM:(wr.alloc bE).grownBy an l.ownBlock)(et:v1.ownBlock=l.ownBlock∨v1.ownBlock=some (wr.alloc bE).heap.size)
  (kR:(∃g cap,l=bo g n cap∧v1=bo g (n+1) cap)∨(wr.alloc bE).grownBy an none):
  lR cr ef A an (ee o (wr.alloc bE).heap.size bt) aj aV bL bV bt rs g a8 aG aK aN ah ar T M v1 (n+1) (replicate (n+1) x) x eU:=by
 obtain⟨ao,aD,bK,cT,cx,eP⟩:=h;refine⟨(ao.alloc bE).dw aM cT.tag d.1,(aD.alloc bE).dw aM cT.tag d.2.1,(bK.alloc bE).dw aM cT.tag d.2.2,?_,fun y b9=>?_,(eP.alloc bE).dw aM cT.tag aU⟩
 ·rw[Fk]
  exact(cT.alloc bE).app dd et
 ·obtain⟨h1,ae⟩:=cx y b9
  exact⟨Full.kept (b3.alloc h1 bE) (b3.alloc cT bE) ae dd aM kR,by omega⟩
theorem lR.cast {p0 mS:List Value}{v:Value}{q:Nat}(h:lR cr ef A wr o aj aV bL bV bt rs g a8 aG aK aN ah ar (p0++[v]) (mS++[y]) l n xs x (eU++[(v,q)]))(h1:T++eU.map Prod.fst=p0)(ae:M++replicate eU.length y=mS):
  lR cr ef A wr o aj aV bL bV bt rs g a8 aG aK aN ah ar (T++(eU++[(v,q)]).map Prod.fst) (M++replicate (eU++[(v,q)]).length y) l n xs x (eU++[(v,q)]):=by
 have aP:T++(eU++[(v,q)]).map Prod.fst=p0++[v]:=by rw[<-h1];simp
 have ba:M++replicate (eU++[(v,q)]).length y=mS++[y]:=by rw[<-ae,eN,ys,Fk,mN]
 rw[aP,ba];exact h
end
theorem Wg (w:World)(o:Nat->Tag)(aj:Nat)(aV bL bV bt:Tag)(rs g a8 aG aK aN ah:Value)(ar:Int)(T M:List Value)(l:Value)(n:Nat)(Fc:List Value)
  (d:aV≠bL∧aV≠bV∧aV≠bt∧bL≠bV∧bL≠bt∧bV≠bt)(si:0<=ar∧ar<=3000000000)(so:T.length<=1000000000)(xU:M.length<=1000000000)(hn:n<=1000000000)
  (a1:lR w o (fun t=>t=aV∨t=bL∨t=bV∨t=bt) w o aj aV bL bV bt rs g a8 aG aK aN ah ar T M l n Fc (I (-(ar+1))) []):
  Calls prog 96 #[.pointer (some (aa aj 0)),l] w (bx (.tuple #[]) fun w'=>∃o' lp iC ca eU,eU.length<=65∧lR w o (fun t=>t=aV∨t=bL∨t=bV∨t=bt) w' o' aj aV bL bV bt rs g a8 aG aK lp iC (ar+1) (T++eU.map Prod.fst) (M++replicate eU.length (I (-(ar+1)))) ca (n+65) (replicate (n+65) (I (-(ar+1)))) (I (-(ar+1))) eU):=by
 obtain⟨d1,d2,d3,d4,d5,d6⟩:=d;obtain⟨i1,mZ,xY,qY,tt⟩:=iV Tryz.ZW;obtain⟨i2,nw,vq,oa,wJ⟩:=iV Tryz.GL;have bn:Hid ((aV≠bt∧bL≠bt∧bV≠bt)∧(aV≠bL∧bV≠bL∧bt≠bL∧bL≠aV∧bV≠aV∧bt≠aV)∧(aV≠bV∧bL≠bV∧bt≠bV∧bV≠aV∧bL≠aV∧bt≠aV)):=
  ⟨⟨d3,d5,d6⟩,⟨d1,d4.symm,d5.symm,d1.symm,d2.symm,d3.symm⟩,⟨d2,d4,d6.symm,d2.symm,d1.symm,d3.symm⟩⟩
 clear d1 d2 d3 d4 d5 d6;have jm:IntKind.i64.wrap (-(ar+1))= -(ar+1):=by rw[IntKind.wrap_i64];omega
 have DA:=J jm;clear jm;have hA:=a1.U.U.hA;have f7:=a1.U.U.frozen 7;have ir:=a1.U.U.lt;have jh:Hid (lR w o (fun t=>t=aV∨t=bL∨t=bV∨t=bt) (w.setCell (aa aj 7) (I (ar+1))) o aj aV bL bV bt rs g a8 aG aK aN ah (ar+1) T M l n Fc (I (-(ar+1))) []):=by
  obtain⟨hb,al,qa,au,-,eP⟩:=a1;have e:=hb.tag;exact⟨hb.set 7 _,al.set e bn.o.2.1.2.2.2.1 _,qa.set e bn.o.2.1.2.2.2.2.1 _,au.set e bn.o.2.1.2.2.2.2.2 _,fun e he=>(by cases he),eP.set (Or.inl hb.tag) _⟩
 obtain⟨e_,iD,rfl,-,-,-⟩:=a1.list.row.shape;clear a1;go_enter func96,ntmps96;go_wp2_with fail
 go_loopw[4] (fun i wr=>∃(k:Nat) (xs:List Value),k<=n∧i=I k∧Hid (xs.take k=replicate k (I (-(ar+1))))∧lR w o (fun t=>t=aV∨t=bL∨t=bV∨t=bt) wr o aj aV bL bV bt rs g a8 aG aK aN ah (ar+1) T M (.slice e_ n iD) n xs (I (-(ar+1))) []) (fun i _=>n-(intOf i).toNat)
 case atStart=>exact⟨0,Fc,ch,rfl,rfl,jh.o⟩
 case round=>
  clear hA f7 jh;obtain⟨k,xs,hk,rfl,zX,a1⟩:=hrel;by_cases cW:k<n
  ·have gd:=a1.list
   have ED:xs.length=n:=by have:=gd.row.1;omega
   have Pz:=J (take_set zX.o ED cW);clear ED zX;obtain⟨hi,cap,e,-,-,fW,aA,bm⟩:=gd.row.pos (by omega);obtain⟨dI,-,An⟩:=sN e;subst dI An;clear e;have oT:∃y,wr.cell? (aa hi k)=some y:=by
    have oa:=gd.row.1;exact⟨xs[k]'(by omega),by rw[aA k (by omega)];simp[show k<xs.length by omega]⟩
   obtain⟨y,oT⟩:=oT;have vg:=bm k;have hA:=a1.U.U.hA;have er:=J (a1.stored (j:=k) bn.o.1 (Or.inr (Or.inr (Or.inr rfl))) (I (-(ar+1))));clear aA bm gd a1;go_wp2_with fail
   exact⟨⟨k+1,_,by omega,by go_num,Pz,er.o⟩,by simp[intOf];omega⟩
  ·have R7:xs=replicate n (I (-(ar+1))):=by
    have ED:xs.length=n:=by have:=a1.list.row.1;omega
    have h:=zX.o;rw[show k=n by omega,lQ (by omega)]at h;exact h
   subst R7;have er:=J a1;clear a1 zX;go_wp2_with fail
   go_loopw[1,5] (fun l i wr=>∃(k:Nat) (o':Nat->Tag) (lp iC:Value) (eU:List (Value×Nat)),k<=65∧i=I k∧eU.length<=k∧lR w o (fun t=>t=aV∨t=bL∨t=bV∨t=bt) wr o' aj aV bL bV bt rs g a8 aG aK lp iC (ar+1) (T++eU.map Prod.fst) (M++replicate eU.length (I (-(ar+1)))) l (n+k) (replicate (n+k) (I (-(ar+1)))) (I (-(ar+1))) eU) (fun _ i _=>65-(intOf i).toNat)
   case atStart=>exact⟨0,o,aN,ah,[],by omega,rfl,by simp,by simpa using er.o⟩
   case round=>
    obtain⟨k,o',lp,iC,eU,hk,rfl,D3,a1⟩:=hrel;by_cases cW:k<65
    ·have aiU:(T++eU.map Prod.fst).length<=1000000065:=by simp;omega
     have aiO:(M++replicate eU.length (I (-(ar+1)))).length<=1000000065:=by simp;omega
     have HQ:=J D3;clear D3;generalize yX:T++eU.map Prod.fst=p0 at*;generalize I9:M++replicate eU.length (I (-(ar+1)))=mS at*;have zW:=J (⟨yX,I9⟩:_∧_);clear yX I9;obtain⟨TZ,Hh,rfl,-,-,-⟩:=a1.texts.row.shape;obtain⟨EL,EK,rfl,-,-,-⟩:=a1.list.row.shape;have c5:=a1.U.U.c5;have kX:=a1.U.U.lt;have aL:=J a1;clear a1;by_cases gB:k<3∨k=64
     ·rcases gB with aH|rfl
      all_goals go_wp2_with(at_builtin;refine tK _ rfl _ _ 92 rfl 0 44 i1 (.slice none 0 0) 1 24 underlying92 mZ xY qY tt rfl (by decide) _ _ _ rfl (h2 aL.o.texts.row _) (aa (wr.heap.size) 0) 1 1 [.slice EL _ EK] rfl rfl (qw _ _ _) (by intro u hu;simp at hu;subst hu;rfl) (by unfold maxLen;omega) (by omega) ch ?_;intro v1 an hc iI qT kQ;obtain⟨g1,vX,rfl,-,-,-,-,-⟩:=Row.pos hc (by omega);have aF:=(aL.o.U.alloc _).dw iI aL.o.texts.tag bn.o.2.1.1;have fE:=aF.U.cell 5;have eL:=aF.U.frozen 5;have gJ:=aF.U.lt;clear aF)
      all_goals(have cD:=J (lR.rQ aL.o bn.o.2.1 ⟨Or.inr (Or.inl rfl),Or.inl rfl⟩ hc iI kQ);clear hc iI kQ qT fE eL gJ c5 kX aL;generalize World.setCell _ _ _=W2 at*;generalize ee o' _ bL=dx at*;obtain⟨gy,pb,rfl,-,-,-⟩:=cD.o.marks.row.shape;have iG:W2.cell? (aa aj 6)=some (.slice gy mS.length pb):=cD.o.U.U.cell 6;have hA:W2.cell? (aa aj 7)=some (I (ar+1)):=cD.o.U.U.cell 7;have f6:W2.frozen? (aa aj 6)=false:=cD.o.U.U.frozen 6;have gV:=cD.o.U.U.lt;go_region_law(refine q6 rfl _ _ 44 rfl 3 i2 (I 0) 1 8 underlying44 nw vq oa wJ rfl (by decide) (.slice gy mS.length pb) mS.length mS (by simp[Act.eval]) (by exact h2 cD.o.marks.row _) (aa (W2.heap.size) 0) 1 1 [I (IntKind.i64.wrap (-(ar+1)))] (by simp[Act.eval]) rfl (by exact CP _ _ _) (by intro u hu;simp at hu;subst hu;rfl) (by unfold maxLen;omega) (by omega) ?_;intro v2 w2 fm gh kR;obtain⟨g2,lV,rfl,-,-,-,-,-⟩:=Row.pos fm (by omega);have fi:(W2.alloc (.cells #[I (IntKind.i64.wrap (-(ar+1)))] 3)).grownBy w2 (Value.slice gy mS.length pb).ownBlock:=⟨gh.os,gh.tape,gh.output,gh.size,gh.block⟩;have aF:=(cD.o.U.alloc _).dw fi cD.o.marks.tag bn.o.2.2.1;have hf:=aF.U.cell 6;have fO:=aF.U.frozen 6;have gJ:=aF.U.lt;clear aF gh))
      all_goals(have cp:=J (lR.mark cD.o bn.o.2.2 ⟨Or.inr (Or.inr (Or.inl rfl)),Or.inl rfl⟩ fm fi kR);clear fm fi kR hf fO gJ iG hA f6 gV cD;rw[DA.o]at cp;generalize World.setCell _ _ _=dH at*;generalize ee dx _ bV=iv at*;have hA:dH.cell? (aa aj 7)=some (I (ar+1)):=cp.o.U.U.cell 7;have tl:=cp.o.U.U.lt;go_wp2_with(at_builtin;refine OO rfl _ _ 44 rfl 3 i2 (I 0) 1 8 underlying44 nw vq oa wJ rfl (by decide) _ _ _ rfl (h2 cp.o.list.row _) (aa (dH.heap.size) 0) 1 1 [I (-(ar+1))] rfl rfl (qw _ _ _) (by intro u hu;simp at hu;subst hu;rfl) (by unfold maxLen;omega) (by omega) ?_;intro v3 bN sr AJ AB QY))
      all_goals(have bX:=J (lR.vt cp.o bn.o.1 (Or.inr (Or.inr (Or.inr rfl))) sr AJ AB QY);have Dr:=J (lR.cast bX.o zW.o.1 zW.o.2);have zQ:=HQ.o;first|exact⟨⟨k+1,_,_,_,_,by omega,by go_num,by simp;omega,Dr.o⟩,by simp[intOf];omega⟩|exact⟨⟨65,_,_,_,_,by omega,by go_num,by simp;omega,Dr.o⟩,by simp[intOf]⟩)
     ·have hA:=aL.o.U.U.hA
      have aH:¬k<3:=fun h=>gB (Or.inl h)
      have QB:¬k=64:=fun h=>gB (Or.inr h)
      have QC:((k:Int)==64)=false:=by simp;omega
      clear gB;go_wp2_with(at_builtin;refine OO rfl _ _ 44 rfl 3 i2 (I 0) 1 8 underlying44 nw vq oa wJ rfl (by decide) _ _ _ rfl (h2 aL.o.list.row _) (aa (wr.heap.size) 0) 1 1 [I (-(ar+1))] rfl rfl (qw _ _ _) (by intro u hu;simp at hu;subst hu;rfl) (by unfold maxLen;omega) (by omega) ?_;intro v1 an hc iI kQ kR)
      have bX:=J (lR.vt aL.o bn.o.1 (Or.inr (Or.inr (Or.inr rfl))) hc iI kQ kR);rw[<-zW.o.1,<-zW.o.2]at bX;exact⟨⟨k+1,_,_,_,eU,by omega,by go_num,Nat.le_succ_of_le HQ.o,bX.o⟩,by simp[intOf];omega⟩
    ·have En:k=65:=by omega
     subst En;have er:=J a1;clear a1;go_wp2_with fail
     go_end0;exact⟨rfl,o',lp,iC,_,eU,D3,er.o⟩
abbrev H6:Type:=List (Value×Nat×Int)
theorem aab {w:World}{e:TypeId}{gt:Nat}{fy:H6}{f:Int->Value}{i:Nat}(aq:i<fy.length)(aA:∀j,j<fy.length*1->w.cell? (aa gt j)=(fy.map fun e=>e.1)[j]?)(Ml:∀x,x∈fy->Row w e 1 x.1 x.2.1 (replicate x.2.1 (f x.2.2))):
  ∃a cap,w.cell? (aa gt i)=some (.slice a (fy[i]).2.1 cap)∧∀k,k<(fy[i]).2.1->∃b,a=some (aa b 0)∧b<w.heap.size∧(fy[i]).2.1<=cap∧w.cell? (aa b k)=some (f (fy[i]).2.2):=by
 have bI:=Ml _ (eT aq);obtain⟨a,cap,aP,-⟩:=Row.shape bI;refine⟨a,cap,by rw[aA i (by omega)];simp[aq,aP],fun k hk=>?_⟩;obtain⟨b,c2,ba,ae,-,hb,j_,-⟩:=Row.pos bI (by omega);rw[aP]at ba;cases ba;exact⟨b,rfl,hb,ae,by rw[j_ k (by omega)];simp[hk]⟩
theorem apf (w:World)(aj:Nat)(aG aK aN ah:Value)(hb:aj<w.heap.size)(c3:eh w aj 3 aG)(c4:eh w aj 4 aK)(c5:eh w aj 5 aN)(iG:eh w aj 6 ah)(fy bk:H6)
  (aD:Row w 41 1 aG fy.length (fy.map fun e=>e.1))(bK:Row w 3 1 aK fy.length (fy.map fun e=>I e.2.2))(fa:Row w 44 1 aN bk.length (bk.map fun e=>e.1))(cx:Row w 3 1 ah bk.length (bk.map fun e=>I e.2.2))
  (Ml:∀e,e∈fy->Row w 9 1 e.1 e.2.1 (replicate e.2.1 (ai (r2 e.2.2))))(WS:∀e,e∈bk->Row w 3 1 e.1 e.2.1 (replicate e.2.1 (I e.2.2)))
  (VJ:∀e,e∈fy->e.2.1<=200000000∧0<=e.2.2∧e.2.2<=4000000000)(cj:∀e,e∈bk->e.2.1<=200000000)(atv:fy.length<=1000000000)(atu:bk.length<=1000000000):
  Calls prog 19 #[.pointer (some (aa aj 0))] w (bx (.bool true) fun w'=>ax w w'):=by
 obtain⟨fF,zy,rfl,-⟩:=aD.shape;obtain⟨amm,mI,rfl,-⟩:=bK.shape;obtain⟨amz,amC,rfl,-⟩:=fa.shape;obtain⟨alF,Si,rfl,-⟩:=cx.shape;have dA:Hid (∀i (aq:i<fy.length),∃gt s9,fF=some (aa gt 0)∧amm=some (aa s9 0)∧gt<w.heap.size∧s9<w.heap.size∧fy.length<=zy∧fy.length<=mI∧w.cell? (aa s9 i)=some (I (fy[i]).2.2)∧∃a cap,w.cell? (aa gt i)=some (.slice a (fy[i]).2.1 cap)∧∀k,k<(fy[i]).2.1->∃b,a=some (aa b 0)∧b<w.heap.size∧(fy[i]).2.1<=cap∧w.cell? (aa b k)=some (ai (r2 (fy[i]).2.2))):=fun i aq=>by
  obtain⟨gt,c2,ba,ae,-,aM,j_,-⟩:=aD.pos (by omega);obtain⟨s9,c3,ey,aH,-,oX,vd,-⟩:=bK.pos (by omega);cases ba;cases ey;exact⟨gt,s9,rfl,rfl,aM,oX,ae,aH,by rw[vd i (by omega)];simp[aq],aab (f:=fun z=>ai (r2 z)) aq j_ Ml⟩
 have cp:Hid (∀i (aq:i<bk.length),∃gt s9,amz=some (aa gt 0)∧alF=some (aa s9 0)∧gt<w.heap.size∧s9<w.heap.size∧bk.length<=amC∧bk.length<=Si∧w.cell? (aa s9 i)=some (I (bk[i]).2.2)∧∃a cap,w.cell? (aa gt i)=some (.slice a (bk[i]).2.1 cap)∧∀k,k<(bk[i]).2.1->∃b,a=some (aa b 0)∧b<w.heap.size∧(bk[i]).2.1<=cap∧w.cell? (aa b k)=some (I (bk[i]).2.2)):=fun i aq=>by
  obtain⟨gt,c2,ba,ae,-,aM,j_,-⟩:=fa.pos (by omega);obtain⟨s9,c3,ey,aH,-,oX,vd,-⟩:=cx.pos (by omega);cases ba;cases ey;exact⟨gt,s9,rfl,rfl,aM,oX,ae,aH,by rw[vd i (by omega)];simp[aq],aab (f:=fun z=>I z) aq j_ WS⟩
 have O5:=J (fun i (aq:i<fy.length)=>VJ _ (eT aq));have O4:=J (fun i (aq:i<bk.length)=>cj _ (eT aq));clear aD bK fa cx Ml WS VJ cj;go_enter func19,ntmps19;go_wp2_with fail
 go_loopw[3] (fun kc wr=>∃i:Nat,i<=fy.length∧kc=I i∧Hid (ax w wr)) (fun kc _=>fy.length-(intOf kc).toNat)
 case atStart=>exact⟨0,ch,rfl,cE⟩
 case round=>
  obtain⟨i,aq,rfl,bO⟩:=hrel;have d3:=bZ bO.o c3;have d4:=bZ bO.o c4;have fb:=bO.o.size;have xK:aj<wr.heap.size:=by omega
  by_cases br:i<fy.length
  ·obtain⟨gt,s9,rfl,rfl,YK,ajz,Eg,vd,Hs,a,cap,OS,gn⟩:=dA.o i br
   obtain⟨bT,c6,e0⟩:=O5.o i br;generalize (fy[i]'br).2.2=mk at*;generalize (fy[i]'br).2.1=pa at*;have Uo:=bZ bO.o Hs;have yl:=bZ bO.o OS;have ajD:gt<wr.heap.size:=by omega
   have ajA:s9<wr.heap.size:=by omega
   have Lg:=J gn;clear gn dA cp O5 O4;go_wp2_with fail
   refine(Uh mk wr c6 e0).mono ?_;rintro e an ⟨rfl,aF⟩;have dF:=cy (bO.o.trans (aF.mono bO.o.size));have ey:=bZ aF d3;have eH:=bZ aF yl;have jX:=aF.size;have asa:aj<an.heap.size:=by omega
   have asB:gt<an.heap.size:=by omega
   have adX:Hid (∀k,k<pa->∃b,a=some (aa b 0)∧b<an.heap.size∧pa<=cap∧an.cell? (aa b k)=some (ai (r2 mk))):=fun k hk=>by
    obtain⟨b,cB,b_,dW,iw⟩:=Lg.o k hk;exact⟨b,cB,by omega,dW,bZ dF.o iw⟩
   clear aF bO d3 d4 Uo yl Hs OS Lg fb jX xK ajD ajA;generalize r2 mk=x at*;go_wp2_with fail
   go_loopw[5] (fun ah E_=>∃k:Nat,k<=pa∧ah=I k∧E_=an) (fun ah _=>pa-(intOf ah).toNat)
   case atStart=>exact⟨0,ch,rfl,rfl⟩
   case round=>
    obtain⟨k,hk,rfl,rfl⟩:=hrel;by_cases dU:k<pa
    ·obtain⟨b,rfl,b_,dW,iw⟩:=adX.o k dU
     go_wp2_with fail
     exact⟨⟨k+1,by omega,by go_num,by first|rfl|trivial⟩,by simp[intOf];omega⟩
    ·have he:k=pa:=by omega
     subst he;go_wp2_with fail
     exact⟨⟨i+1,by omega,by go_num,dF.o⟩,by simp[intOf];omega⟩
  ·have he:i=fy.length:=by omega
   have Cs:¬(i:Int)<(fy.length:Int):=by omega
   clear he aq dA O5;go_wp2_with fail
   clear d3 d4 fb;go_loopw[6] (fun kc E_=>∃j:Nat,j<=bk.length∧kc=I j∧Hid (ax w E_)) (fun kc _=>bk.length-(intOf kc).toNat)
   case atStart=>exact⟨0,ch,rfl,bO.o⟩
   case round=>
    obtain⟨j,af,rfl,HL⟩:=hrel;have d5:=bZ HL.o c5;have d6:=bZ HL.o iG;have fb:=HL.o.size;have ar8:aj<wr.heap.size:=by omega
    by_cases hl:j<bk.length
    ·obtain⟨gt,s9,rfl,rfl,YK,ajz,Eg,vd,Hs,a,cap,OS,gn⟩:=cp.o j hl
     have bT:=O4.o j hl;generalize (bk[j]'hl).2.2=mk at*;generalize (bk[j]'hl).2.1=pa at*;have Lg:=J gn;clear gn cp O4 bO xK;go_wp2_with fail
     go_loopw[7] (fun ah E_=>∃k:Nat,k<=pa∧ah=I k∧Hid (ax w E_)) (fun ah _=>pa-(intOf ah).toNat)
     case atStart=>exact⟨0,ch,rfl,HL.o⟩
     case round=>
      obtain⟨k,hk,rfl,r4⟩:=hrel;have d5:=bZ r4.o c5;have d6:=bZ r4.o iG;have yl:=bZ r4.o OS;have Uo:=bZ r4.o Hs;have as7:=r4.o.size;have ar9:aj<wr.heap.size:=by omega
      have Gs:gt<wr.heap.size:=by omega
      have rI:s9<wr.heap.size:=by omega
      by_cases dU:k<pa
      ·obtain⟨b,rfl,b_,dW,iw⟩:=Lg.o k dU
       have ql:=bZ r4.o iw;have EW:b<wr.heap.size:=by omega
       go_wp2_with fail
       go_quiet(fail);go_wp2_with fail
       exact⟨⟨k+1,by omega,by go_num,(show ax w (wr.drewN nq)from⟨r4.o.os,r4.o.tape,r4.o.output,r4.o.size,r4.o.block⟩)⟩,by simp[intOf];omega⟩
      ·have he:k=pa:=by omega
       subst he;go_wp2_with fail
       exact⟨⟨j+1,by omega,by go_num,r4.o⟩,by simp[intOf];omega⟩
    ·have asl:¬(j:Int)<(bk.length:Int):=by omega
     go_wp2_with fail
     go_ret;exact⟨rfl,HL.o⟩
end Go.Proofs.YtiplgdkpnhamaaaGreatDoor
