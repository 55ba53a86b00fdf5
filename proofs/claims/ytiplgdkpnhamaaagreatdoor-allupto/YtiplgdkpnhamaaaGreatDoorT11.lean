import Derived.Test.YtiplgdkpnhamaaaGreatDoorT10
set_option maxHeartbeats 4000000
set_option maxRecDepth 100000
namespace Go.Proofs.YtiplgdkpnhamaaaGreatDoor
open Go.Proofs.Tryz List
open Go.RowKit
variable {e:TypeId}{t:Tag}{v y:Value}
section
variable {P:Program}(w:World)
theorem afG (t ty e:TypeId)(i:TypeInfo)(z:Value)(size bytes:Nat)(al:P.underlying t=some (.slice e))(aq:P.info? e=some i)(cF:i.zero=some z)
  (Ez:i.size=size)(Ec:i.bytes=bytes)(CI:z.cells.size=size)(fb:0<size)(v:Value)(n:Nat)(xs:List Value)(dd:w.ownsRow 0 e size v n xs)
  (a:Addr)(m c:Nat)(news:List Value)(aC:news.length=m*size)(Cu:∀j u,news[j]?=some u->w.cell? (a.add j)=some u)(h1:∀u∈news,u.oneCell'=true)
  (DZ:n+m<=maxLen)(Ed:(n+m)*bytes<=140737488355328){v':Value}{w':World}(aJ:(Builtin.append_ #[t,t] ty #[v,.slice (some a) m c]).run P w= .ok v' w'):
  (∃g cap,v=bo g n cap∧v'=bo g (n+m) cap)∨w.grownBy w' none:=by
 rcases dd.2 with⟨rfl,rfl⟩|⟨g,cap,cur,rfl,Q1,aM,Gy,vd,te,RW⟩
 ·obtain⟨v2,w2,uu,-,aH,-⟩:=run_append_own_at (P:=P) w 0 t ty e i z size bytes al aq cF Ez Ec CI fb _ _ xs dd a m c news aC Cu h1 DZ Ed ch
  rw[aJ]at uu;cases uu;exact Or.inr aH
 ·subst Ez
  subst Ec;by_cases iR:n+m<=cap
  ·have y0:n*i.size+news.length<=cur.size:=by rw[aC,te,<-w4];exact Hy _ iR
   have h:=run_append_room (P:=P) w t ty e i al aq g n cap cur aM a m c news aC Cu h1 iR y0;rw[aJ]at h;cases h;exact Or.inl ⟨g,cap,rfl,rfl⟩
  ·have h:=run_append_grow (P:=P) w t ty e i z al aq cF (aa g 0) n cap xs dd.1 (dd.cells (g:=g) rfl) a m c news aC Cu (by omega) (by simp only[maxLen]at DZ;omega) (growslice_fits (by omega) Ed)
   rw[aJ]at h;cases h;exact Or.inr ⟨rfl,rfl,rfl,by simp,fun k hk _=>heap_alloc_old w.drew _ hk⟩
end
theorem OO {P:Program}{w:World}{ops:Array Oper}{rest:List Oper}{o:Oper}{a:Act}{Q:Exit->Act->World->Prop}(AH:o.guard=none)(s x:Operand)(t:TypeId)
  (cu:o.op= .call {callee:= .builtin .append,args:= #[s,x],argTypes:= #[t,t]})(e:TypeId)(i:TypeInfo)(z:Value)(size bytes:Nat)(al:P.underlying t=some (.slice e))(aq:P.info? e=some i)(cF:i.zero=some z)
  (Ez:i.size=size)(Ec:i.bytes=bytes)(CI:z.cells.size=size)(fb:0<size)(v:Value)(n:Nat)(xs:List Value)(hs:a.eval s=v)(dd:w.ownsRow 0 e size v n xs)
  (BS:Addr)(m c:Nat)(news:List Value)(au:a.eval x= .slice (some BS) m c)(aC:news.length=m*size)(Cu:∀j u,news[j]?=some u->w.cell? (BS.add j)=some u)(h1:∀u∈news,u.oneCell'=true)
  (DZ:n+m<=maxLen)(Ed:(n+m)*bytes<=140737488355328)
  (h:∀v' w',w'.ownsRow 0 e size v' (n+m) (xs++news)->w.grownBy w' v.ownBlock->(v'.ownBlock=v.ownBlock∨v'.ownBlock=some w.heap.size)->((∃g cap,v=bo g n cap∧v'=bo g (n+m) cap)∨w.grownBy w' none)->wpList P ops Q rest (a.put o.dst v') w'):
  wpList P ops Q (o::rest) a w:=by
 refine wpList_plain AH fun K cx=>?_
 obtain⟨v',w',aJ,ae,aH,-,cS⟩:=run_append_own_at (P:=P) w 0 t o.type e i z size bytes al aq cF Ez Ec CI fb v n xs dd BS m c news aC Cu h1 DZ Ed ch;have ep:=afG w t o.type e i z size bytes al aq cF Ez Ec CI fb v n xs dd BS m c news aC Cu h1 DZ Ed aJ;unfold Oper.wp;simp[execOp,cu,resolve,invoke,builtin,hs,au,aJ,Result.andThen];exact cx _ _ (h v' w' ae aH cS ep)
def Full (w:World)(o:Nat->Tag)(t:Tag)(e:TypeId)(x:Value)(v:Value)(n:Nat):Prop:=b3 w o t e 1 v n (replicate n x)
theorem Full.kept {w an:World}{o:Nat->Tag}{x E7 l v1:Value}{CQ n:Nat}(cx:Full w o t e x E7 CQ)(cT:Full w o t e x l n)(hle:CQ<=n)(dd:an.ownsRow 0 e 1 v1 (n+1) (replicate n x++[x]))(aM:w.grownBy an l.ownBlock)
  (et:(∃g cap,l=bo g n cap∧v1=bo g (n+1) cap)∨w.grownBy an none):Full an (ee o w.heap.size t) t e x E7 CQ:=by
 rcases cx.row.2 with⟨rfl,rfl⟩|⟨g,cap,cur,rfl,-,Gs,aA,hm,hs,al⟩
 ·exact⟨jD _ _ _ _,fun q ad=>by simp[Value.ownBlock]at ad⟩
 ·have br:g<w.heap.size:=(w6.1 Gs).1
  have AS:∀q,(bo g CQ cap).ownBlock=some q->ee o w.heap.size t q=t:=fun q ad=>by
   have iB:q=g:=by simpa[Value.ownBlock]using ad.symm
   rw[sL (by omega)];exact cx.tag q ad
  have same:an.heap[g]?=w.heap[g]?->Full an (ee o w.heap.size t) t e x (bo g CQ cap) CQ:=fun h=>⟨⟨cx.row.1,Or.inr ⟨g,cap,cur,rfl,ch,by rw[h];exact Gs,aA,hm,hs,al⟩⟩,AS⟩
  rcases et with⟨g2,lV,rfl,rfl⟩|hn
  ·by_cases c:g2=g
   ·subst c
    rcases cT.row.2 with⟨aP,-⟩|⟨g3,F1,arB,ey,-,oX,-,-,Zr,-⟩
    ·cases aP
    ·cases ey
     rw[Gs]at oX;cases oX;rcases dd.2 with⟨aP,-⟩|⟨g4,Ix,Qc,hB,-,xO,-,-,as4,sy⟩
     ·cases aP
     ·cases hB
      refine⟨⟨cx.row.1,Or.inr ⟨g2,cap,Qc,rfl,ch,xO,aA,hm,by omega,?_⟩⟩,AS⟩;have:Qc.toList.take (CQ*1)=(Qc.toList.take ((n+1)*1)).take (CQ*1):=by rw[take_take];congr 1;omega
      rw[this,sy,<-Fk,take_replicate];congr 1;omega
   ·exact same (aM.block g br fun e=>c (by simpa[Value.ownBlock]using e.symm))
  ·exact same (hn.block g br (by simp))
theorem Full.move {w w':World}{o o':Nat->Tag}{x:Value}{n:Nat}(h:Full w o t e x v n)(hb:∀q,q<w.heap.size->o q=t->w'.heap[q]?=w.heap[q]?∧o' q=t):Full w' o' t e x v n:=b3.fp h hb
structure kO (cr:World)(ef:Nat->Tag)(A:Tag->Prop)(wr:World)(o:Nat->Tag)(aj:Nat)(aV bL bV bt:Tag)(rs g a8 aG aK aN ah:Value)(ar:Int)(T M:List Value)(l:Value)(n:Nat)(xs:List Value)(x:Value)(eU:List (Value×Nat)):Prop where
 U:cP wr o aV aj [rs,g,a8,aG,aK,aN,ah,I ar] 94
 texts:b3 wr o bL 41 1 aG T.length T
 marks:b3 wr o bV 3 1 aK M.length M
 list:b3 wr o bt 9 1 l n xs
 kept:∀e,e∈eU->Full wr o bt 9 x e.1 e.2∧e.2<=n
 ay:ct A cr ef wr o
section
variable {cr wr an:World}{ef o:Nat->Tag}{A:Tag->Prop}{aj:Nat}{aV bL bV bt:Tag}{rs g a8 aG aK aN ah v1:Value}{ar:Int}{T M:List Value}{n hi cap j:Nat}{l x:Value}{bE:Obj}{xs news:List Value}{eU:List (Value×Nat)}
theorem kO.stored (h:kO cr ef A wr o aj aV bL bV bt rs g a8 aG aK aN ah ar T M (bo hi n cap) n xs x [])(d:aV≠bt∧bL≠bt∧bV≠bt)(aU:A bt)(y:Value):
  kO cr ef A (wr.setCell (aa hi j) y) o aj aV bL bV bt rs g a8 aG aK aN ah ar T M (bo hi n cap) n (xs.set j y) x []:=by
 obtain⟨hb,al,hm,au,-,eP⟩:=h;have e:=au.tag hi rfl;exact⟨hb.other e d.1 y,al.set e d.2.1 y,hm.set e d.2.2 y,⟨(ly au.row j y).1,au.tag⟩,fun e he=>(by cases he),eP.set (by rw[e];exact aU) y⟩
theorem kO.rQ (h:kO cr ef A wr o aj aV bL bV bt rs g a8 aG aK aN ah ar T M l n (replicate n x) x eU)
  (d:aV≠bL∧bV≠bL∧bt≠bL∧bL≠aV∧bV≠aV∧bt≠aV)(aU:A bL∧A aV)
  (dd:an.ownsRow 0 41 1 v1 (T.length+1) (T++[l]))(aM:(wr.alloc bE).grownBy an aG.ownBlock)(et:v1.ownBlock=aG.ownBlock∨v1.ownBlock=some (wr.alloc bE).heap.size):
  kO cr ef A (an.setCell (aa aj 3) v1) (ee o (wr.alloc bE).heap.size bL) aj aV bL bV bt rs g a8 v1 aK aN ah ar (T++[l]) M l n (replicate n x) x (eU++[(l,n)]):=by
 obtain⟨ao,aD,bK,cT,cx,eP⟩:=h;have aF:=(ao.alloc bE).dw aM aD.tag d.1;have h7:=(aD.alloc bE).app dd et;have nW:=(bK.alloc bE).dw aM aD.tag d.2.1;have fJ:=(cT.alloc bE).dw aM aD.tag d.2.2.1;have e:=aF.tag;refine⟨aF.set 3 v1,?_,nW.set e d.2.2.2.2.1 v1,fJ.set e d.2.2.2.2.2 v1,fun y b9=>?_,((eP.alloc bE).dw aM aD.tag aU.1).set (by rw[e];exact aU.2) v1⟩
 ·rw[eN,ys]
  exact h7.set e d.2.2.2.1 v1
 ·rcases hT.1 b9 with b9|b9
  ·obtain⟨h1,ae⟩:=cx y b9
   exact⟨(b3.dw (b3.alloc h1 bE) aM aD.tag d.2.2.1).set e d.2.2.2.2.2 v1,ae⟩
  ·rw[k4.1 b9]
   exact⟨fJ.set e d.2.2.2.2.2 v1,cv⟩
theorem kO.mark (h:kO cr ef A wr o aj aV bL bV bt rs g a8 aG aK aN ah ar T M l n xs x eU)
  (d:aV≠bV∧bL≠bV∧bt≠bV∧bV≠aV∧bL≠aV∧bt≠aV)(aU:A bV∧A aV)
  (dd:an.ownsRow 0 3 1 v1 (M.length+1) (M++[y]))(aM:(wr.alloc bE).grownBy an aK.ownBlock)(et:v1.ownBlock=aK.ownBlock∨v1.ownBlock=some (wr.alloc bE).heap.size):
  kO cr ef A (an.setCell (aa aj 4) v1) (ee o (wr.alloc bE).heap.size bV) aj aV bL bV bt rs g a8 aG v1 aN ah ar T (M++[y]) l n xs x eU:=by
 obtain⟨ao,aD,bK,cT,cx,eP⟩:=h;have aF:=(ao.alloc bE).dw aM bK.tag d.1;have nW:=(bK.alloc bE).app dd et;have h7:=(aD.alloc bE).dw aM bK.tag d.2.1;have fJ:=(cT.alloc bE).dw aM bK.tag d.2.2.1;have e:=aF.tag;refine⟨aF.set 4 v1,h7.set e d.2.2.2.2.1 v1,?_,fJ.set e d.2.2.2.2.2 v1,fun z cF=>?_,((eP.alloc bE).dw aM bK.tag aU.1).set (by rw[e];exact aU.2) v1⟩
 ·rw[eN,ys]
  exact nW.set e d.2.2.2.1 v1
 ·obtain⟨h1,ae⟩:=cx z cF
  exact⟨(b3.dw (b3.alloc h1 bE) aM bK.tag d.2.2.1).set e d.2.2.2.2.2 v1,ae⟩
theorem kO.vt (h:kO cr ef A wr o aj aV bL bV bt rs g a8 aG aK aN ah ar T M l n (replicate n x) x eU)
  (d:aV≠bt∧bL≠bt∧bV≠bt)(aU:A bt)
  (dd:an.ownsRow 0 9 1 v1 (n+1) (replicate n x++[x]))(aM:(wr.alloc bE).grownBy an l.ownBlock)(et:v1.ownBlock=l.ownBlock∨v1.ownBlock=some (wr.alloc bE).heap.size)
  (kR:(∃g cap,l=bo g n cap∧v1=bo g (n+1) cap)∨(wr.alloc bE).grownBy an none):
  kO cr ef A an (ee o (wr.alloc bE).heap.size bt) aj aV bL bV bt rs g a8 aG aK aN ah ar T M v1 (n+1) (replicate (n+1) x) x eU:=by
 obtain⟨ao,aD,bK,cT,cx,eP⟩:=h;refine⟨(ao.alloc bE).dw aM cT.tag d.1,(aD.alloc bE).dw aM cT.tag d.2.1,(bK.alloc bE).dw aM cT.tag d.2.2,?_,fun y b9=>?_,(eP.alloc bE).dw aM cT.tag aU⟩
 ·rw[Fk]
  exact(cT.alloc bE).app dd et
 ·obtain⟨h1,ae⟩:=cx y b9
  exact⟨Full.kept (b3.alloc h1 bE) (b3.alloc cT bE) ae dd aM kR,by omega⟩
theorem kO.cast {p0 mS:List Value}{q:Nat}(h:kO cr ef A wr o aj aV bL bV bt rs g a8 aG aK aN ah ar (p0++[v]) (mS++[y]) l n xs x (eU++[(v,q)]))(h1:T++eU.map Prod.fst=p0)(ae:M++replicate eU.length y=mS):
  kO cr ef A wr o aj aV bL bV bt rs g a8 aG aK aN ah ar (T++(eU++[(v,q)]).map Prod.fst) (M++replicate (eU++[(v,q)]).length y) l n xs x (eU++[(v,q)]):=by
 have aP:T++(eU++[(v,q)]).map Prod.fst=p0++[v]:=by rw[<-h1];simp
 have ba:M++replicate (eU++[(v,q)]).length y=mS++[y]:=by rw[<-ae,eN,ys,Fk,mN]
 rw[aP,ba];exact h
theorem kO.below (h:kO cr ef A wr o aj aV bL bV bt rs g a8 aG aK aN ah ar T M l n xs x eU)(ao:ax wr an):kO cr ef A an o aj aV bL bV bt rs g a8 aG aK aN ah ar T M l n xs x eU:=
 ⟨h.U.below ao,h.texts.below ao,h.marks.below ao,h.list.below ao,fun e he=>⟨b3.below (h.kept e he).1 ao,(h.kept e he).2⟩,h.ay.below ao⟩
end
theorem take_set {xs:List Value}{x:Value}{k n:Nat}(h:xs.take k=replicate k x)(aC:xs.length=n)(hk:k<n):(xs.set k x).take (k+1)=replicate (k+1) x:=by
 rw[Fk,<-h];apply ext_getElem?;intro j;rw[getElem?_take,getElem?_append,Bm];by_cases c:j<k
 ·rw[if_pos (by omega),if_neg (by omega),if_pos (by simp;omega),getElem?_take,if_pos c]
 ·by_cases c2:j=k
  ·subst c2
   simp[show j<xs.length by omega,show min j xs.length=j by omega]
  ·rw[if_neg (by omega),if_neg (by simp;omega)]
   simp[show min k xs.length=k by omega,show ¬j-k=0 by omega]
theorem acS (w:World)(o:Nat->Tag)(aj:Nat)(aV bL bV bt:Tag)(rs g a8 aG aK aN ah:Value)(ar:Int)(T M:List Value)(l:Value)(n:Nat)(Fc:List Value)
  (d:aV≠bL∧aV≠bV∧aV≠bt∧bL≠bV∧bL≠bt∧bV≠bt)(si:0<=ar∧ar<=3000000000)(so:T.length<=1000000000)(xU:M.length<=1000000000)(hn:n<=1000000000)
  (a1:kO w o (fun t=>t=aV∨t=bL∨t=bV∨t=bt) w o aj aV bL bV bt rs g a8 aG aK aN ah ar T M l n Fc (ai (r2 (ar+1))) []):
  Calls prog 90 #[.pointer (some (aa aj 0)),l] w (bx (.tuple #[]) fun w'=>∃o' lx lo ca eU,eU.length<=65∧kO w o (fun t=>t=aV∨t=bL∨t=bV∨t=bt) w' o' aj aV bL bV bt rs g a8 lx lo aN ah (ar+1) (T++eU.map Prod.fst) (M++replicate eU.length (I (ar+1))) ca (n+65) (replicate (n+65) (ai (r2 (ar+1)))) (ai (r2 (ar+1))) eU):=by
 obtain⟨d1,d2,d3,d4,d5,d6⟩:=d;obtain⟨i0,aq,dC,dM,dK⟩:=iV Tryz.CL;obtain⟨i1,mZ,xY,qY,tt⟩:=iV Tryz.ZY;obtain⟨i2,nw,vq,oa,wJ⟩:=iV Tryz.GL;have bn:Hid ((aV≠bt∧bL≠bt∧bV≠bt)∧(aV≠bL∧bV≠bL∧bt≠bL∧bL≠aV∧bV≠aV∧bt≠aV)∧(aV≠bV∧bL≠bV∧bt≠bV∧bV≠aV∧bL≠aV∧bt≠aV)):=
  ⟨⟨d3,d5,d6⟩,⟨d1,d4.symm,d5.symm,d1.symm,d2.symm,d3.symm⟩,⟨d2,d4,d6.symm,d2.symm,d1.symm,d3.symm⟩⟩
 clear d1 d2 d3 d4 d5 d6;have hA:=a1.U.U.hA;have f7:=a1.U.U.frozen 7;have ir:=a1.U.U.lt;have sT:Hid (kO w o (fun t=>t=aV∨t=bL∨t=bV∨t=bt) (w.setCell (aa aj 7) (I (ar+1))) o aj aV bL bV bt rs g a8 aG aK aN ah (ar+1) T M l n Fc (ai (r2 (ar+1))) []):=by
  obtain⟨hb,al,qa,au,-,eP⟩:=a1;have e:=hb.tag;exact⟨hb.set 7 _,al.set e bn.o.2.1.2.2.2.1 _,qa.set e bn.o.2.1.2.2.2.2.1 _,au.set e bn.o.2.1.2.2.2.2.2 _,fun e he=>(by cases he),eP.set (Or.inl hb.tag) _⟩
 obtain⟨e_,iD,rfl,-,-,-⟩:=a1.list.row.shape;clear a1;go_enter func90,ntmps90;go_wp2_with fail
 refine(Uh (ar+1) _ (by omega) (by omega)).mono ?_;rintro e an ⟨rfl,aF⟩;have jh:=J (sT.o.below aF);clear sT aF hA f7;generalize ZM:r2 (ar+1)=x at*;have aeV:=J ZM;clear ZM;go_wp2_with fail
 go_loopw[5] (fun i wr=>∃(k:Nat) (xs:List Value),k<=n∧i=I k∧Hid (xs.take k=replicate k (ai x))∧kO w o (fun t=>t=aV∨t=bL∨t=bV∨t=bt) wr o aj aV bL bV bt rs g a8 aG aK aN ah (ar+1) T M (.slice e_ n iD) n xs (ai x) []) (fun i _=>n-(intOf i).toNat)
 case atStart=>exact⟨0,Fc,ch,rfl,rfl,jh.o⟩
 case round=>
  obtain⟨k,xs,hk,rfl,zX,a1⟩:=hrel;by_cases cW:k<n
  ·have gd:=a1.list
   have ED:xs.length=n:=by have:=gd.row.1;omega
   have Pz:=J (take_set zX.o ED cW);clear ED zX;obtain⟨hi,cap,e,-,-,fW,aA,bm⟩:=gd.row.pos (by omega);obtain⟨dI,-,An⟩:=sN e;subst dI An;clear e;have oT:∃y,wr.cell? (aa hi k)=some y:=by
    have oa:=gd.row.1;exact⟨xs[k]'(by omega),by rw[aA k (by omega)];simp[show k<xs.length by omega]⟩
   obtain⟨y,oT⟩:=oT;have vg:=bm k;have er:=J (a1.stored (j:=k) bn.o.1 (Or.inr (Or.inr (Or.inr rfl))) (ai x));clear aA bm gd a1;go_wp2_with fail
   exact⟨⟨k+1,_,by omega,by go_num,Pz,er.o⟩,by simp[intOf];omega⟩
  ·have R7:xs=replicate n (ai x):=by
    have ED:xs.length=n:=by have:=a1.list.row.1;omega
    have h:=zX.o;rw[show k=n by omega,lQ (by omega)]at h;exact h
   subst R7;have er:=J a1;clear a1 zX;go_wp2_with fail
   go_loopw[1,6] (fun l i wr=>∃(k:Nat) (o':Nat->Tag) (lx lo:Value) (eU:List (Value×Nat)),k<=65∧i=I k∧eU.length<=k∧kO w o (fun t=>t=aV∨t=bL∨t=bV∨t=bt) wr o' aj aV bL bV bt rs g a8 lx lo aN ah (ar+1) (T++eU.map Prod.fst) (M++replicate eU.length (I (ar+1))) l (n+k) (replicate (n+k) (ai x)) (ai x) eU) (fun _ i _=>65-(intOf i).toNat)
   case atStart=>exact⟨0,o,aG,aK,[],by omega,rfl,by simp,by simpa using er.o⟩
   case round=>
    obtain⟨k,o',lx,lo,eU,hk,rfl,D3,a1⟩:=hrel;by_cases cW:k<65
    ·have aiU:(T++eU.map Prod.fst).length<=1000000065:=by simp;omega
     have aiO:(M++replicate eU.length (I (ar+1))).length<=1000000065:=by simp;omega
     have HQ:=J D3;clear D3;generalize yX:T++eU.map Prod.fst=p0 at*;generalize I9:M++replicate eU.length (I (ar+1))=mS at*;have zW:=J (⟨yX,I9⟩:_∧_);clear yX I9;obtain⟨TZ,Hh,rfl,-,-,-⟩:=a1.texts.row.shape;obtain⟨EL,EK,rfl,-,-,-⟩:=a1.list.row.shape;have c3:=a1.U.U.c3;have kX:=a1.U.U.lt;have aL:=J a1;clear a1;by_cases gB:k<3∨k=64
     ·rcases gB with aH|rfl
      all_goals go_wp2_with(at_builtin;refine tK _ rfl _ _ 91 rfl 0 41 i1 (.slice none 0 0) 1 24 underlying91 mZ xY qY tt rfl (by decide) _ _ _ rfl (h2 aL.o.texts.row _) (aa (wr.heap.size) 0) 1 1 [.slice EL _ EK] rfl rfl (qw _ _ _) (by intro u hu;simp at hu;subst hu;rfl) (by unfold maxLen;omega) (by omega) ch ?_;intro v1 an hc iI qT kQ;obtain⟨g1,vX,rfl,-,-,-,-,-⟩:=Row.pos hc (by omega);have aF:=(aL.o.U.alloc _).dw iI aL.o.texts.tag bn.o.2.1.1;have fE:=aF.U.cell 3;have eL:=aF.U.frozen 3;have gJ:=aF.U.lt;clear aF)
      all_goals(have cD:=J (kO.rQ aL.o bn.o.2.1 ⟨Or.inr (Or.inl rfl),Or.inl rfl⟩ hc iI kQ);clear hc iI kQ qT fE eL gJ c3 kX aL;generalize World.setCell _ _ _=W2 at*;generalize ee o' _ bL=dx at*;obtain⟨gy,pb,rfl,-,-,-⟩:=cD.o.marks.row.shape;have c4:W2.cell? (aa aj 4)=some (.slice gy mS.length pb):=cD.o.U.U.cell 4;have hA:W2.cell? (aa aj 7)=some (I (ar+1)):=cD.o.U.U.cell 7;have f4:W2.frozen? (aa aj 4)=false:=cD.o.U.U.frozen 4;have gV:=cD.o.U.U.lt;go_region_law(refine q6 rfl _ _ 44 rfl 3 i2 (I 0) 1 8 underlying44 nw vq oa wJ rfl (by decide) (.slice gy mS.length pb) mS.length mS (by simp[Act.eval]) (by exact h2 cD.o.marks.row _) (aa (W2.heap.size) 0) 1 1 [I (ar+1)] (by simp[Act.eval]) rfl (by exact CP _ _ _) (by intro u hu;simp at hu;subst hu;rfl) (by unfold maxLen;omega) (by omega) ?_;intro v2 w2 fm gh kR;obtain⟨g2,lV,rfl,-,-,-,-,-⟩:=Row.pos fm (by omega);have fi:(W2.alloc (.cells #[I (ar+1)] 3)).grownBy w2 (Value.slice gy mS.length pb).ownBlock:=⟨gh.os,gh.tape,gh.output,gh.size,gh.block⟩;have aF:=(cD.o.U.alloc _).dw fi cD.o.marks.tag bn.o.2.2.1;have hf:=aF.U.cell 4;have fO:=aF.U.frozen 4;have gJ:=aF.U.lt;clear aF gh))
      all_goals(have cp:=J (kO.mark cD.o bn.o.2.2 ⟨Or.inr (Or.inr (Or.inl rfl)),Or.inl rfl⟩ fm fi kR);clear fm fi kR hf fO gJ c4 hA f4 gV cD;generalize World.setCell _ _ _=dH at*;generalize ee dx _ bV=iv at*;go_wp2_with(at_builtin;refine OO rfl _ _ 41 rfl 9 i0 (ai ⟨#[]⟩) 1 16 underlying41 aq dC dM dK rfl (by decide) _ _ _ rfl (h2 cp.o.list.row _) (aa (dH.heap.size) 0) 1 1 [ai x] rfl rfl (qw _ _ _) (by intro u hu;simp at hu;subst hu;rfl) (by unfold maxLen;omega) (by omega) ?_;intro v3 bN sr AJ AB QY))
      all_goals(have bX:=J (kO.vt cp.o bn.o.1 (Or.inr (Or.inr (Or.inr rfl))) sr AJ AB QY);have Dr:=J (kO.cast bX.o zW.o.1 zW.o.2);have zQ:=HQ.o;first|exact⟨⟨k+1,_,_,_,_,by omega,by go_num,by simp;omega,Dr.o⟩,by simp[intOf];omega⟩|exact⟨⟨65,_,_,_,_,by omega,by go_num,by simp;omega,Dr.o⟩,by simp[intOf]⟩)
     ·have aH:¬k<3:=fun h=>gB (Or.inl h)
      have QB:¬k=64:=fun h=>gB (Or.inr h)
      have QC:((k:Int)==64)=false:=by simp;omega
      clear gB;go_wp2_with(at_builtin;refine OO rfl _ _ 41 rfl 9 i0 (ai ⟨#[]⟩) 1 16 underlying41 aq dC dM dK rfl (by decide) _ _ _ rfl (h2 aL.o.list.row _) (aa (wr.heap.size) 0) 1 1 [ai x] rfl rfl (qw _ _ _) (by intro u hu;simp at hu;subst hu;rfl) (by unfold maxLen;omega) (by omega) ?_;intro v1 an hc iI kQ kR)
      have bX:=J (kO.vt aL.o bn.o.1 (Or.inr (Or.inr (Or.inr rfl))) hc iI kQ kR);rw[<-zW.o.1,<-zW.o.2]at bX;exact⟨⟨k+1,_,_,_,eU,by omega,by go_num,Nat.le_succ_of_le HQ.o,bX.o⟩,by simp[intOf];omega⟩
    ·have En:k=65:=by omega
     subst En;have er:=J a1;clear a1;go_wp2_with fail
     go_end0;exact⟨rfl,o',lx,lo,_,eU,D3,by rw[aeV.o];exact er.o⟩
end Go.Proofs.YtiplgdkpnhamaaaGreatDoor
