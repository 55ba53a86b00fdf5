import Derived.Test.YtiplgdkpnhamaaaGreatDoorT05
import Derived.StillTailTactics
import Derived.Deep.RegionHeld3
import Derived.Laws.StructEq
set_option maxHeartbeats 4000000
set_option maxRecDepth 100000
namespace Go.Proofs.YtiplgdkpnhamaaaGreatDoor
open Go.Proofs.Tryz List
open Go.RowKit
variable {W w:World}{bM b6 g id n aE cg:Nat}{o:Nat->Own}{bU:Value}{st:b5}
section
variable {P:Program}{ops:Array Oper}{md:Region.Mode}{C:World->Prop}
def K2 (P:Program)(md:Region.Mode)(ops:Array Oper)(C:World->Prop)(n:Nat)(L:Array Bool->Act->Prop):Nat->Array Bool->Act->Prop
 |0,listed,a=>L listed a
 |f+1,listed,a=>Region.ready md ops listed≠[]∧∀i∈Region.ready md ops listed,i<n∧qOp P ops C i (K2 P md ops C n L f (listed.setIfInBounds i true)) a
theorem adz {L:Array Bool->Act->Prop}{Q':Exit->Act->World->Prop}(cT:∀listed a w,C w->L listed a->wpAny P md ops Q' g listed a w):
  ∀(f:Nat) (listed:Array Bool) (a:Act) (w:World),C w->K2 P md ops C n L f listed a->wpAny P md ops Q' (f+g) listed a w
 |0,listed,a,w,hw,h=>by rw[vF];exact cT _ _ _ hw h
 |f+1,listed,a,w,hw,h=>by
  rw[show f+1+g=(f+g)+1 by omega];exact⟨fun aS=>absurd aS h.1,fun i aq=>wpOp_of_qOp hw (fun cf w' ds e5=>adz cT f _ cf w' ds e5) (h.2 i aq).2⟩
theorem aqr {i:Nat}{GZ:Oper}{v:Value}{L:Array Bool->Act->Prop}(aq:ops[i]?=some GZ)(Ex:∀(j:Nat) (o:Oper) cs b,ops[j]?=some o->o.op≠.select cs b)
  (hs:Region.sinkB md ops n=true)(aA:Region.chainB md ops n=true)(hn:n<ops.size)(hj:i<n)
  (Q6:∀listed a,L listed a->∀j∈Region.ready md ops listed,n<=j):
  ∀(f:Nat) (listed:Array Bool) (a:Act),HeadInv md ops n listed->
   (∀j CS,ops[j]?=some CS->j≠i->listed.getD j true=false->(∀e∈CS.after,Region.binds md e=true->e.on≠i)->GZ.apart ops CS=true)->
   i∈Region.ready md ops listed->YieldsIn P ops C GZ v a->
   K2 P md ops C n L f (listed.setIfInBounds i true) (a.put GZ.dst v)->K2 P md ops C n L (f+1) listed a:=by
 intro f;induction f with
 |zero=>
  intro listed a inv _ aJ b9 H;have EB:=(mem_ready.1 aJ).1;refine⟨fun h=>(by rw[h]at aJ;cases aJ),fun j af=>?_⟩;have ti:j<n:=by
   rcases vE j n with h|h
   ·exact h
   ·exact absurd af (tail_waits hs aA hn inv _ i rfl hj EB j h)
  refine⟨ti,?_⟩;by_cases AK:j=i
  ·subst AK;exact b9.qOp aq H
  ·have:=Q6 _ _ H j (ready_mono af AK)
   omega
 |succ f ih=>
  intro listed a inv rG aJ b9 H;have EB:=(mem_ready.1 aJ).1;refine⟨fun h=>(by rw[h]at aJ;cases aJ),fun j af=>?_⟩;have ti:j<n:=by
   rcases vE j n with h|h
   ·exact h
   ·exact absurd af (tail_waits hs aA hn inv _ i rfl hj EB j h)
  refine⟨ti,?_⟩;by_cases AK:j=i
  ·subst AK;exact b9.qOp aq H
  ·have h1:=(H.2 j (ready_mono af AK)).2
   obtain⟨YS,CS,Rz,gn⟩:=mem_ready.1 af;have aka:∀e∈CS.after,Region.binds md e=true->e.on≠i:=fun e he hb heq=>by
    have h1:=gn e he hb;rw[heq,getD_both EB]at h1;cases h1
   have ae:=qOp_put Rz (rG j CS Rz AK YS aka) (fun cs b=>Ex i GZ cs b aq) (fun cs b=>Ex j CS cs b Rz) b9 h1;have ajq:∀k ok,ops[k]?=some ok->k≠i->(listed.setIfInBounds j true).getD k true=false->
     (∀e∈ok.after,Region.binds md e=true->e.on≠i)->GZ.apart ops ok=true:=fun k ok hk tk EB eV=>by
    refine rG k ok hk tk ?_ eV;by_cases sk:j=k
    ·subst sk;exact YS
    ·rw[getD_set_ne true sk]at EB;exact EB
   refine qOp_mono (fun cf aH=>ih (listed.setIfInBounds j true) cf (inv.set af ti) ajq (ready_mono aJ (Ne.symm AK)) aH.1 ?_) ae;rw[Array.setIfInBounds_comm _ _ AK];exact aH.2
theorem ady {PG:Act->Prop}(Ex:Region.noSelect ops=true)(hs:Region.sinkB md ops n=true)(aA:Region.chainB md ops n=true)(hn:n<ops.size):
  ∀(l:List Oper) (k:Nat) (listed:Array Bool) (a:Act),(∀j,j<l.length->l[j]?=ops[k+j]?)->k+l.length=n->HeadInv md ops n listed->
  Region.lexHead md ops g l.length k listed=true->wpQuiet P ops C PG l a->
  K2 P md ops C n (fun aau cf=>Region.seqB md ops g n aau=true∧PG cf) l.length listed a
 |[],k,listed,a,_,hk,_,ao,h=>by
  have:k=n:=by simpa using hk
  subst this;exact⟨by simpa[Region.lexHead]using ao,h⟩
 |o::l,k,listed,a,aC,hk,inv,ao,h=>by
  have aS:ops[k]?=some o:=by simpa using(aC 0 (by simp)).symm
  simp only[lP,Region.lexHead,qv]at ao;obtain⟨⟨aJ,bm⟩,ig⟩:=ao;have iA:k<n:=by simp only[lP]at hk;omega
  have M9:k∈Region.ready md ops listed:=by simpa using aJ
  have a1:qOp P ops C k (wpQuiet P ops C PG l) a:=by unfold qOp;simp only[aS];exact h
  obtain⟨v,b9,cx⟩:=yieldsIn_of_qOp aS a1;exact aqr aS (Region.noSelect_spec Ex) hs aA hn iA (fun aau cf cT=>seqB_ready cT.1) l.length listed a inv (Region.free_spec aS bm) M9 b9
   (ady Ex hs aA hn l (k+1) _ _ (fun j af=>by have:=aC (j+1) (by simp;omega);simpa[Fl,Nat.add_comm 1 j]using this) (by simp only[lP]at hk;omega) (inv.set M9 iA) ig cx)
theorem aqs {Q:Exit->Act->World->Prop}{a:Act}{l:List Oper}(n:Nat)(hm:P.follows .mixedOrders=true)(ao:Region.lexTailB .any l.toArray n=true)(u6:C w.drew)
  (h:wpQuiet P l.toArray C (fun cf=>∀w',C w'->wpList P l.toArray Q (l.drop n) cf w') (l.take n) a):(Code.region id l.toArray true).wp P Q a w:=by
 simp only[Region.lexTailB,qv,mo]at ao;obtain⟨⟨⟨⟨Ex,hn⟩,hs⟩,aA⟩,ajS⟩:=ao;have sq:n<l.length:=by simpa using hn
 have sz:(l.take n).length=n:=by simp;omega
 have wm:(l.drop n).length=l.toArray.size-n:=by simp
 have alz:HeadInv .any l.toArray n (Array.replicate l.toArray.size false):=
  ⟨by simp,fun j CS _ aC=>(by rw[getD_replicate_false]at aC;cases aC),fun t _ al=>getD_in (by simpa using al) (getD_replicate_false _ _)⟩
 have H:=ady (md:= .any) (g:=l.toArray.size-n) Ex hs aA hn (l.take n) 0 _ a (fun j af=>by
  have mF:j<n:=by rw[sz]at af;exact af
  simp[mF]) (by simpa using sz) alz (by rw[sz];exact ajS) h
 refine wp_region_any hm ?_;have:=adz (Q':=Q) (g:=l.toArray.size-n) (fun listed cf w' ds cT=>by
  have:=wpAny_of_seq (md:= .any) (Q':=Q) (l.drop n) n listed cf w' (fun j=>by simp[getElem?_drop]) (by rw[wm];exact cT.1) (cT.2 w' ds);rwa [wm]at this) _ _ _ _ u6 H
 rw[sz,show n+(l.toArray.size-n)=l.toArray.size by omega]at this;exact this
end
theorem kd {P:Program}(mQ:World->Prop)(n:Nat){Q:Exit->Act->World->Prop}{a:Act}{l:List Oper}(hm:P.follows .mixedOrders=true)(ao:Region.lexTailB .any l.toArray n=true)(u6:mQ w.drew)
  (h:wpQuiet P l.toArray (fun W=>∃f:dO mQ,W=f.w) (fun cf=>∀W,(∃f:dO mQ,W=f.w)->wpList P l.toArray Q (l.drop n) cf W) (l.take n) a):(Code.region id l.toArray true).wp P Q a w:=
 aqs (C:=fun W=>∃f:dO mQ,W=f.w) n hm ao ⟨⟨w.drew,u6⟩,rfl⟩ h
theorem Tryz.ZV:(prog.info? 62).map (fun i=>(i.zero,i.size,i.bytes))=some (some (.agg #[I 0,I 0]),2,16):=by kernel_rfl
theorem aq0 (w:World):(zeroValue 241).run prog w= .ok km w:=by kernel_rfl
theorem agj {b4:Place->Option Value}{p:Place}(bK:cV w 129 bM n Place.val AT b4)(aw:p.Ok)(hn:n<maxLen)(bY:W.heap[bM]?=w.heap[bM]?):
  ∃(an:World) (st:Nat),(Instr.mapEntry 179 (.map (some bM)) (.agg #[ai p.key,ai p.el])).run prog W= .ok (.tuple #[rB b4 p,I st]) an∧W.grownBy an (some bM)∧
   ∀(dP:World),dP.heap[bM]?=an.heap[bM]?->∀x:Value,∃W2,(Instr.entryStore 179 (.map (some bM)) (I st) x).run prog dP= .ok () W2∧cV W2 129 bM (n+1) Place.val AT (fun q=>if q=p then some x else b4 q)∧dP.grownBy W2 (some bM):=by
 obtain⟨cQ,hk⟩:=aw.lit;obtain⟨an,s,a,b,c⟩:=(bK.move bY).entry (t:=179) rV underlying179 zn (aq0 W) hn hk;have e:(b4 p).elim km AT=rB b4 p:=by unfold rB;cases b4 p<;>rfl
 rw[e]at a;exact⟨an,s,a,b,fun dP vb x=>c dP vb x⟩
theorem anJ {b4:Place->Option Value}{bB:ByteArray->Option Nat}{ah:Nat->Value}(h:fz w o aE cg bM b6 bU b4 bB ah n st)(x:cn)(au:x.Ok)(v:gQ)(aC:(st.came x.at_).length<=1000000000)(hn:n<1000000000000):
  Calls prog 150 #[bl aE,x.val,v.val] w (bx (.tuple #[]) fun w'=>∃o' uX,fz w' o' aE cg bM b6 bU uX bB ah (n+1) (vv st x v)∧bA dN w o w' o'):=by
 obtain⟨i0,aq,dC,dM,dK⟩:=iV Tryz.ZV;have AN:n<maxLen:=by unfold maxLen;omega
 obtain⟨cQ,hk⟩:=au.lit;have J4:=au.at_;obtain⟨⟨a_,bq⟩,⟨b1,dX⟩⟩:=x;obtain⟨⟨wr,Bd⟩,kq,bD⟩:=v;simp only[cn.val]at*;generalize bj:(w.alloc (.cells #[ai a_,ai bq,I b1,I dX] 233)).alloc (.cells #[I wr,I Bd,I kq,ai bD] 239)=W0;have bp:ax w W0:=by rw[<-bj];exact((cj _ _)).alloc (by simp) _
 have ZP:W0.heap.size=w.heap.size+2:=by rw[<-bj];simp
 have gT:aQ W0 w.heap.size [ai a_,ai bq,I b1,I dX] 233:=by
  rw[<-bj];exact(aQ.alloc (cC w _) _)
 have p9:aQ W0 (w.heap.size+1) [I wr,I Bd,I kq,ai bD] 239:=by
  rw[<-bj];exact aQ.second w _ _ _
 have aS:fz W0 o aE cg bM b6 bU b4 bB ah n st:=h.below bp;have sG:=aR.cell (show W0.cell? (aa aE 5)=some (.map (some cg))from aS.U.U.cell 5);have c8:=aR.cell (show W0.cell? (aa (w.heap.size) 0)=some (ai a_)from gT.cell 0);have dr:=aR.cell (show W0.cell? (aa (w.heap.size) 1)=some (ai bq)from gT.cell 1);have en:=aR.cell (show W0.cell? (aa (w.heap.size) 2)=some (I b1)from gT.cell 2);have d_:=aR.cell (show W0.cell? (aa (w.heap.size) 3)=some (I dX)from gT.cell 3);have v0:=aR.cell (show W0.cell? (aa (w.heap.size+1) 0)=some (I wr)from p9.cell 0);have v1:=aR.cell (show W0.cell? (aa (w.heap.size+1) 1)=some (I Bd)from p9.cell 1);have v2:=aR.cell (show W0.cell? (aa (w.heap.size+1) 2)=some (I kq)from p9.cell 2);have v3:=aR.cell (show W0.cell? (aa (w.heap.size+1) 3)=some (ai bD)from p9.cell 3);have aO:=J (⟨h,aS,gT,bp,ZP⟩:_∧_∧_∧_∧_);have di:=J bj;have cw:=J (⟨aq,dC,dM,dK⟩:_∧_∧_∧_);have cm:=J (⟨hk,J4,aC,au⟩:_∧_∧_∧_);clear h aS gT p9 bp ZP aq dC dM dK hk J4 aC bj au;go_enter func150,ntmps150;go_wp2_with fail
 rw[di.o];refine kd (aR W0) 6 (by kernel_rfl) (by kernel_rfl) (cE).drew ?_;simp only[jC,ju,j4,jR];repeat(go_big_quiet_step (fail))
 refine gG ?_;intro _ ds;obtain⟨fq,rfl⟩:=ds;obtain⟨w2,GB,rC,fi⟩:=(aO.o.2.1.bh.move (w':=fq.w) (fq.ok.block _ aO.o.2.1.bh.lt)).store (t:=178) NH underlying178 SN AN (a:=⟨⟨a_,bq⟩,⟨b1,dX⟩⟩) cm.o.1 ⟨⟨wr,Bd⟩,kq,bD⟩;have jW:bA (·= .aK) fq.w o w2 o:=bA.oi fi aO.o.2.1.nM;have ae:fz w2 o aE cg bM b6 bU b4 bB ah (n+1) {st with bh:=lv st.bh ⟨⟨a_,bq⟩,⟨b1,dX⟩⟩ (some ⟨⟨wr,Bd⟩,kq,bD⟩)}:=((aO.o.2.1.below fq.ok).mono (pU n)).TK jW rC;have jY:=aO.o.1.bh.lt;have wh:aQ w2 w.heap.size [ai a_,ai bq,I b1,I dX] 233:=(aO.o.2.2.1.below fq.ok).move (fi.block _ (aO.o.2.2.1.below fq.ok).lt (fun e=>by injection e with e;omega));have uz:=ae.U.U.iG;have dm:=wh.c0;have dz:=wh.c1;have ei:=wh.c2;have fG:=wh.c3;have o3:=ae.U.U.lt;have ft:=wh.lt;have ash:=aO.o.1.came.lt;have Ct:¬w.heap.size=aE:=by have:=aO.o.1.U.U.lt;omega
 -- E2 entry is arG
 generalize xI:(w2.alloc (.cells #[I b1,I dX] 62)).drew=k9;have jb:ax w2 k9:=by rw[<-xI];exact((cj _ _)).drew
 have R9:k9.heap.size=w2.heap.size+1:=by rw[<-xI];simp
 have Q5:aQ k9 w2.heap.size [I b1,I dX] 62:=by rw[<-xI];exact cC w2 _
 have lI:=ae.below jb;obtain⟨bN,atW,RO,oX,Yw⟩:=agj aO.o.2.1.came cm.o.2.1 AN (W:=k9) ((jb.block _ ae.came.lt).trans ((fi.block bM (aO.o.2.1.below fq.ok).came.lt (fun e=>by injection e with e;exact ae.amF e.symm)).trans (fq.ok.block _ aO.o.2.1.came.lt)));have fh:=ae.came.lt;have wB:bA (fun t=>t= .mI∨t= .row ⟨a_,bq⟩) k9 o bN o:=(bA.oi oX (A:=fun t=>t=Own.mI∨t= .row ⟨a_,bq⟩) (Or.inl ae.lF));have Ye:aQ bN w2.heap.size [I b1,I dX] 62:=Q5.move (oX.block _ Q5.lt (fun e=>by injection e with e;omega));have Cz:gZ bN o (.row ⟨a_,bq⟩) 62 2 (rB b4 ⟨a_,bq⟩) (st.came ⟨a_,bq⟩).length ((st.came ⟨a_,bq⟩).flatMap bF.cells):=(lI.rowAt ⟨a_,bq⟩).ay (bA.oi (A:=(·=Own.mI)) oX ae.lF) (by simp);have mh:∀q,q<k9.heap.size->q≠bM->bN.heap[q]?=k9.heap[q]?:=fun q ad bS=>oX.block q ad (fun e=>bS (by injection e))
 have aoG:bN.cell? (aa aE 6)=some (.map (some bM)):=(xc (w:=k9) (mh aE (by omega) (fun e=>ae.aaV e.symm))).trans (lI.U.U.cell 6);have Jk:=wh.below jb;have z0:bN.cell? (aa (w.heap.size) 0)=some (ai a_):=(xc (w:=k9) (mh w.heap.size (by omega) (by omega))).trans (Jk.cell 0);have h0:bN.cell? (aa (w.heap.size) 1)=some (ai bq):=(xc (w:=k9) (mh w.heap.size (by omega) (by omega))).trans (Jk.cell 1);have z2:bN.cell? (aa (w.heap.size) 2)=some (I b1):=(xc (w:=k9) (mh w.heap.size (by omega) (by omega))).trans (Jk.cell 2);have z3:bN.cell? (aa (w.heap.size) 3)=some (I dX):=(xc (w:=k9) (mh w.heap.size (by omega) (by omega))).trans (Jk.cell 3);simp only[cn.val,gQ.val]at GB;have zT:=J Cz;have Dt:=J (A0 Ye);obtain⟨jA,RP⟩:∃jA,rB b4 ⟨a_,bq⟩=jA:=⟨_,rfl⟩;unfold Hid at zT;rw[RP]at zT RO;have aeE:=J RP;have Lz:=J zT;have wV:o aE= .hR:=ae.U.tag;have zz:o bM= .mI:=ae.lF;have X5:k9.heap.size<=bN.heap.size:=oX.size;have aeh:Hid (∀w5,bN.grownBy w5 jA.ownBlock->w5.cell? (aa aE 6)=some (.map (some bM))∧w5.cell? (aa (w.heap.size) 0)=some (ai a_)∧w5.cell? (aa (w.heap.size) 1)=some (ai bq)∧w5.cell? (aa (w.heap.size) 2)=some (I b1)∧w5.cell? (aa (w.heap.size) 3)=some (I dX)∧w5.heap[bM]?=bN.heap[bM]?∧w5.heap[aE]?=bN.heap[aE]?∧w5.heap[w.heap.size]?=bN.heap[w.heap.size]?):=fun w5 g=>by
  have Zp:∀q,jA.ownBlock=some q->o q= .row ⟨a_,bq⟩:=Lz.o.tag;have cO:w5.heap[aE]?=bN.heap[aE]?:=g.block aE (by omega) (fun e=>by have:=Zp aE e.symm;rw[wV]at this;cases this);have a2:w5.heap[bM]?=bN.heap[bM]?:=g.block bM (by omega) (fun e=>by have:=Zp bM e.symm;rw[zz]at this;cases this);have a3:w5.heap[w.heap.size]?=bN.heap[w.heap.size]?:=g.block w.heap.size (by omega) (fun e=>by
   have ad:=(aO.o.1.rowAt ⟨a_,bq⟩).lt (q:=w.heap.size) (by rw[aeE.o];exact e.symm);omega)
  exact⟨ua cO aoG,ua a3 z0,ua a3 h0,ua a3 z2,ua a3 z3,a2,cO,a3⟩
 have aei:Hid (∀w5 eS:World,w5.grownBy eS (some bM)->aE<w5.heap.size->w.heap.size<w5.heap.size->eS.heap[aE]?=w5.heap[aE]?∧eS.heap[w.heap.size]?=w5.heap[w.heap.size]?):=fun w5 eS g h1 Gb=>⟨g.block aE h1 (fun e=>by injection e with e;exact ae.aaV e.symm),g.block _ Gb (fun e=>by injection e with e;omega)⟩
 have NI:=World.new_ne w2 _ uz;have NJ:=World.new_ne w2 _ dm;have tc:w2.heap.size<bN.heap.size:=by omega
 rw[<-xI]at RO;dsimp only at RO
 have aea:=J Yw;have bu:=J (⟨ae,lI,wB,jW,oX⟩:_∧_∧_∧_∧_);have Dm:=J (⟨jb,R9,X5⟩:_∧_∧_);clear Yw ae lI wB jW oX jb R9 X5 RP zT Cz Ye Q5 mh Jk wh wV zz rC fi xI;go_wp2_with fail
 go_region_held3(fun W=>W.cell? (aa aE 6)=some (.map (some bM))∧W.cell? (aa (w.heap.size) 0)=some (ai a_)∧W.cell? (aa (w.heap.size) 1)=some (ai bq)∧W.cell? (aa (w.heap.size) 2)=some (I b1)∧W.cell? (aa (w.heap.size) 3)=some (I dX)) (go_keep)
  ((refine q6 rfl _ _ 241 rfl 62 i0 (.agg #[I 0,I 0]) 2 16 underlying241 cw.o.1 cw.o.2.1 cw.o.2.2.1 cw.o.2.2.2 rfl (by decide) jA (st.came ⟨a_,bq⟩).length ((st.came ⟨a_,bq⟩).flatMap bF.cells) (by simp[Act.eval]) Lz.o.row (aa (w2.heap.size) 0) 1 1 [I b1,I dX] (by simp[Act.eval]) rfl Dt.o (by intro u hu;simp at hu;rcases hu with rfl|rfl<;>rfl) (by have:=cm.o.2.2.1;unfold maxLen;omega) (by have:=cm.o.2.2.1;omega) ?_;intro v5 w5 cB b_ dW;obtain⟨ek,cI,dq,eW,fo,iT,o_,rP⟩:=aeh.o _ b_;obtain⟨eS,as2,sg,mD⟩:=aea.o w5 iT v5;obtain⟨m1,m2⟩:=aei.o w5 eS mD (by have:=b_.size;omega) (by have:=b_.size;omega);have pF:=ua m1 ek;have eF:=ua m2 cI;have dY:=ua m2 dq;have ln:=ua m2 eW;have od:=ua m2 fo;clear iT o_ rP m1 m2;have rj:=J (⟨cB,b_,dW,sg,mD⟩:_∧_∧_∧_∧_);clear cB b_ dW sg mD))
 all_goals go_wp2_with fail
 all_goals
  go_end0;obtain⟨cB,b_,dW,sg,mD⟩:=rj.o;obtain⟨ae,lI,wB,jW,oX⟩:=bu.o;have zz:o bM= .mI:=lI.lF;have yY:bM<bN.heap.size:=by omega
  have nG:=wB.dw (t:=Own.row ⟨a_,bq⟩) b_ Lz.o.tag (Or.inr rfl);have apy:jQ o bN.heap.size (Own.row ⟨a_,bq⟩) bM= .mI:=by rw[qq (by omega)];exact zz
  have nc:=bA.oi (A:=(·=Own.mI)) mD apy;have BN:=Lz.o.app cB dW;have Ic:=BN.ay nc (by simp);have aP:(st.came ⟨a_,bq⟩).length+1=(st.came ⟨a_,bq⟩++[(⟨b1,dX⟩:bF)]).length:=by simp
  rw[aP,show(st.came ⟨a_,bq⟩).flatMap bF.cells++[I b1,I dX]=(st.came ⟨a_,bq⟩++[(⟨b1,dX⟩:bF)]).flatMap bF.cells by simp]at Ic;have wR:=nG.trans (nc.mono fun t al=>Or.inl al);refine⟨rfl,_,_,fz.setRow (p:=⟨a_,bq⟩) (v:=v5) (l:=st.came ⟨a_,bq⟩++[⟨b1,dX⟩]) lI wR sg (fun q ad=>by simp[ad]) (by simp) Ic,?_⟩;have bT:bA dN w o fq.w o:=(bA.dh aO.o.2.2.2.1).below fq.ok;have c6:bA dN w o w2 o:=bT.trans (jW.mono fun t al=>by rw[al];trivial);have e0:bA dN w o k9 o:=c6.below Dm.o.1;exact e0.trans (wR.mono fun t al=>by rcases al with rfl|rfl<;>trivial)
theorem zw:Maps.Keyed prog 9:=Maps.string_keyed underlying9
theorem zv {s:ByteArray}(h:s.size<=maxLen):∃cQ,keyOf prog 9 (pR s)=some cQ:=⟨_,by simp[keyOf,underlying9,mapKey,pR,h];rfl⟩
theorem E0 (a cf:ByteArray)(h:pR a=pR cf):a=cf:=by injection h
theorem aq1 (w:World):(zeroValue 244).run prog w= .ok (.map none) w:=by kernel_rfl
theorem DV {bB:ByteArray->Option Nat}{key:ByteArray}(bK:cV w 9 b6 n pR mapVal bB)(hk:key.size<=maxLen)(bY:W.heap[b6]?=w.heap[b6]?):
  (Instr.lookup 180 (.map (some b6)) (ai key) false).run prog W= .ok (.map (bB key)) W:=by
 obtain⟨cQ,dU⟩:=zv hk;have a:=(bK.move bY).lookup (t:=180) zw underlying180 (aq1 W) dU;have e:(bB key).elim (.map none) mapVal= .map (bB key):=by cases bB key<;>rfl
 rw[e]at a;exact a
theorem amc {b4:Place->Option Value}{bB:ByteArray->Option Nat}{ah:Nat->Value}(h:fz w o aE cg bM b6 bU b4 bB ah n st)(p:Place)(aw:p.Ok)(hn:n<1000000000000):
  Calls prog 151 #[bl aE,p.val] w (bx (.tuple #[]) fun w'=>∃o' uY,fz w' o' aE cg bM b6 bU b4 uY ah (n+2) (GS st p)∧bA dN w o w' o'):=by
 have AN:n<maxLen:=by unfold maxLen;omega
 have wA:=aw.key;have JL:=aw.el;obtain⟨a_,bq⟩:=p;simp only[Place.val]at*;generalize bj:w.alloc (.cells #[ai a_,ai bq] 129)=W0;have bp:ax w W0:=by rw[<-bj];exact cj _ _
 have gT:aQ W0 w.heap.size [ai a_,ai bq] 129:=by rw[<-bj];exact cC w _
 have aS:fz W0 o aE cg bM b6 bU b4 bB ah n st:=h.below bp;have sH:=aR.cell (show W0.cell? (aa aE 7)=some (.map (some b6))from aS.U.U.cell 7);have c8:=aR.cell (show W0.cell? (aa (w.heap.size) 0)=some (ai a_)from gT.cell 0);have cW:∀f:dO (aR W0),(Instr.lookup 180 (.map (some b6)) (ai a_) false).run prog f.w= .ok (.map (bB a_)) f.w:=fun f=>DV aS.els wA (f.ok.block _ aS.els.lt)
 have wy:=fun w r=>run_eql_map_nil (P:=prog) w 244 9 195 r underlying244
 have M1:= @run_makeMap prog;have aO:=J (⟨h,aS,gT,bp⟩:_∧_∧_∧_);have di:=J bj;have dp:=J (⟨wA,JL⟩:_∧_);clear h aS gT bp bj aw wA JL;cases jc:bB a_ with
 |none=>
  have Fv:=J jc;rw[jc]at cW;clear jc;go_enter func151,ntmps151;go_wp2_with fail
  rw[di.o];refine qm (aR W0) (by kernel_rfl) (by kernel_rfl) (cE).drew ?_;repeat(go_big_quiet_step (fail))
  refine gG ?_;intro _ ds;obtain⟨fq,rfl⟩:=ds;obtain⟨bR,aF⟩:=fq;try dsimp only
  have h1:=aO.o.2.1.below aF;have o3:=h1.U.U.lt;have l2:=aO.o.2.2.1.below aF;have ft:=l2.lt;have hA:=h1.U.U.hA;have d0:=l2.c0;obtain⟨cQ,dU⟩:=zv dp.o.1;have XH:=cV.made bR 9 pR zB;have Q7:=h1.els.lt;obtain⟨w2,as3,rC,fi⟩:=(h1.els.move (w':=(bR.alloc (.map #[] 0)).drew) (iW _ _ _ h1.els.lt)).store (t:=180) zw underlying180 E0 AN dU bR.heap.size;have cI:bA (·= .x6) bR o ((bR.alloc (.map #[] 0)).drew) (jQ o bR.heap.size (.set a_)):=⟨((Touch.refl _ _).alloc _).drew,fun q ad=>qq (by omega)⟩;have acW:jQ o bR.heap.size (Own.set a_) b6= .x6:=by rw[qq (by omega)];exact h1.ox
  have dq:bA (·= .x6) bR o w2 (jQ o bR.heap.size (.set a_)):=cI.trans (bA.oi fi acW);have XG:cV w2 9 bR.heap.size (n+1) pR zB (fun _=>none):=(XH.move (w':=w2) (fi.block _ (by simp[World.drew]) (fun e=>by injection e with e;omega))).mono (by omega);have aH:fz w2 (jQ o bR.heap.size (.set a_)) aE cg bM b6 bU b4 (fun q=>if q=a_ then some bR.heap.size else bB q) ah (n+1) st:=(h1.mono (pU n)).amI dq rC (fun q ad=>by simp[ad]) Fv.o (b:=bR.heap.size) (by simp) (Bc _ _ _) XG;have X6:aQ w2 w.heap.size [ai a_,ai bq] 129:=(l2.alloc (.map #[] 0)).move (fi.block _ (by simp[World.drew];omega) (fun e=>by injection e with e;have:=aO.o.1.els.lt;omega));have fE:bA dN w o w2 (jQ o bR.heap.size (.set a_)):=((bA.dh aO.o.2.2.2).below aF).trans (dq.mono fun t al=>by rw[al];trivial);obtain⟨ahA,QG⟩:∃e,e=(fun q=>if q=a_ then some bR.heap.size else bB q):=⟨_,rfl⟩;rw[<-QG]at aH;have bO:Hid (ahA a_=some bR.heap.size):=by unfold Hid;rw[QG];simp
  have cz:=J (⟨aH,X6,fE⟩:_∧_∧_);clear QG;clear h1 l2 dU XH rC fi cI acW dq XG aH X6 fE cW sH c8 Q7;go_wp2_with fail
  go_region;all_goals go_wp2_with fail
  all_goals
   have t7:=aR.cell (show w2.cell? (aa aE 7)=some (.map (some b6))from cz.o.1.U.U.cell 7);have dm:=aR.cell (show w2.cell? (aa (w.heap.size) 0)=some (ai a_)from cz.o.2.1.cell 0);have dz:=aR.cell (show w2.cell? (aa (w.heap.size) 1)=some (ai bq)from cz.o.2.1.cell 1);have Rs:∀f:dO (aR w2),(Instr.lookup 180 (.map (some b6)) (ai a_) false).run prog f.w= .ok (.map (some bR.heap.size)) f.w:=fun f=>by
    have:=DV cz.o.1.els dp.o.1 (f.ok.block _ cz.o.1.els.lt);rw[bO.o]at this;exact this
   refine kd (aR w2) 10 (by kernel_rfl) (by kernel_rfl) (cE).drew ?_;simp only[jC,ju,j4,jR];repeat(go_big_quiet_step (fail))
   refine gG ?_;intro _ ds;obtain⟨hW,rfl⟩:=ds;obtain⟨fY,c7⟩:=hW;try dsimp only
   have cS:=cz.o.1.below c7;obtain⟨cQ,dU⟩:=zv dp.o.2;obtain⟨eS,GC,sg,mD⟩:=(cS.set a_ bR.heap.size bO.o).store (t:=244) zw underlying244 E0 (by unfold maxLen;omega) dU ();have o_:bA (·= .set a_) fY (jQ o bR.heap.size (Own.set a_)) eS (jQ o bR.heap.size (Own.set a_)):=bA.oi mD (cS.mM a_ bR.heap.size bO.o);have ep:=(cS.mono (n':=n+2) (by omega)).TJ (p:=⟨a_,bq⟩) (x:=true) o_ bO.o dp.o.2 (by simpa using sg.mono (n':=n+2) (by omega));have bX:=J (⟨ep,(cz.o.2.2.below c7).trans (o_.mono fun t al=>by rw[al];trivial)⟩:_∧bA dN w o eS (jQ o bR.heap.size (Own.set a_)));clear t7 dm dz Rs cS sg mD o_ ep;go_wp2_with fail
   go_end0;exact⟨rfl,_,_,bX.o.1,bX.o.2⟩
 |some b=>
  have Fv:=J jc;rw[jc]at cW;clear jc;go_enter func151,ntmps151;go_wp2_with fail
  rw[di.o];refine qm (aR W0) (by kernel_rfl) (by kernel_rfl) (cE).drew ?_;repeat(go_big_quiet_step (fail))
  refine gG ?_;intro _ ds;obtain⟨hW,rfl⟩:=ds;obtain⟨bR,aF⟩:=hW;try dsimp only
  have cz:=J (⟨(aO.o.2.1.below aF).mono (n':=n+1) (by omega),aO.o.2.2.1.below aF,(bA.dh aO.o.2.2.2).below aF⟩:_∧_∧bA dN w o bR o);have bO:=Fv;clear cW sH c8;go_wp2_with fail
  have t7:=aR.cell (show bR.cell? (aa aE 7)=some (.map (some b6))from cz.o.1.U.U.cell 7);have dm:=aR.cell (show bR.cell? (aa (w.heap.size) 0)=some (ai a_)from cz.o.2.1.cell 0);have dz:=aR.cell (show bR.cell? (aa (w.heap.size) 1)=some (ai bq)from cz.o.2.1.cell 1);have Rs:∀f:dO (aR bR),(Instr.lookup 180 (.map (some b6)) (ai a_) false).run prog f.w= .ok (.map (some b)) f.w:=fun f=>by
   have:=DV cz.o.1.els dp.o.1 (f.ok.block _ cz.o.1.els.lt);rw[bO.o]at this;exact this
  refine kd (aR bR) 10 (by kernel_rfl) (by kernel_rfl) (cE).drew ?_;simp only[jC,ju,j4,jR];repeat(go_big_quiet_step (fail))
  refine gG ?_;intro _ ds;obtain⟨hW,rfl⟩:=ds;obtain⟨fY,c7⟩:=hW;try dsimp only
  have cS:=cz.o.1.below c7;obtain⟨cQ,dU⟩:=zv dp.o.2;obtain⟨eS,GC,sg,mD⟩:=(cS.set a_ b bO.o).store (t:=244) zw underlying244 E0 (by unfold maxLen;omega) dU ();have o_:bA (·= .set a_) fY o eS o:=bA.oi mD (cS.mM a_ b bO.o);have ep:=(cS.mono (n':=n+2) (by omega)).TJ (p:=⟨a_,bq⟩) (x:=true) o_ bO.o dp.o.2 (by simpa using sg.mono (n':=n+2) (by omega));have bX:=J (⟨ep,(cz.o.2.2.below c7).trans (o_.mono fun t al=>by rw[al];trivial)⟩:_∧bA dN w o eS o);clear t7 dm dz Rs cS sg mD o_ ep;go_wp2_with fail
  go_end0;exact⟨rfl,_,_,bX.o.1,bX.o.2⟩
theorem ag9 (a b c d:Int)(w:World):(binOp .eql 62 (.agg #[I a,I b]) (.agg #[I c,I d])).run prog w= .ok (.bool (decide ((⟨a,b⟩:bF)=⟨c,d⟩))) w:=by
 have u3:=underlying3;have a3:=Tryz.isAgg3;have z3:=Tryz.sizeOf3;have dJ:prog.underlying 62=some (.struct (prog.fieldsOf 62)):=by kernel_rfl
 have aw:prog.stoodInHeld 62=false:=by kernel_rfl
 rw[run_eql_struct,show(10000:Nat)=9999+1 from rfl,run_equalIn_agg w 9999 62 _ _ dJ aw];simp only[Program.fieldsOf,underlying62];go_simp
 by_cases h1:a=c<;>by_cases ae:b=d<;>simp[h1,ae]
theorem ag_ (op:BinOp)(a b:Operand)(xs bb:Array Value)(w:World):(eqGuard op 62 a b (.agg xs) (.agg bb)).run prog w= .ok () w:=run_eqGuard_agg w op 62 a b xs bb (by kernel_rfl)
theorem ahd (W:World)(e8:Nat)(d x:bF)(c2:eh W e8 2 (I x.rep))(c3:eh W e8 3 (I x.seq)):
  Calls prog 207 (#[d.val]++ #[bl e8]) W (bx (.bool (decide (d=x))) fun w'=>ax W w'):=by
 have aC:=hU W _ c2;obtain⟨a,b⟩:=d;obtain⟨c,e⟩:=x;have he:=ag9 a b c e;have aM:=ag_;obtain⟨r,aJ⟩:∃r,decide ((⟨a,b⟩:bF)=⟨c,e⟩)=r:=⟨_,rfl⟩;rw[aJ]at he⊢;clear aJ;simp only[append_toArray,yo,w1];go_enter func207,ntmps207;go_wp2_with fail
 go_ret;exact⟨rfl,(cj _ _)⟩
end Go.Proofs.YtiplgdkpnhamaaaGreatDoor
