import Derived.Test.YtiplgdkpnhamaaaGreatDoorT08
import Derived.Test.YtiplgdkpnhamaaaGreatDoorT13
import Derived.LaidEqlPtr
import Derived.Shelf.Strconv.Clone
import Derived.Test.YtiplgdkpnhamaaaGreatDoorProg
import Derived.Lib.AtoiAll
import Derived.Lib.ItoaLen
import Derived.Lib.ItoaMem
import Derived.Shelf.Strconv.AppendIntPublic10
import Derived.Lib.AppendIntMem
import Derived.Lib.OthersKept
import Derived.Lib.Hide
import Derived.Laws.IdiomStrings
import Derived.OwnWalk
import Derived.BigCall
import Derived.Lib.AppendStr
import Derived.Laws.Bits64b
set_option maxHeartbeats 8000000
set_option maxRecDepth 100000
namespace Go.Proofs.YtiplgdkpnhamaaaGreatDoor
open Go.Proofs.Tryz List
open Go.RowKit
variable {b bM b6 n aE cg:Nat}{o:Nat->Own}{bU pJ:Value}{st:b5}{w w':World}
theorem aa5 {t:Own}{e:TypeId}{size:Nat}:gZ w o t e size km 0 []:=⟨⟨by simp,.inl ⟨rfl,rfl⟩⟩,fun q ad=>by simp[Value.ownBlock]at ad⟩
theorem ao5 (w:World)(o:Nat->Own):Calls prog 86 #[] w fun e w'=>e= .returned (bl (w.heap.size+3))∧(ax w w'∧w'.heap.size=w.heap.size+4∧
   fR w' (fun q=>if q=w.heap.size then .aK else if q=w.heap.size+1 then .mI else if q=w.heap.size+2 then .x6 else if q=w.heap.size+3 then .hR else o q) (w.heap.size+3) 0 pI):=by
 have M1:= @run_makeMap prog;generalize bY:(((w.alloc (.map #[] 0)).alloc (.map #[] 0)).alloc (.map #[] 0)).alloc (.cells #[I 0,I 0,I 0,I 0,I 0,.map (some w.heap.size),.map (some (w.heap.size+1)),.map (some (w.heap.size+2)),.slice none 0 0] 183)=W;have cF:W.heap.size=w.heap.size+4:=by rw[<-bY];simp
 have ao:ax w W:=by rw[<-bY];exact((((cj _ _)).alloc (by simp) _).alloc (by simp;try omega) _).alloc (by simp;try omega) _
 have m1:W.heap[w.heap.size]?=(w.alloc (.map #[] 0)).heap[w.heap.size]?:=by rw[<-bY,iW _ _ _ (by simp;try omega),iW _ _ _ (by simp;try omega),iW _ _ _ (by simp)]
 have m2:W.heap[w.heap.size+1]?=((w.alloc (.map #[] 0)).alloc (.map #[] 0)).heap[w.heap.size+1]?:=by rw[<-bY,iW _ _ _ (by simp;try omega),iW _ _ _ (by simp)]
 have m3:W.heap[w.heap.size+2]?=(((w.alloc (.map #[] 0)).alloc (.map #[] 0)).alloc (.map #[] 0)).heap[w.heap.size+2]?:=by rw[<-bY,iW _ _ _ (by simp)]
 have fZ:aQ W (w.heap.size+3) [I 0,I 0,I 0,I 0,I 0,.map (some w.heap.size),.map (some (w.heap.size+1)),.map (some (w.heap.size+2)),.slice none 0 0] 183:=by
  rw[<-bY];have a:=cC (((w.alloc (.map #[] 0)).alloc (.map #[] 0)).alloc (.map #[] 0)) (.cells #[I 0,I 0,I 0,I 0,I 0,.map (some w.heap.size),.map (some (w.heap.size+1)),.map (some (w.heap.size+2)),.slice none 0 0] 183);rw[show(((w.alloc (.map #[] 0)).alloc (.map #[] 0)).alloc (.map #[] 0)).heap.size=w.heap.size+3 by simp]at a;exact a
 have v1:cV W 233 w.heap.size 0 cn.val gQ.val (fun _=>none):=(cV.made w _ _ _).move m1;have v2:cV W 129 (w.heap.size+1) 0 Place.val AT (fun _=>none):=by
  have a:=cV.made (w.alloc (.map #[] 0)) 129 Place.val AT;rw[show(w.alloc (.map #[] 0)).heap.size=w.heap.size+1 by simp]at a;exact a.move m2
 have v3:cV W 9 (w.heap.size+2) 0 pR mapVal (fun _=>none):=by
  have a:=cV.made ((w.alloc (.map #[] 0)).alloc (.map #[] 0)) 9 pR mapVal;rw[show((w.alloc (.map #[] 0)).alloc (.map #[] 0)).heap.size=w.heap.size+2 by simp]at a;exact a.move m3
 have nX:ax w W∧W.heap.size=w.heap.size+4∧fR W (fun q=>if q=w.heap.size then .aK else if q=w.heap.size+1 then .mI else if q=w.heap.size+2 then .x6 else if q=w.heap.size+3 then .hR else o q) (w.heap.size+3) 0 pI:=by
  refine⟨ao,cF,w.heap.size,w.heap.size+1,w.heap.size+2,km,fun _=>none,fun _=>none,fun _=>km,⟨fZ,by simp⟩,v1,by simp,v2,by simp,fun _ _=>rfl,fun p v e=>by simp at e,v3,by simp,fun _ _ _=>rfl,fun k b e=>by simp at e,fun k b e=>by simp at e,aa5,fun s hs=>by simp[pI]at hs,fun s hs=>by simp[pI]at hs,fun k e h=>by simp[pI]at h⟩
 have ew:=J bY;have tP:=J nX;clear cF ao m1 m2 m3 fZ v1 v2 v3 nX bY;go_enter func86,ntmps86;go_wp2_with fail
 go_ret;rw[ew.o];exact⟨rfl,tP.o⟩
theorem Tryz.alh:(prog.info? 117).map (fun i=>(i.zero,i.size,i.bytes))=some (some (.pointer none),1,8):=by kernel_rfl
theorem fz.amZ {o':Nat->Own}{b4:Place->Option Value}{bB:ByteArray->Option Nat}{ah:Nat->Value}(h:fz w o aE cg bM b6 bU b4 bB ah n st)(hb:∀s,s∈st.bW->s.U≠b)(k:bA (fun t=>t= .hR∨t= .opens) w o w' o')
  (dJ:fS w' o' .hR aE [I st.ag.a,I st.ag.b,I st.ag.c,I st.ag.d,I st.ag.e,.map (some cg),.map (some bM),.map (some b6),pJ] 183)
  (bI:gZ w' o' .opens 117 1 pJ (st.bW.length+1) ((st.bW.map fun s=>bl s.U)++[bl b]))(fa:fS w' o' (.snap b) b [bl aE,I st.ag.a,I st.ag.b,I st.ag.c,I st.ag.d,I st.ag.e,km] 186):
  fz w' o' aE cg bM b6 pJ b4 bB (fun q=>if q=b then km else ah q) n (wO st b):=by
 have ik:∀s,s∈(wO st b).bW->s∈st.bW∨s=⟨b,st.ag,[]⟩:=fun s hs=>by
  have gj:s∈st.bW++[⟨b,st.ag,[]⟩]:=hs;simpa using gj
 refine⟨dJ,h.bh.hP k (by rw[h.nM];simp),(k.same _ h.bh.lt).trans h.nM,h.came.hP k (by rw[h.lF];simp),(k.same _ h.came.lt).trans h.lF,h.q3,fun q u ad=>(h.row q u ad).ay k (by simp),h.els.hP k (by rw[h.ox];simp),(k.same _ h.els.lt).trans h.ox,h.tC,
  fun x b e=>(k.same _ (h.set x b e).lt).trans (h.mM x b e),fun x b e=>(h.set x b e).hP k (by rw[h.mM x b e];simp),?_,fun t al=>?_,fun t al=>?_,h.s8⟩
 ·show gZ w' o' .opens _ 1 pJ (st.bW++[(⟨b,st.ag,[]⟩:ej)]).length ((st.bW++[(⟨b,st.ag,[]⟩:ej)]).map fun s=>bl s.U)
  rw[eN,tJ];exact bI
 ·rcases ik t al with c|rfl
  ·have cO:=(h.snap t c).ay k (by simp)
   simpa[hb t c]using cO
  ·simpa using fa
 ·rcases ik t al with c|rfl
  ·have cO:=(h.kept t c).ay k (by simp)
   simpa[hb t c]using cO
  ·simpa using(aa5 (w:=w') (o:=o') (t:= .kept b) (e:=233) (size:=4))
theorem abi (ez:fR w o aE n st)(hlen:st.bW.length<=1000):
  Calls prog 59 #[bl aE] w (bx (bl w.heap.size) fun w'=>∃o',fR w' o' aE n (wO st w.heap.size)∧bA dN w o w' o'):=by
 obtain⟨cg,bM,b6,bU,b4,bB,ah,h⟩:=ez;obtain⟨i0,aq,dC,dM,dK⟩:=iV Tryz.alh;have c0:=h.U.U.c0;have c1:=h.U.U.c1;have c2:=h.U.U.c2;have c3:=h.U.U.c3;have c4:=h.U.U.c4;have yN:=h.U.U.yN;have o3:=h.U.U.lt;obtain⟨GY,Ry⟩:∃GY,GY=jQ o w.heap.size (.snap w.heap.size):=⟨_,rfl⟩;generalize dE:w.alloc (.cells #[bl aE,I st.ag.a,I st.ag.b,I st.ag.c,I st.ag.d,I st.ag.e,.slice none 0 0] 186)=bR;generalize fg:bR.alloc (.cells #[bl w.heap.size] 117)=W2;have h0:bR.heap.size=w.heap.size+1:=by rw[<-dE];simp
 have z2:W2.heap.size=w.heap.size+2:=by rw[<-fg];simp[h0]
 have ad:bA (fun t=>t= .hR∨t= .opens) w o W2 GY:=by
  rw[Ry,<-fg,<-dE];exact⟨((Touch.refl _ _).alloc _).alloc _,fun q ad=>qq (by omega)⟩
 have PZ:fS W2 GY .hR aE [I st.ag.a,I st.ag.b,I st.ag.c,I st.ag.d,I st.ag.e,.map (some cg),.map (some bM),.map (some b6),bU] 183:=⟨by rw[<-fg,<-dE];exact(h.U.U.alloc _).alloc _,(ad.same _ o3).trans h.U.tag⟩;have rA:fS W2 GY (.snap w.heap.size) w.heap.size [bl aE,I st.ag.a,I st.ag.b,I st.ag.c,I st.ag.d,I st.ag.e,km] 186:=⟨by rw[<-fg,<-dE];exact aQ.first w _ _ _,by rw[Ry];exact Bc _ _ _⟩;have FW:gZ W2 GY .opens 117 1 bU st.bW.length (st.bW.map fun s=>bl s.U):=by
  refine⟨?_,fun q iB=>(ad.same _ (h.opens.lt iB)).trans (h.opens.tag q iB)⟩;rw[<-fg,<-dE];exact h2 (h2 h.opens.row _) _
 have hL:∀j u,[bl w.heap.size][j]?=some u->W2.cell? (((aa (bR.heap.size) 0):Addr).add j)=some u:=by
  have:aQ W2 bR.heap.size [bl w.heap.size] 117:=by rw[<-fg];exact cC bR _
  exact A0 this
 have wk:¬bU.ownBlock=some aE:=fun e=>by have:=h.opens.tag _ e;rw[h.U.tag]at this;cases this
 have MF:∀s,s∈st.bW->s.U≠w.heap.size:=fun s hs=>by have:=(h.snap s hs).U.lt;omega
 have aO:=J (⟨h,ad,PZ,rA,FW,hL,MF⟩:_∧_∧_∧_∧_∧_∧_);have cw:=J (⟨aq,dC,dM,dK⟩:_∧_∧_∧_);have ic:=J dE;have pZ:=J fg;have lB:=J (⟨h0,z2⟩:_∧_);clear h ad PZ rA FW hL MF aq dC dM dK dE fg h0 z2 Ry;go_enter func59,ntmps59;go_upto_region 2 with(fail);rw[ic.o];have arx:bR.cell? (aa aE 8)=some bU:=by rw[<-ic.o,xb _ _ _ o3];exact yN
 have jX:aE<bR.heap.size:=by have:=lB.o.1;omega
 clear c0 c1 c2 c3 c4 yN;go_wp2_with(at_builtin;rw[pZ.o];refine tK _ rfl _ _ 181 rfl 0 117 i0 (.pointer none) 1 8 underlying181 cw.o.1 cw.o.2.1 cw.o.2.2.1 cw.o.2.2.2 rfl (by decide) _ _ _ rfl aO.o.2.2.2.2.1.row (aa (bR.heap.size) 0) 1 1 [bl w.heap.size] rfl rfl aO.o.2.2.2.2.2.1 (by intro u hu;simp at hu;subst hu;rfl) (by unfold maxLen;omega) (by omega) ch ?_;intro v1 bN hc iI qT kQ;obtain⟨g1,vX,rfl,-,-,-,-,-⟩:=Row.pos hc (by omega);have iT:=aO.o.2.2.1.dw iI aO.o.2.2.2.2.1.tag (by simp);have EU:=iT.U.cell 8;have f8:=iT.U.frozen 8;have x3:=iT.U.lt;have cD:=J (⟨iT,hc,iI,kQ⟩:_∧_∧_∧_);clear iT hc iI kQ qT)
 go_ret;obtain⟨iT,dd,ka,et⟩:=cD.o;obtain⟨h,ad,PZ,rA,FW,hL,MF⟩:=aO.o;have fE:=ad.dw ka FW.tag (Or.inr rfl);have hf:=fE.set (p:=(aa aE 8)) (by show _∨_;rw[iT.tag];exact Or.inl rfl) (bo g1 (st.bW.length+1) vX);have ae7:=(FW.app dd et).set (p:=(aa aE 8)) iT.tag (by simp) (bo g1 (st.bW.length+1) vX);have ae3:=(rA.dw ka FW.tag (by simp)).other (p:=(aa aE 8)) iT.tag (by simp) (bo g1 (st.bW.length+1) vX);have afb:=iT.set 8 (bo g1 (st.bW.length+1) vX);have nX:=h.amZ MF hf afb ae7 ae3;exact⟨rfl,_,⟨_,_,_,_,_,_,_,nX⟩,hf.mono fun t al=>by rcases al with rfl|rfl<;>trivial⟩
theorem agD (W:World)(e8 q b:Nat){cs F4:List Value}{ty Hk:TypeId}(c0:eh W e8 0 (bl b))(ad:aQ W q cs ty)(hb:aQ W b F4 Hk):
  Calls prog 146 (#[bl q]++ #[bl e8]) W (bx (.bool (decide (q=b))) fun w'=>ax W w'):=by
 simp only[append_toArray,yo,w1];obtain⟨j,af,hs⟩:∃j,prog.info? 186=some j∧j.size≠0:=by
  have:(prog.info? 186).map (·.size)=some 7:=by kernel_rfl
  cases e:prog.info? 186 with
  |none=>rw[e]at this;cases this
  |some j=>rw[e]at this;exact⟨j,rfl,by simp at this;omega⟩
 have heq:(binOp .eql 117 (bl q) (bl b)).run prog W= .ok (.bool (decide (q=b))) W:=by
  by_cases c:q=b
  ·subst c
   rw[run_eql_ptr_same W (aa q 0) underlying117 af];simp
  ·rw[run_eql_ptr_other W underlying117 af hs (a:=(aa q 0)) (b:=(aa b 0)) (fun e=>c (by injection e)) ad hb];simp[c]
 obtain⟨r,aJ⟩:∃r,decide (q=b)=r:=⟨_,rfl⟩;rw[aJ]at heq⊢;clear ad hb af hs aJ;go_enter func146,ntmps146;go_wp2_with fail
 go_ret;exact⟨rfl,cE⟩
theorem ahp (args:Array Value)(w:World):(callFunc 146 args).run prog w= .ok (.enter 146 args) w:=enters_of func146 (by kernel_rfl) rfl args w
theorem fz.agB {o1:Nat->Own}{b4:Place->Option Value}{bB:ByteArray->Option Nat}{ah:Nat->Value}(h:fz w o aE cg bM b6 bU b4 bB ah n st)(k:Touch (fun q=>o q= .hR∨o q= .opens) w w')(cu:∀q,q<w.heap.size->o q≠.snap b->o q≠.kept b->o1 q=o q)
  (dJ:fS w' o1 .hR aE [I st.ag.a,I st.ag.b,I st.ag.c,I st.ag.d,I st.ag.e,.map (some cg),.map (some bM),.map (some b6),pJ] 183)
  (bI:gZ w' o1 .opens 117 1 pJ (st.bW.filter fun t=> !decide (t.U=b)).length ((st.bW.filter fun t=> !decide (t.U=b)).map fun s=>bl s.U)):
  fz w' o1 aE cg bM b6 pJ b4 bB ah n {st with bW:=st.bW.filter fun t=> !decide (t.U=b)}:=by
 have f:∀t:Own,t≠.hR->t≠.opens->t≠.snap b->t≠.kept b->∀q,q<w.heap.size->o q=t->w'.heap[q]?=w.heap[q]?∧o1 q=t:=fun t h1 ae aH bd q ad e=>by
  subst e;exact⟨k.block q ad (fun c=>c.elim h1 ae),cu q ad aH bd⟩
 have g:∀{α β:Type} {GQ:TypeId} {tY kG:Nat} {xD:α->Value} {BZ:β->Value} {m:α->Option β} {t:Own},cV w GQ tY kG xD BZ m->o tY=t->t≠.hR->t≠.opens->t≠.snap b->t≠.kept b->cV w' GQ tY kG xD BZ m∧o1 tY=t:=fun bK e h1 ae aH bd=>by
  have a:=f _ h1 ae aH bd _ bK.lt e;exact⟨bK.move a.1,a.2⟩
 have ik:∀t,t∈st.bW.filter (fun t=> !decide (t.U=b))->t∈st.bW∧t.U≠b:=fun t al=>by
  rw[ra]at al;simpa using al
 obtain⟨m1,m2⟩:=g h.bh h.nM (by simp) (by simp) (by simp) (by simp);obtain⟨m3,m4⟩:=g h.came h.lF (by simp) (by simp) (by simp) (by simp);obtain⟨m5,m6⟩:=g h.els h.ox (by simp) (by simp) (by simp) (by simp);exact⟨dJ,m1,m2,m3,m4,h.q3,fun p v e=>(h.row p v e).fp (f _ (by simp) (by simp) (by simp) (by simp)),m5,m6,h.tC,fun x c e=>(g (h.set x c e) (h.mM x c e) (by simp) (by simp) (by simp) (by simp)).2,fun x c e=>(g (h.set x c e) (h.mM x c e) (by simp) (by simp) (by simp) (by simp)).1,bI,
  fun t al=>(h.snap t (ik t al).1).fp (f _ (by simp) (by simp) (by simp[(ik t al).2]) (by simp)),fun t al=>(h.kept t (ik t al).1).fp (f _ (by simp) (by simp) (by simp) (by simp[(ik t al).2])),h.s8⟩
theorem b5.h5.BX:∀(l:List cn) {st:b5},st.h5->(∀x,x∈l->x.Ok)->(l.foldl gA st).h5
 |[],_,h,_=>h
 |x::l,_,h,aC=>b5.h5.BX l (h.sc (aC x (by simp))) fun y b9=>aC y (by simp[b9])
theorem ku.BX:∀(l:List cn) {st:b5} {m:Nat},ku st (m+l.length)->ku (l.foldl gA st) m
 |[],_,_,h=>h
 |x::l,st,m,h=>ku.BX l (ku.sc (m:=m+l.length) (by rw[lP]at h;exact h) x)
theorem agC {s:ej}(ez:fR w o aE n st)(bY:st.h5)(hs:s∈st.bW)(hk:ku st s.kept.length)(hn:n<1000000000000):
  Calls prog 104 #[bl s.U] w (bx (.tuple #[]) fun w'=>∃o',fR w' o' aE n (yO st s)∧bA dN w o w' o'∧aQ w' s.U [bl aE,I s.saw.a,I s.saw.b,I s.saw.c,I s.saw.d,I s.saw.e,.slice none 0 0] 186):=by
 obtain⟨cg,bM,b6,bU,b4,bB,ah,h⟩:=ez;generalize bj:w.alloc (.cells #[bl s.U] 117)=W0;have bp:ax w W0:=by rw[<-bj];exact cj _ _
 have dC:W0.heap.size=w.heap.size+1:=by rw[<-bj];simp
 have gT:aQ W0 w.heap.size [bl s.U] 117:=by rw[<-bj];exact cC w _
 have aS:=h.below bp;have o4:=aS.snap s hs;have br:=(h.snap s hs).U.lt;have c8:=gT.c0;have pH:=o4.U.c0;have aca:=aS.U.U.yN;have o3:=aS.U.U.lt;have y4:∀q,bU.ownBlock=some q->q<w.heap.size∧o q= .opens:=fun q ad=>⟨h.opens.lt ad,h.opens.tag q ad⟩
 have bf:Row W0 117 1 bU (st.bW.map ej.U).length ((st.bW.map ej.U).flatMap wQ):=by
  have a:=aS.opens.row;rw[show(st.bW.map ej.U).flatMap wQ=st.bW.map fun s=>bl s.U by rw[flatMap_map];induction st.bW<;>simp_all,mO];exact a
 have cy:=ag2 W0 bU (st.bW.map ej.U) bf 146 #[bl w.heap.size] (fun q=>decide (q=s.U)) ahp (fun W bY d aB=>by
  obtain⟨t,al,rfl⟩:=gF.1 aB;have sq:∀q,q<W0.heap.size->o q≠.opens->W.heap[q]?=W0.heap[q]?:=fun q ad c=>bY.block q ad (fun e=>c (y4 q e).2)
  have aP:W.heap[w.heap.size]?=W0.heap[w.heap.size]?:=bY.block _ gT.lt (fun e=>by have:=(y4 _ e).1;omega);have t1:=aS.snap t al;exact agD W w.heap.size t.U s.U (ua aP c8) (t1.U.move (sq _ t1.U.lt (by rw[t1.tag];simp))) (o4.U.move (sq _ o4.U.lt (by rw[o4.tag];simp))))
 have aO:=J (⟨h,aS,gT,bp,dC⟩:_∧_∧_∧_∧_);have cm:=J (⟨bY,hs,hk,y4⟩:_∧_∧_∧_);have bn:=J cy;have di:=J bj;clear h aS gT bp dC o4 bY hs hk y4 bf cy bj;go_enter func104,ntmps104;go_upto_region 1 with(fail);rw[di.o];go_wp2_with fail
 refine bn.o.mono ?_;rintro e an ⟨v1,rfl,QS,kW,h7⟩;obtain⟨cA,cap,rfl,gg,jJ,-⟩:=QS.shape;clear c8 pH aca;obtain⟨h,aS,gT,bp,dC⟩:=aO.o;obtain⟨bY,hs,hk,y4⟩:=cm.o;classical
 obtain⟨o1,ny⟩:∃o1:Nat->Own,o1=fun q=>if q<w.heap.size then(if o q= .snap s.U∨o q= .kept s.U then .other else o q)else .other:=⟨_,rfl⟩
 have t1:∀q,q<w.heap.size->o q≠.snap s.U->o q≠.kept s.U->o1 q=o q:=fun q ad a b=>by rw[ny];simp[ad,a,b]
 have t2:∀q,dN (o1 q)->q<w.heap.size∧o1 q=o q:=fun q ad=>by
  rw[ny]at ad⊢;by_cases c:q<w.heap.size
  ·by_cases d:o q= .snap s.U∨o q= .kept s.U
   ·simp[c,d,dN]at ad
   ·simp[c,d]
  ·simp[c,dN]at ad
 have t3:o1 w.heap.size= .other:=by rw[ny];simp
 have t4:∀q,q<w.heap.size->o q= .snap s.U∨o q= .kept s.U->o1 q= .other:=fun q ad a=>by rw[ny];simp[ad,a]
 have gB:∀q,q<W0.heap.size->o q≠.opens∨w.heap.size<=q->an.heap[q]?=W0.heap[q]?:=fun q ad c=>h7.block q ad (fun e=>by have:=y4 q e;rcases c with c|c;exact c this.2;omega)
 have wV:=h.U.tag;have vo:=h.U.U.lt;have Is:aQ an aE [I st.ag.a,I st.ag.b,I st.ag.c,I st.ag.d,I st.ag.e,.map (some cg),.map (some bM),.map (some b6),bU] 183:=aS.U.U.move (gB aE o3 (Or.inl (by rw[wV];simp)));have yN:=Is.yN;have f8:=Is.frozen 8;have P0:aQ an w.heap.size [bl s.U] 117:=gT.move (gB _ gT.lt (Or.inr cv));have KO:=aS.snap s hs;have TM:aQ an s.U [bl aE,I s.saw.a,I s.saw.b,I s.saw.c,I s.saw.d,I s.saw.e,ah s.U] 186:=KO.U.move (gB _ KO.U.lt (Or.inl (by rw[KO.tag];simp)));have Nx:=aS.kept s hs;have aag:Row an 233 4 (ah s.U) s.kept.length (s.kept.flatMap cn.cells):=Nx.row.move fun q ad=>gB q (Nx.lt ad) (Or.inl (by rw[Nx.tag q ad];simp))
 have bS:s.U≠aE:=fun e=>by have:=KO.tag;rw[e,wV]at this;cases this
 have Zb:w.heap.size≠aE:=by omega
 have gJ:=Is.lt;have gV:=TM.lt;have tl:=P0.lt;generalize fg:an.setCell (aa aE 8) (.slice cA ((st.bW.map ej.U).filter fun x=> !decide (x=s.U)).length cap)=W2;have Jz:((st.bW.map ej.U).filter fun x=> !decide (x=s.U))=(st.bW.filter fun t=> !decide (t.U=s.U)).map ej.U:=by
  rw[filter_map];rfl
 have acP:fS W2 o1 .hR aE [I st.ag.a,I st.ag.b,I st.ag.c,I st.ag.d,I st.ag.e,.map (some cg),.map (some bM),.map (some b6),.slice cA ((st.bW.map ej.U).filter fun x=> !decide (x=s.U)).length cap] 183:=⟨by rw[<-fg];exact Is.set 8 _,by rw[t1 aE vo (by rw[wV];simp) (by rw[wV];simp)];exact wV⟩;have p8:gZ W2 o1 .opens 117 1 (.slice cA ((st.bW.map ej.U).filter fun x=> !decide (x=s.U)).length cap) (st.bW.filter fun t=> !decide (t.U=s.U)).length ((st.bW.filter fun t=> !decide (t.U=s.U)).map fun s=>bl s.U):=by
  refine⟨?_,fun q ad=>?_⟩
  ·have a:Row W2 117 1 (.slice cA ((st.bW.map ej.U).filter fun x=> !decide (x=s.U)).length cap) ((st.bW.map ej.U).filter fun x=> !decide (x=s.U)).length (((st.bW.map ej.U).filter fun x=> !decide (x=s.U)).flatMap wQ):=by
    rw[<-fg];exact Row.other QS (fun e=>by have:=y4 aE (by rw[<-kW];exact e);rw[wV]at this;cases this.2) _
   have aP:((st.bW.map ej.U).filter fun x=> !decide (x=s.U)).flatMap wQ=(st.bW.filter fun t=> !decide (t.U=s.U)).map fun s=>bl s.U:=by
    rw[Jz,flatMap_map];induction st.bW.filter fun t=> !decide (t.U=s.U)<;>simp_all
   rw[aP]at a;rw[show(st.bW.filter fun t=> !decide (t.U=s.U)).length=((st.bW.map ej.U).filter fun x=> !decide (x=s.U)).length by rw[Jz,mO]];exact a
  ·have:=y4 q (by rw[<-kW];exact ad)
   rw[t1 q this.1 (by rw[this.2];simp) (by rw[this.2];simp)];exact this.2
 have QV:Touch (fun q=>o q= .hR∨o q= .opens) w W2:=by
  rw[<-fg];have p0:Touch (fun q=>o q= .hR∨o q= .opens) w an:=(Touch.dh bp).trans (h7.mono fun q _ e=>Or.inl (Or.inr (y4 q e).2));exact p0.setCell (p:=(aa aE 8)) (Or.inl (Or.inl wV)) _
 have ae:=h.agB QV t1 acP p8;have uU:fS W2 o1 .other w.heap.size [bl s.U] 117:=⟨by rw[<-fg];exact P0.other Zb _,t3⟩;have TN:fS W2 o1 .other s.U [bl aE,I s.saw.a,I s.saw.b,I s.saw.c,I s.saw.d,I s.saw.e,ah s.U] 186:=⟨by rw[<-fg];exact TM.other bS _,t4 _ br (Or.inl (h.snap s hs).tag)⟩;have Su:gZ W2 o1 .other 233 4 (ah s.U) s.kept.length (s.kept.flatMap cn.cells):=by
  refine⟨?_,fun q ad=>t4 q ((h.kept s hs).lt ad) (Or.inr ((h.kept s hs).tag q ad))⟩;rw[<-fg];exact Row.other aag (fun e=>by have:=(h.kept s hs).tag aE e;rw[wV]at this;cases this) _
 obtain⟨St,Sj,hK,asH,ajM,ajK⟩:=Su.row.shape;unfold maxLen at ajM jJ;have bu:=J (⟨⟨cg,bM,b6,_,b4,bB,ah,ae⟩,uU,TN,Su,QV⟩:fR W2 o1 aE n {st with bW:=st.bW.filter fun t=> !decide (t.U=s.U)}∧_∧_∧_∧_);have dA:=J (⟨t1,t2,t4⟩:_∧_∧_);have pZ:=J fg;have aek:=J hK;have dm:=uU.U.c0;have Be:=TN.U.iG;rw[hK]at Be;clear h aS gT bp dC bY hs hk y4 ny t1 t2 t3 t4 gB wV vo Is P0 KO TM Nx aag bS Zb Jz acP p8 QV ae uU TN Su ajK fg hK QS kW h7;go_upto_region 3 with(fail);rw[pZ.o];clear yN f8;go_wp2_with fail
 clear dm Be;go_loopw[23] (fun i wr=>∃(k:Nat) (o':Nat->Own),k<=s.kept.length∧i=I k∧Hid (fR wr o' aE n ((s.kept.take k).foldl gA {st with bW:=st.bW.filter fun t=> !decide (t.U=s.U)})∧bA dN W2 o1 wr o')) (fun i _=>s.kept.length-(intOf i).toNat)
 case atStart=>exact⟨0,o1,ch,rfl,bu.o.1,bA.refl _ _ _⟩
 case round=>
  obtain⟨k,o',dU,rfl,hinv⟩:=hrel;by_cases cW:k<s.kept.length
  ·have bI:=bu.o.2.2.2.1.ay hinv.o.2 rZ
   rw[aek.o]at bI;obtain⟨g,_,e,-,-,fW,eb,-⟩:=Row.pos bI.row (by omega);cases e;have d0:=eb (k*4+0) (by omega);have d1:=eb (k*4+1) (by omega);have d2:=eb (k*4+2) (by omega);have d3:=eb (k*4+3) (by omega);rw[hC _ 4 (fun _=>rfl) _ _ _ cW (by omega)]at d0 d1 d2 d3;simp only[cn.cells,jg,kK,j3]at d0 d1 d2 d3;obtain⟨x,au⟩:∃x,s.kept[k]=x:=⟨_,rfl⟩;rw[au]at d0 d1 d2 d3;have hj:x∈s.kept:=by rw[<-au];exact eT cW
   obtain⟨bY,hs,hk,-⟩:=cm.o;have l_:∀t,t∈st.bW.filter (fun t=> !decide (t.U=s.U))->t∈st.bW:=fun t al=>(ra.1 al).1
   have dE:({st with bW:=st.bW.filter fun t=> !decide (t.U=s.U)}:b5).h5:=⟨bY.here,bY.once,bY.ok,bY.fL,fun t al=>bY.kept t (l_ t al),bY.qK.sublist (List.Sublist.map _ Ht)⟩;have Ay:=b5.h5.BX (s.kept.take k) dE (fun y b9=>bY.kept s hs y (Fg b9));have e7:ku ({st with bW:=st.bW.filter fun t=> !decide (t.U=s.U)}:b5) (1+(s.kept.take k).length):=fun t al=>by
    have:=hk t (l_ t al);rw[ng];omega
   have Cq:=ku.BX (s.kept.take k) e7;obtain⟨gu,CB⟩:∃z,(s.kept.take k).foldl gA {st with bW:=st.bW.filter fun t=> !decide (t.U=s.U)}=z:=⟨_,rfl⟩;have yV:=hinv.o.1;rw[CB]at Ay Cq yV;have kb:(s.kept.take (k+1)).foldl gA {st with bW:=st.bW.filter fun t=> !decide (t.U=s.U)}=gA gu x:=by
    rw[kr cW,foldl_append,CB,au];rfl
   generalize f_:wr.alloc (.cells #[ai x.at_.key,ai x.at_.el,I x.dot.rep,I x.dot.seq] 233)=dH;have b0:ax wr dH:=by rw[<-f_];exact cj _ _
   have l3:=WJ (yV.below b0) Ay.qK x (bY.kept s hs x hj) (fun v av=>⟨(Ay.fL x v av).eE,(Ay.fL x v av).ql⟩) Cq hn;simp only[cn.val]at l3;have O9:=J l3;have uJ:=J f_;have cz:=J (⟨kb,hinv.o.2.below b0⟩:_∧bA dN W2 o1 dH o');clear bI eb au hj bY hs hk l_ dE Ay e7 Cq CB yV kb f_ b0 l3;go_wp2_with fail
   rw[uJ.o];refine O9.o.mono ?_;rintro e w5 ⟨rfl,nD,B6,Es⟩;clear d0 d1 d2 d3;go_wp2_with fail
   refine⟨⟨k+1,nD,by omega,by go_num,?_,cz.o.2.trans Es⟩,by simp[intOf];omega⟩;rw[cz.o.1];exact B6
  ·have fV:=bu.o.2.1.ay hinv.o.2 rZ
   have kp:=bu.o.2.2.1.ay hinv.o.2 rZ;have dm:=fV.U.c0;have Be:=kp.U.iG;have f6:=kp.U.frozen 6;have Vq:=J kp;clear fV kp;go_wp2_with fail
   go_end0;have QL:fR (wr.setCell (aa (s.U) 6) (.slice none 0 0)) o' aE n (yO st s):=by
    have a:=hinv.o.1;rw[lQ (by omega)]at a;obtain⟨cg,bM,b6,bU,b4,bB,ah,h⟩:=a;exact⟨cg,bM,b6,bU,b4,bB,ah,h.ay (A:=(·= .other)) ((bA.refl _ _ _).set (p:=(aa (s.U) 6)) Vq.o.tag _) (fun t al e=>by rw[e]at al;exact al)⟩
   obtain⟨t1,t2,t4⟩:=dA.o;have cF:=fx bu.o.2.2.2.2.size hinv.o.2.size;have Y3:=bu.o.2.1.U.lt;refine⟨rfl,fun q=>if q<w.heap.size then o q else o' q,?_,?_,Vq.o.U.set 6 (.slice none 0 0)⟩
   ·obtain⟨cg,bM,b6,bU,b4,bB,ah,h⟩:=QL
    refine⟨cg,bM,b6,bU,b4,bB,ah,h.move fun q ad al=>⟨rfl,?_⟩⟩;by_cases c:q<w.heap.size
    ·have aP:=hinv.o.2.same q (by omega)
     rw[aP]at al;simp only[c,uC];rw[aP];exact(t2 q al).2.symm
    ·simp[c]
   ·refine⟨?_,fun q ad=>by simp[ad]⟩
    have p0:Touch (fun q=>dN (o q)) w W2:=bu.o.2.2.2.2.mono fun q _ e=>by rcases e with e|e<;>rw[e]<;>trivial
    have eD:Touch (fun q=>dN (o q)) w wr:=p0.trans (hinv.o.2.ay.mono fun q ad e=>by
     obtain⟨a,b⟩:=t2 q e;rw[b]at e;exact Or.inl e)
    exact eD.setCell (p:=(aa (s.U) 6)) (Or.inl (by show dN (o s.U);rw[(aO.o.1.snap s cm.o.2.1).tag];trivial)) _
end Go.Proofs.YtiplgdkpnhamaaaGreatDoor
namespace Go.Proofs
open Go.Shelf
def Tryz.V5:Go.Shelf.Ren:=⟨fun|316=>103|n=>n,fun|9=>9|3=>3|4=>4|37=>135|0=>0|127=>229|5=>5|n=>n,fun|n=>n⟩
theorem Tryz.agy:Go.Proofs.LaysM.n316 prog Tryz.V5:={
 mixed:=by kernel_rfl
 f316:=func103.trans (congrArg some (by kernel_rfl))
 t0:=underlying0
 a0:=Tryz.isAgg0
 z0:=Tryz.sizeOf0
 v0:=Tryz.zeroValue0
 t3:=underlying3
 a3:=Tryz.isAgg3
 z3:=Tryz.sizeOf3
 v3:=Tryz.zeroValue3
 t4:=underlying4
 a4:=Tryz.isAgg4
 z4:=Tryz.sizeOf4
 v4:=Tryz.zeroValue4
 t9:=underlying9
 a9:=Tryz.isAgg9
 z9:=Tryz.sizeOf9
 v9:=Tryz.zeroValue9
 t37:=underlying135
 a37:=Tryz.isAgg135
 z37:=Tryz.sizeOf135
 v37:=Tryz.zeroValue135
 t127:=underlying229
 a127:=Tryz.isAgg229
 z127:=Tryz.sizeOf229
 v127:=Tryz.zeroValue229
 t5:=underlying5
 a5:=Tryz.isAgg5
 z5:=Tryz.sizeOf5
 v5:=Tryz.zeroValue5
 i0:=by kernel_rfl
 i3:=by kernel_rfl
 i4:=by kernel_rfl
 i5:=by kernel_rfl
 i9:=by kernel_rfl
 i37:=by kernel_rfl
 i127:=by kernel_rfl}
end Go.Proofs
namespace Go.Proofs.YtiplgdkpnhamaaaGreatDoor
open Go.Proofs.Tryz List
open Go.Lib
theorem abp:∀(l:List UInt8) (acc v:Nat) (c:UInt8),parseUint10 acc l= .ok v->48<=c.toNat->c.toNat<=57->v*10+(c.toNat-48)<18446744073709551616->parseUint10 acc (l++[c])= .ok (v*10+(c.toNat-48))
 |[],acc,v,c,h,aS,h1,ae=>by
  simp only[parseUint10,NumEnd.ok.injEq]at h;subst h;simp only[w1,parseUint10];rw[if_pos ⟨aS,h1⟩,if_neg (by omega),if_neg (by omega)]
 |d::l,acc,v,c,h,aS,h1,ae=>by
  simp only[yo,parseUint10]at h⊢;split at h
  ·rename_i a
   rw[if_pos a];split at h
   ·cases h
   ·rename_i b
    rw[if_neg b];split at h
    ·cases h
    ·rename_i e
     rw[if_neg e];exact abp l _ v c h aS h1 ae
  ·cases h
theorem DT {k:Nat}(h:k<10):(UInt8.ofNat (48+k)).toNat=48+k:=by
 rw[UInt8.toNat_ofNat'];omega
theorem Qf (u:Nat):∀c,c∈decDigits u->48<=c.toNat∧c.toNat<=57:=by
 induction u using Nat.strongRecOn with
 |_ u ih=>
  intro c aA;rw[decDigits]at aA;split at aA
  ·rename_i h
   rw[k4]at aA;rw[aA,DT h];omega
  ·rename_i h
   rcases hT.1 aA with a|a
   ·exact ih (u/10) (by omega) c a
   ·rw[k4]at a
    rw[a,DT (by omega)];omega
theorem Qg (u:Nat):decDigits u≠[]:=by
 rw[decDigits];split<;>simp
theorem Wo (u:Nat):u<18446744073709551616->parseUint10 0 (decDigits u)= .ok u:=by
 induction u using Nat.strongRecOn with
 |_ u ih=>
  intro hu;rw[decDigits];split
  ·rename_i h
   simp only[parseUint10,DT h];rw[if_pos (by omega),if_neg (by omega),if_neg (by omega)];congr 1;omega
  ·rename_i h
   have:=abp (decDigits (u/10)) 0 (u/10) (UInt8.ofNat (48+u%10)) (ih (u/10) (by omega) (by omega)) (by rw[DT (by omega)];omega) (by rw[DT (by omega)];omega) (by rw[DT (by omega)];omega);rw[this,DT (by omega)];congr 1;omega
theorem Nu (n:Int):∀c,c∈itoa n->c≠32:=by
 intro c aA e;subst e;unfold itoa at aA;split at aA
 ·rcases h3.1 aA with a|a
  ·exact absurd a (by decide)
  ·have:=Qf _ _ a;simp at this
 ·have:=Qf _ _ aA;simp at this
theorem VC (n:Int)(aS: -9223372036854775808<=n)(h1:n<=9223372036854775807):atoiAll (itoa n)= .ok n:=by
 unfold itoa;split
 ·rename_i h
  have hm:parseMag (decDigits n.natAbs)= .ok n.natAbs:=by
   unfold parseMag;rw[if_neg (Qg _),Wo _ (by omega)]
  simp only[atoiAll];have e:(45:UInt8).toNat=45:=by decide
  rw[if_pos (Or.inr e),hm];simp only;rw[if_neg (fun c=>c.1 e),if_neg (by omega),if_pos e];congr 1;omega
 ·rename_i h
  have hm:parseMag (decDigits n.toNat)= .ok n.toNat:=by
   unfold parseMag;rw[if_neg (Qg _),Wo _ (by omega)]
  have hs:=Qg n.toNat;have aB:=Qf n.toNat;generalize decDigits n.toNat=l at hm hs aB;cases l with
  |nil=>exact absurd rfl hs
  |cons c r=>
   have aA:=aB c (by simp);simp only[atoiAll];rw[if_neg (by omega),hm];simp only;rw[if_neg (by omega),if_neg (by omega),if_neg (by omega)];congr 1;omega
end Go.Proofs.YtiplgdkpnhamaaaGreatDoor
namespace Go.Proofs
open Go.Shelf
def Tryz.afE:Go.Shelf.Ren:=⟨fun|176=>194|249=>216|288=>236|283=>237|284=>238|285=>239|286=>240|129=>193|317=>261|318=>262|319=>263|320=>264|337=>271|338=>272|n=>n,fun|37=>135|2=>2|3=>3|53=>286|4=>4|9=>9|171=>325|0=>0|173=>327|212=>346|51=>284|5=>5|20=>20|213=>347|46=>247|232=>361|233=>362|n=>n,fun|17=>0|18=>4|19=>5|n=>n⟩
theorem Tryz.afD:Go.Proofs.LaysM.n176 prog Tryz.afE:={
 mixed:=by kernel_rfl
 f129:=func193.trans (congrArg some (by kernel_rfl))
 f176:=func194.trans (congrArg some (by kernel_rfl))
 f249:=func216.trans (congrArg some (by kernel_rfl))
 f283:=func237.trans (congrArg some (by kernel_rfl))
 f284:=func238.trans (congrArg some (by kernel_rfl))
 f285:=func239.trans (congrArg some (by kernel_rfl))
 f286:=func240.trans (congrArg some (by kernel_rfl))
 f288:=func236.trans (congrArg some (by kernel_rfl))
 f317:=func261.trans (congrArg some (by kernel_rfl))
 f318:=func262.trans (congrArg some (by kernel_rfl))
 f319:=func263.trans (congrArg some (by kernel_rfl))
 f320:=func264.trans (congrArg some (by kernel_rfl))
 f337:=func271.trans (congrArg some (by kernel_rfl))
 f338:=func272.trans (congrArg some (by kernel_rfl))
 t0:=underlying0
 a0:=Tryz.isAgg0
 z0:=Tryz.sizeOf0
 v0:=Tryz.zeroValue0
 t2:=underlying2
 a2:=Tryz.isAgg2
 z2:=Tryz.sizeOf2
 v2:=Tryz.zeroValue2
 t3:=underlying3
 a3:=Tryz.isAgg3
 z3:=Tryz.sizeOf3
 v3:=Tryz.zeroValue3
 t4:=underlying4
 a4:=Tryz.isAgg4
 z4:=Tryz.sizeOf4
 v4:=Tryz.zeroValue4
 t5:=underlying5
 a5:=Tryz.isAgg5
 z5:=Tryz.sizeOf5
 v5:=Tryz.zeroValue5
 t9:=underlying9
 a9:=Tryz.isAgg9
 z9:=Tryz.sizeOf9
 v9:=Tryz.zeroValue9
 t20:=underlying20
 a20:=Tryz.isAgg20
 z20:=Tryz.sizeOf20
 v20:=Tryz.zeroValue20
 t37:=underlying135
 a37:=Tryz.isAgg135
 z37:=Tryz.sizeOf135
 v37:=Tryz.zeroValue135
 t46:=underlying247
 a46:=Tryz.isAgg247
 z46:=Tryz.sizeOf247
 v46:=Tryz.zeroValue247
 t51:=underlying284
 a51:=Tryz.isAgg284
 z51:=Tryz.sizeOf284
 v51:=Tryz.zeroValue284
 t53:=underlying286
 a53:=Tryz.isAgg286
 z53:=Tryz.sizeOf286
 v53:=Tryz.zeroValue286
 t171:=underlying325
 a171:=Tryz.isAgg325
 z171:=Tryz.sizeOf325
 v171:=Tryz.zeroValue325
 t173:=underlying327
 a173:=Tryz.isAgg327
 z173:=Tryz.sizeOf327
 v173:=Tryz.zeroValue327
 t212:=underlying346
 a212:=Tryz.isAgg346
 z212:=Tryz.sizeOf346
 v212:=Tryz.zeroValue346
 t213:=underlying347
 a213:=Tryz.isAgg347
 z213:=Tryz.sizeOf347
 t232:=underlying361
 a232:=Tryz.isAgg361
 z232:=Tryz.sizeOf361
 v232:=Tryz.zeroValue361
 t233:=underlying362
 a233:=Tryz.isAgg362
 z233:=Tryz.sizeOf362
 v233:=Tryz.zeroValue362
 g17:=by kernel_rfl
 g18:=by kernel_rfl
 g19:=by kernel_rfl
 i0:=by kernel_rfl
 i2:=by kernel_rfl
 i3:=by kernel_rfl
 i4:=by kernel_rfl
 i5:=by kernel_rfl
 i9:=by kernel_rfl
 i20:=by kernel_rfl
 i37:=by kernel_rfl
 i46:=by kernel_rfl
 i51:=by kernel_rfl
 i53:=by kernel_rfl
 i171:=by kernel_rfl
 i173:=by kernel_rfl
 i212:=by kernel_rfl
 i232:=by kernel_rfl
 i233:=by kernel_rfl
 m17:=by kernel_rfl
 m18:=by kernel_rfl
 m19:=by kernel_rfl}
end Go.Proofs
namespace Go.Proofs.YtiplgdkpnhamaaaGreatDoor
open Go.Proofs.Tryz List
open Go.RowKit
variable {B k n aE size u aj:Nat}{cs av aY op xs:List Value}{e:TypeId}{i:Int}{l:List Int}{sv v:Value}{w w':World}
theorem F2 (s:ByteArray)(hs:s.size<=1000)(w:World):Calls prog 63 #[ai s] w (bx (ai s) fun w'=>ax w w'):=by
 have h:=fun W=>Any.stringslite_Clone (P:=prog) (ρ:=Tryz.V5) Tryz.agy s W (by omega)
 change∀W,Calls prog 103 _ W _ at h;have H:=J h;clear h;go_enter func63,ntmps63;go_wp2_with(go_at_call 103;refine(H.o _).mono ?_;rintro e an ⟨rfl,ao⟩)
 go_ret;exact⟨rfl,ao⟩
def nH (i n:Int)(aE:Nat)(av aY op:List Value):List Value:=[I i,I n,bl aE]++av++aY++op
theorem Od {n:Int}(h1:av.length=5)(ae:aY.length=25)(k:Nat):(nH i n aE av aY op)[33+k]?=op[k]?:=by
 unfold nH;rw[yq (by simp;omega)];congr 1;simp;omega
theorem KE {n:Int}(h1:av.length=5)(k:Nat)(hk:k<5):(nH i n aE av aY op)[3+k]?=av[k]?:=by
 unfold nH;rw[w7 (by simp;omega),w7 (by simp;omega),yq (by simp)];congr 1;simp
theorem ahR (w:World)(b:Nat)(k:Int)(hk:k<0∨6<=k):
  Calls prog 60 #[bl b,I k] w (bx (.pointer none) fun w'=>w'=w):=by
 by_cases aS:k<0
 ·go_enter func60,ntmps60
  go_wp2_with fail
  go_ret;exact⟨rfl,rfl⟩
 ·have ep:6<=k:=by omega
  clear hk;go_enter func60,ntmps60;go_wp2_with fail
  go_ret;exact⟨rfl,rfl⟩
theorem WX (w:World)(b k:Nat)(v:Value)(hk:k<6)(aA:eh w b (33+k) v):
  Calls prog 60 #[bl b,I k] w (bx v fun w'=>w'=w):=by
 have aC:=hU w _ aA;have aP:¬(k:Int)<0:=by omega
 have ba:¬(6:Int)<=(k:Int):=by omega
 go_enter func60,ntmps60;go_wp2_with fail
 go_ret;exact⟨rfl,rfl⟩
theorem Sg:(prog.info? 5).map (fun i=>(i.zero,i.size,i.bytes))=some (some (.int .u8 0),1,1):=by kernel_rfl
abbrev DI (B:Nat)(w:World):Prop:=Lib.TabBelow prog B w "internal/strconv.uint64pow10" .u64 Lib.pow10Tab
structure LS (B:Nat)(w:World)(aj n:Nat)(xs:List UInt8)(sv:Value):Prop where
 U:aQ w aj [I n,sv] 193
 ao:B<=aj
 own:w.ownsRow B 5 1 sv xs.length (Lib.byteCells xs)
def j8 (B:Nat)(w:World)(aj n:Nat)(xs:List UInt8):Prop:=∃sv,LS B w aj n xs sv
def ec (k:Int):List UInt8:=Lib.itoa k++[32]
abbrev nO (aj:Nat)(w w':World):Prop:=Lib.OthersKept 5 (some aj) w w'
theorem NW (h:w.ownsRow B 5 1 v n xs):∀g,v.ownBlock=some g->∃c hW,w.heap[g]?=some (.cells c 5 hW):=by
 rcases h.2 with⟨e,-⟩|⟨g,cap,cur,rfl,-,aM,-⟩
 ·rw[e];intro g aM;simp[Value.ownBlock]at aM
 ·intro oS vh
  have:g=oS:=by simpa[Value.ownBlock]using vh
  subst this;exact⟨_,_,aM⟩
theorem pL (h:w.ownsRow B e size v n xs)(hm:∀g,v.ownBlock=some g->w'.heap[g]?=w.heap[g]?):w'.ownsRow B e size v n xs:=by
 obtain⟨h1,ae⟩:=h;refine⟨h1,?_⟩;rcases ae with a|⟨g,cap,cur,rfl,cO,a2,a3⟩
 ·exact Or.inl a
 ·exact Or.inr ⟨g,cap,cur,rfl,cO,(hm g rfl).trans a2,a3⟩
theorem A2 (h:w.ownsRow B e size v n xs):∃a l k,v= .slice a l k:=by
 rcases h.2 with⟨e,-⟩|⟨g,cap,cur,rfl,-⟩
 ·exact⟨_,_,_,e⟩
 ·exact⟨_,_,_,rfl⟩
theorem NV {m:Nat}(hb:aQ w aj cs 193)(h:w.ownsRow B 5 1 sv m xs):sv.ownBlock≠some aj:=by
 rcases h.2 with⟨e,-⟩|⟨g,cap,cur,rfl,-,aM,-⟩
 ·rw[e];simp[Value.ownBlock]
 ·intro e
  have:g=aj:=by simpa[Value.ownBlock]using e
  subst this;rw[aQ,aM]at hb;injection hb with hb
  injection hb with _ hb
  exact absurd hb (by decide)
theorem LS.put {w2:World}{xs bb:List UInt8}{v2:Value}(h:LS B w aj n xs sv)(dd:w2.ownsRow B 5 1 v2 bb.length (Lib.byteCells bb))(hb:w2.heap[aj]?=w.heap[aj]?):
  LS B (w2.setCell (aa aj 1) v2) aj n bb v2:=by
 have e6:=h.U.move hb;refine⟨e6.set 1 v2,h.ao,pL dd fun g aM=>rb _ _ _ _ fun e=>?_⟩;exact NV e6 dd (by rw[aM];exact congrArg some e)
theorem Uj (B:Nat)(w:World)(aj n:Nat)(xs:List UInt8)(c:UInt8)(h:j8 B w aj n xs)(aC:xs.length<=100000000000):
  Calls prog 156 #[bl aj,.int .u8 c.toNat] w (bx (.tuple #[]) fun w'=>j8 B w' aj n (xs++[c])∧Below B w w'∧nO aj w w'):=by
 obtain⟨sv,h⟩:=h;obtain⟨i0,aq,dC,dM,dK⟩:=iV Sg;have c1:=h.U.c1;have f1:=h.U.frozen 1;have br:=h.U.lt;have aO:=J h;clear h;go_enter func156,ntmps156;go_wp2_with(at_builtin;refine yw _ rfl _ _ 135 rfl B 5 i0 (.int .u8 0) 1 1 underlying135 aq dC dM dK rfl (by decide) _ _ _ rfl (aO.o.own.alloc _) (aa (w.heap.size) 0) 1 1 [Value.int .u8 c.toNat] rfl rfl (by intro j gD af;match j,af with|0,af=>simp at af;subst af;simp[Addr.add]) (by intro gD iS;simp at iS;subst iS;rfl) (by unfold maxLen;omega) (by omega) (by have:=aO.o.ao;simp;omega) ?_)
 intro v2 w2 fm ka bS;have gB:w2.heap[aj]?=w.heap[aj]?:=(ka.block aj (by simp;omega) (fun e=>NV aO.o.U aO.o.own e.symm)).trans (iW w _ aj br);have bP:Below B w w2:=((Hz B w).alloc (by have:=aO.o.ao;omega) _).grown ka (by have:=aO.o.ao;simp;omega) (fun k hk=>(aO.o.own.lt k hk).1);have B7:nO aj w w2:=((Lib.OthersKept.refl _ _ w).alloc _).grown ka (NW (aO.o.own.alloc _));have aP:xs.length+1=(xs++[c]).length:=by simp
 have ba:Lib.byteCells xs++[Value.int .u8 c.toNat]=Lib.byteCells (xs++[c]):=by simp[Lib.byteCells]
 rw[aP,ba]at fm;obtain⟨a2,dY,dq,rfl⟩:=A2 fm;have cp:=J (aO.o.put fm gB);have f2:w2.frozen? (aa aj 1)=false:=(World.frozen?_of_block (w:=w) gB).trans f1;have c2:eh w2 aj 1 sv:=(xc (w:=w) gB).trans c1;have bO:=J (bP.setCell (p:=(aa aj 1)) aO.o.ao (.slice a2 dY dq));have cD:=J (B7.setCell (aa aj 1) rfl (.slice a2 dY dq));clear fm ka bS gB bP B7 aP ba c1 f1;go_wp2_with fail
 go_end0;exact⟨rfl,⟨_,cp.o⟩,bO.o,cD.o⟩
theorem afF (B n:Nat)(i:Int)(aS: -9223372036854775808<=i)(h1:i<=9223372036854775807)(sv:Value)(xs:List Value)(w:World)(dd:w.ownsRow B 5 1 sv n xs)(sf:B<=w.heap.size)(ajT:n+21<=140737488355328)(oI:DI B w):
  Calls prog 194 #[sv,I i,I 10] w fun e w'=>∃v',e= .returned v'∧w'.ownsRow B 5 1 v' (n+(Lib.itoa i).length) (xs++Lib.byteCells (Lib.itoa i))∧Below B w w'∧Lib.OthersKept 5 none w w':=
 Any.strconv_AppendInt_10 Tryz.afD B n i aS h1 sv xs w dd sf ajT oI
theorem Hr (B:Nat)(w:World)(aj n:Nat)(xs:List UInt8)(k:Int)(h:j8 B w aj n xs)(aC:xs.length<=100000000000)(aS: -9223372036854775808<=k)(h1:k<=9223372036854775807)(oI:DI B w):
  Calls prog 157 #[bl aj,I k] w (bx (.tuple #[]) fun w'=>j8 B w' aj n (xs++ec k)∧Below B w w'∧nO aj w w'):=by
 obtain⟨sv,h⟩:=h;obtain⟨i0,aq,dC,dM,dK⟩:=iV Sg;have c1:=h.U.c1;have f1:=h.U.frozen 1;have br:=h.U.lt;have pG:=Lib.itoa_length_le k aS h1;obtain⟨a0,pF,ek,rfl⟩:=A2 h.own;have aO:=J h;have cM:=J (afF B xs.length k aS h1 _ _ w h.own (by have:=h.ao;omega) (by omega) oI);clear h;go_enter func157,ntmps157;go_wp2_with(go_at_call 194;refine cM.o.mono ?_;rintro e an ⟨v1,rfl,hc,JG,RA⟩;refine gE ?_)
 refine Lib.hid ?_;have Rm:an.heap[aj]?=w.heap[aj]?:=(RA aj _ aO.o.U (by simp) (fun c hW e=>by injection e with _ e;exact absurd e (by decide))).trans aO.o.U.symm;have eA:=aO.o.U.move Rm;have ajU:=eA.lt;obtain⟨cO,eF,cI,rfl⟩:=A2 hc;have Du:=J hc;have Vf:=J JG;have HO:=J Rm;have U6:Hid (nO aj w an):=fun k o a _ b=>RA k o a (by simp) b
 have dF:=J eA;clear hc JG RA Rm eA cM;go_wp2_with(at_builtin;refine yw _ rfl _ _ 135 rfl B 5 i0 (.int .u8 0) 1 1 underlying135 aq dC dM dK rfl (by decide) _ _ _ rfl (Du.o.alloc _) (aa (an.heap.size) 0) 1 1 [Value.int .u8 32] rfl rfl (by intro j gD af;match j,af with|0,af=>simp at af;subst af;simp[Addr.add]) (by intro gD iS;simp at iS;subst iS;rfl) (by unfold maxLen;omega) (by omega) (by have:=aO.o.ao;simp;omega) ?_)
 intro v2 w2 fm ka bS;have gB:w2.heap[aj]?=w.heap[aj]?:=((ka.block aj (by simp;omega) (fun e=>NV dF.o Du.o e.symm)).trans (iW an _ aj ajU)).trans HO.o;have bP:Below B w w2:=(Vf.o.alloc (by have:=aO.o.ao;omega) _).grown ka (by have:=aO.o.ao;simp;omega) (fun k hk=>(Du.o.lt k hk).1);have B7:nO aj w w2:=(U6.o.alloc _).grown ka (NW (Du.o.alloc _));have aP:xs.length+(Lib.itoa k).length+1=(xs++ec k).length:=by simp[ec];omega
 have ba:Lib.byteCells xs++(Lib.byteCells (Lib.itoa k)++[Value.int .u8 32])=Lib.byteCells (xs++ec k):=by simp[Lib.byteCells,ec]
 rw[aP,ba]at fm;obtain⟨a2,dY,dq,rfl⟩:=A2 fm;have cp:=J (aO.o.put fm gB);have f2:w2.frozen? (aa aj 1)=false:=(World.frozen?_of_block (w:=w) gB).trans f1;have c2:eh w2 aj 1 (.slice a0 pF ek):=(xc (w:=w) gB).trans c1;have bO:=J (bP.setCell (p:=(aa aj 1)) aO.o.ao (.slice a2 dY dq));have cD:=J (B7.setCell (aa aj 1) rfl (.slice a2 dY dq));clear fm ka bS gB bP B7 aP ba c1 f1 Du Vf HO dF U6;go_wp2_with fail
 go_end0;exact⟨rfl,⟨_,cp.o⟩,bO.o,cD.o⟩
def gx (s:ByteArray):List UInt8:=ec s.size++s.data.toList
theorem OP (B:Nat)(w:World)(aj n:Nat)(xs:List UInt8)(s:ByteArray)(h:j8 B w aj n xs)(aC:xs.length<=90000000000)(hs:s.size<=1000000)(oI:DI B w):
  Calls prog 204 #[bl aj,ai s] w (bx (.tuple #[]) fun w'=>j8 B w' aj n (xs++gx s)∧Below B w w'∧nO aj w w'):=by
 have cM:=J (Hr B w aj n xs s.size h (by omega) (by omega) (by omega) oI);obtain⟨i0,aq,dC,dM,dK⟩:=iV Sg;clear h oI;go_enter func204,ntmps204;go_wp2_with(go_at_call 157;refine cM.o.mono ?_;rintro e an ⟨rfl,GJ,JG,l9⟩;refine gE ?_)
 refine Lib.hid ?_;obtain⟨sv,h⟩:=GJ;have ij:(xs++ec s.size).length<=100000000000:=by
  have:=Lib.itoa_length_le s.size (by omega) (by omega);simp[ec];omega
 obtain⟨a0,pF,ek,rfl⟩:=A2 h.own;have c1:=h.U.c1;have f1:=h.U.frozen 1;have br:=h.U.lt;have aO:=J h;have cm:=J JG;have fs:=J l9;clear h JG l9 cM;go_wp2_with(at_builtin;refine Lib.wpList_append_own_string an rfl _ _ 135 9 rfl B 5 i0 underlying135 underlying9 aq dC dM dK _ _ _ rfl aO.o.own s rfl (by unfold maxLen;omega) (by omega) (by have:=aO.o.ao;omega) ?_)
 intro v2 w2 fm ka bS;have gB:=ka.block aj br (fun e=>NV aO.o.U aO.o.own e.symm);have bP:Below B w w2:=cm.o.grown ka (by have:=aO.o.ao;omega) (fun k hk=>(aO.o.own.lt k hk).1);have B7:=fs.o.grown ka (NW aO.o.own);have aP:xs.length+(ec s.size).length+s.size=(xs++gx s).length:=by simp[gx];omega
 have ba:Lib.byteCells (xs++ec s.size)++Lib.strCells s=Lib.byteCells (xs++gx s):=by simp[Lib.byteCells,gx,Lib.strCells]
 rw[aP,ba]at fm;obtain⟨a2,dY,dq,rfl⟩:=A2 fm;have cp:=J (aO.o.put fm gB);have f2:w2.frozen? (aa aj 1)=false:=(World.frozen?_of_block (w:=an) gB).trans f1;have c2:eh w2 aj 1 (.slice a0 pF ek):=(xc (w:=an) gB).trans c1;have bO:=J (bP.setCell (p:=(aa aj 1)) aO.o.ao (.slice a2 dY dq));have cD:=J (B7.setCell (aa aj 1) rfl (.slice a2 dY dq));clear fm ka bS gB bP B7 aP ba c1 f1;go_wp2_with fail
 go_end0;exact⟨rfl,⟨_,cp.o⟩,bO.o,cD.o⟩
def eZ (l:List Int):List UInt8:=l.flatMap ec
theorem qi {k:Int}(aS: -9223372036854775808<=k)(h1:k<=9223372036854775807):(ec k).length<=22:=by
 have:=Lib.itoa_length_le k aS h1;simp[ec];omega
theorem T7:∀(l:List Int),(∀k,k∈l-> -9223372036854775808<=k∧k<=9223372036854775807)->(eZ l).length<=22*l.length
 |[],_=>by simp[eZ]
 |a::l,h=>by
  have h1:=T7 l fun k hk=>h k (by simp[hk])
  have ae:=qi (h a (by simp)).1 (h a (by simp)).2;simp only[eZ,kf,eN,lP]at h1⊢;omega
theorem yh (h:∀k,k∈l-> -9223372036854775808<=k∧k<=9223372036854775807)(hk:k<=5):(eZ (l.take k)).length<=110:=by
 have h1:=T7 (l.take k) fun x au=>h x (Fg au)
 have ae:(l.take k).length<=k:=by simp;omega
 omega
theorem adh (hk:k<l.length):eZ (l.take (k+1))=eZ (l.take k)++ec l[k]:=by
 unfold eZ;rw[kr hk,r3,kf,Bl,qu]
theorem Uk (B:Nat)(w:World)(aj n:Nat)(xs:List UInt8)(v:aW)(h:j8 B w aj n xs)(hn:n<=5)(aC:xs.length<=90000000000)(av:∀k,k∈v.list-> -9223372036854775808<=k∧k<=9223372036854775807)(oI:DI B w):
  Calls prog 119 #[bl aj,.agg #[I v.a,I v.b,I v.c,I v.d,I v.e]] w (bx (.tuple #[]) fun w'=>j8 B w' aj n (xs++eZ (v.list.take n))∧Below B w w'∧nO aj w w'):=by
 obtain⟨sv,h⟩:=h;have c0:=h.U.c0;have br:=h.U.lt;have aO:=J h;have g1:¬(n:Int)<0:=by omega
 have g2:(n:Int)<=5:=by omega
 have g3:¬(5:Int)<n:=by omega
 clear h;go_enter func119,ntmps119;go_wp2_with fail
 generalize dE:w.alloc (.cells #[I v.a,I v.b,I v.c,I v.d,I v.e] 104)=bR;have aF:ax w bR:=by rw[<-dE];exact cj _ _
 have bT:aQ bR w.heap.size v.cells 104:=by rw[<-dE];exact cC w _
 have e7:nO aj w bR:=by rw[<-dE];exact(Lib.OthersKept.refl _ _ w).alloc _
 have jm:j8 B bR aj n xs:=⟨sv,aO.o.U.below aF,aO.o.ao,pL aO.o.own fun g aM=>aF.block g (aO.o.own.lt g aM).2⟩;have dF:Hid (Below B w bR):=aF.mono (by have:=aO.o.ao;omega);have bc:Hid (j8 B bR aj n xs∧aQ bR w.heap.size v.cells 104∧nO aj w bR):=⟨jm,bT,e7⟩;have ar6:B<=w.heap.size:=by have:=aO.o.ao;omega
 clear aF bT e7 jm dE c0;go_loopw[5,12] (fun _ i wr=>∃k:Nat,k<=n∧i=I k∧Hid (j8 B wr aj n (xs++eZ (v.list.take k))∧Below B w wr∧aQ wr w.heap.size v.cells 104∧nO aj w wr)) (fun _ i _=>n-(intOf i).toNat)
 case atStart=>exact⟨0,ch,rfl,by simpa[eZ]using bc.o.1,dF.o,bc.o.2.1,bc.o.2.2⟩
 case round=>
  clear bc dF aO;obtain⟨k,hk,rfl,aL⟩:=hrel;by_cases asP:k<n
  ·have kT:k<v.list.length:=by simp[aW.list];omega
   have b4:wr.cell? (aa (w.heap.size) k)=some (I v.list[k]):=by
    rw[aL.o.2.2.1.cell k];simp only[aW.list]at kT⊢;simp only[lP,w3]at kT;have:k=0∨k=1∨k=2∨k=3∨k=4:=by omega
    rcases this with rfl|rfl|rfl|rfl|rfl<;>rfl
   have n0:(xs++eZ (v.list.take k)).length<=100000000000:=by
    have:=yh av (k:=k) (by omega);rw[eN];omega
   have fa:=Hr B wr aj n _ v.list[k] aL.o.1 n0 (av _ (eT kT)).1 (av _ (eT kT)).2 (oI.on aL.o.2.1);rw[mN,<-adh kT]at fa;have cp:=J fa;clear fa n0;generalize v.list[k]=x at*;go_wp2_with(go_at_call 157;refine cp.o.mono ?_;rintro e w2 ⟨rfl,GK,e6,jW⟩;have bc:Hid (j8 B w2 aj n (xs++eZ (v.list.take (k+1)))∧Below B w w2∧aQ w2 w.heap.size v.cells 104∧nO aj w w2):=⟨GK,aL.o.2.1.trans e6,jW _ _ aL.o.2.2.1 (by simp;omega) (fun c hW e=>by injection e with _ e;exact absurd e (by decide)),aL.o.2.2.2.trans jW⟩;clear GK e6 jW)
   exact⟨⟨k+1,by omega,by go_num,bc.o⟩,by simp[intOf];omega⟩
  ·have iA:k=n:=by omega
   subst iA;go_wp2_with fail
   go_end0;exact⟨rfl,aL.o.1,aL.o.2.1,aL.o.2.2.2⟩
def iH (letter:UInt8)(n i:Nat)(l:List Int):List UInt8:=letter::(ec n++(ec i++eZ l))
abbrev lJ (i:Nat)(v:aW):Value:= .agg #[I i,I v.a,I v.b,I v.c,I v.d,I v.e]
theorem j8.later {xs:List UInt8}(h:j8 B w aj n xs)(hb:ax w w'):j8 B w' aj n xs:=by
 obtain⟨sv,h⟩:=h;exact⟨sv,h.U.below hb,h.ao,pL h.own fun g aM=>hb.block g (h.own.lt g aM).2⟩
theorem j8.ao {xs:List UInt8}(h:j8 B w aj n xs):B<=aj∧aj<w.heap.size∧w.cell? (aa aj 0)=some (I n):=by
 obtain⟨sv,h⟩:=h;exact⟨h.ao,h.U.lt,h.U.cell 0⟩
theorem nO.U (h:nO aj w w'){b:Nat}{t:TypeId}(hb:aQ w b cs t)(bS:b≠aj)(al:t≠5):aQ w' b cs t:=
 h b _ hb (by simpa using bS) (fun c hW e=>by injection e with _ e;exact al e)
structure rv (B:Nat)(cr:World)(aj n:Nat)(xs:List UInt8)(w:World):Prop where
 wr:j8 B w aj n xs
 cZ:Below B cr w
 AV:nO aj cr w
theorem rv.step {B:Nat}{cr w w':World}{aj n:Nat}{xs bb:List UInt8}(h:rv B cr aj n xs w)(k:j8 B w' aj n bb∧Below B w w'∧nO aj w w'):rv B cr aj n bb w':=⟨k.1,h.cZ.trans k.2.1,h.AV.trans k.2.2⟩
theorem rv.start {xs:List UInt8}(h:j8 B w aj n xs)(o:Obj):rv B w aj n xs (w.alloc o):=
 ⟨h.later ((cj _ _)),(Hz B w).alloc (by have:=h.ao;omega) _,(Lib.OthersKept.refl _ _ w).alloc _⟩
theorem adB (B:Nat)(w:World)(aj n i:Nat)(xs:List UInt8)(c:UInt8)(v:aW)(h:j8 B w aj n xs)(hn:n<=5)(aq:i<=5)(aC:xs.length<=80000000000)(av:∀k,k∈v.list-> -9223372036854775808<=k∧k<=9223372036854775807)(oI:DI B w):
  Calls prog 113 #[bl aj,.int .u8 c.toNat,lJ i v] w (bx (.tuple #[]) fun w'=>j8 B w' aj n (xs++iH c n i (v.list.take n))∧Below B w w'∧nO aj w w'):=by
 generalize dE:w.alloc (.cells #[I i,I v.a,I v.b,I v.c,I v.d,I v.e] 144)=bR;have bT:aQ bR w.heap.size [I i,I v.a,I v.b,I v.c,I v.d,I v.e] 144:=by rw[<-dE];exact cC w _
 have H1:Hid (rv B w aj n xs bR):=by rw[<-dE];exact rv.start h _
 have bS:w.heap.size≠aj:=by have:=h.ao;omega
 have dF:=J bT;have ic:=J dE;have dn:=J (Uj B bR aj n xs c H1.o.wr (by omega));clear h bT dE;go_enter func113,ntmps113;go_wp2_with(go_at_call 156;rw[ic.o];refine dn.o.mono ?_;rintro e w2 ⟨rfl,aw⟩;refine gE ?_)
 refine Lib.hid ?_;have bu:=J (H1.o.step aw);have dG:=J (aw.2.2.U dF.o bS (by decide));have Lt:=J (Hr B w2 aj n _ n bu.o.wr (by simp;omega) (by omega) (by omega) (oI.on bu.o.cZ));have c2:=bu.o.wr.ao.2.2;clear aw dn H1 dF ic;go_wp2_with(go_at_call 157;refine Lt.o.mono ?_;rintro e bN ⟨rfl,aw⟩;refine gE ?_)
 refine Lib.hid ?_;have ck:=J (bu.o.step aw);have jG:=J (aw.2.2.U dG.o bS (by decide));have pa:(ec n).length<=22:=qi (by omega) (by omega);have li:(ec i).length<=22:=qi (by omega) (by omega);have UY:=J (Hr B bN aj n _ i ck.o.wr (by simp only[eN,lP,w3];omega) (by omega) (by omega) (oI.on ck.o.cZ));have c3:=jG.o.c0;clear aw Lt bu dG c2;go_wp2_with(go_at_call 157;refine UY.o.mono ?_;rintro e cc ⟨rfl,aw⟩;refine gE ?_)
 refine Lib.hid ?_;have cd:=J (ck.o.step aw);have kM:=J (aw.2.2.U jG.o bS (by decide));have aep:=J (Uk B cc aj n _ v cd.o.wr hn (by simp only[eN,lP,w3];omega) av (oI.on cd.o.cZ));have d1:=kM.o.c1;have d2:=kM.o.c2;have d3:=kM.o.c3;have d4:=kM.o.c4;have d5:=kM.o.c5;clear aw UY ck jG c3;go_wp2_with(go_at_call 119;refine aep.o.mono ?_;rintro e w5 ⟨rfl,aw⟩;have cR:=J (cd.o.step aw);clear aw)
 go_end0;have e:xs++[c]++ec n++ec i++eZ (v.list.take n)=xs++iH c n i (v.list.take n):=by simp[iH]
 exact⟨rfl,by rw[<-e];exact cR.o.wr,cR.o.cZ,cR.o.AV⟩
theorem ap6 (w:World)(h:eh w 5 15 (.int .u8 4)):
  Calls prog 272 #[.int .u64 16] w (bx (I 4) fun w'=>w'=w):=by
 have aP:bits BinOp.and IntKind.u64 16 (IntKind.u64.wrap (-16))=16:=by kernel_rfl
 have ba:IntKind.u64.wrap (16*285870213051353865)/288230376151711744=15:=by kernel_rfl
 go_enter func272,ntmps272;go_wp2_with fail
 go_ret;exact⟨rfl,rfl⟩
theorem ap5 (w:World)(h:eh w 5 15 (.int .u8 4)):
  Calls prog 264 #[.int .u64 16] w (bx (I 4) fun w'=>w'=w):=by
 have dA:=J (ap6 w h);go_enter func264,ntmps264;go_wp2_with(go_at_call 272;refine dA.o.mono ?_;rintro e an ⟨rfl,rfl⟩)
 go_ret;exact⟨rfl,rfl⟩
theorem ano (w:World):Calls prog 263 #[I 16] w (bx (.bool true) fun w'=>w'=w):=by
 have aP:bits BinOp.and IntKind.i64 16 15=0:=by kernel_rfl
 go_enter func263,ntmps263;go_wp2_with fail
 go_ret;exact⟨rfl,rfl⟩
def wo (d:Nat):UInt8:=UInt8.ofNat (if d<10 then 48+d else 87+d)
def yZ:Nat->Nat->List UInt8->List UInt8
 |0,u,acc=>wo u::acc
 |f+1,u,acc=>if u<16 then wo u::acc else yZ f (u/16) (wo (u%16)::acc)
def vf (u:Nat):List UInt8:=yZ 16 u []
theorem ajk (h:u<16):∀f acc,yZ f u acc=wo u::acc
 |0,_=>rfl
 |f+1,acc=>by simp only[yZ];rw[if_pos h]
theorem afq (u:Nat)(h:u<18446744073709551616):bits .and .u64 (u:Int) 15=((u%16:Nat):Int):=by
 have:=bits_and_u64_nat u 15 h (by omega);rw[show((15:Nat):Int)=15 from rfl]at this;rw[this,show(15:Nat)=2^4-1 from rfl,Nat.and_two_pow_sub_one_eq_mod]
theorem aq7:Tryz.zeroCells347=(replicate 65 (Value.int .u8 0)).toArray:=by kernel_rfl
theorem abC (j:Nat)(acc:List UInt8)(d:UInt8):(replicate (j+1) (Value.int .u8 0)++Lib.byteCells acc).set j (.int .u8 d.toNat)=replicate j (Value.int .u8 0)++Lib.byteCells (d::acc):=by
 rw[Fk,mN,set_append_right _ _ (by simp)];simp[Lib.byteCells]
theorem anr (h:u<16^(16-k))(nt:16<=u)(hk:k<=15):k+1<=15∧u/16<16^(16-(k+1)):=by
 have h1:k+1<=15:=by
  by_cases c:k=15
  ·subst c;simp at h;omega
  ·omega
 refine⟨h1,?_⟩;have e:16-k=(16-(k+1))+1:=by omega
 rw[e,Nat.pow_succ]at h;exact Nat.div_lt_of_lt_mul (by rw[Nat.mul_comm];exact h)
theorem af8 (w:World)(u:Nat)(hu:u<18446744073709551616)(h:eh w 5 15 (.int .u8 4)):
  Calls prog 240 #[.slice none 0 0,.int .u64 u,I 16,.bool false,.bool false] w (bx (.tuple #[.slice none 0 0,ai ⟨(vf u).toArray⟩]) fun w'=>ax w w'):=by
 have br:=hU w _ h;have e5:(w.alloc (Obj.cells Tryz.zeroCells347 347)).cell? (aa 5 15)=some (.int .u8 4):=by rw[xb _ _ _ br];exact h
 have dp:=J (ano (w.alloc (Obj.cells Tryz.zeroCells347 347)));have dA:=J (ap5 (w.alloc (Obj.cells Tryz.zeroCells347 347)) e5);clear h e5 br;go_enter func240,ntmps240;go_wp2_with(first|(go_at_call 263;refine dp.o.mono ?_;rintro e an ⟨rfl,rfl⟩)|(go_at_call 264;refine dA.o.mono ?_;rintro e an ⟨rfl,rfl⟩))
 generalize dE:w.alloc (Obj.cells Tryz.zeroCells347 347)=bR;have dF:Hid (ax w bR):=by rw[<-dE];exact cj _ _
 have HO:Hid (aQ bR w.heap.size (replicate 65 (Value.int .u8 0)) 347):=by rw[<-dE,aq7];exact cC w _
 clear dE dp dA;go_loopw[1,13] (fun KV ii wr=>∃(j gD:Nat) (acc:List UInt8),ii=I j∧KV= .int .u64 gD∧j+acc.length=65∧acc.length<=15∧gD<18446744073709551616∧Hid (gD<16^(16-acc.length)∧yZ (16-acc.length) gD acc=vf u∧aQ wr w.heap.size (replicate j (Value.int .u8 0)++Lib.byteCells acc) 347∧ax w wr)) (fun KV _ _=>(intOf KV).toNat)
 case atStart=>exact⟨65,u,[],rfl,rfl,rfl,by simp,hu,by simpa using hu,rfl,by simpa[Lib.byteCells]using HO.o,dF.o⟩
 case round=>
  clear dF HO hu;obtain⟨j,gD,acc,rfl,rfl,af,aU,iS,aL⟩:=hrel;by_cases nt:16<=gD
  ·obtain⟨q1,dy⟩:=anr aL.o.1 nt aU
   obtain⟨iu,rfl⟩:∃iu,j=iu+1:=⟨j-1,by omega⟩;have aB:=afq gD iS;have cp:Hid (yZ (16-(acc.length+1)) (gD/16) (wo (gD%16)::acc)=vf u):=by
    have e:=aL.o.2.1;rw[show 16-acc.length=(16-(acc.length+1))+1 by omega]at e;simp only[yZ]at e;rw[if_neg (by omega)]at e;exact e
   have fs:=J dy;have asj:gD%16<16:=by omega
   generalize gD%16=pw at*;have c0:wr.cell? (aa (w.heap.size) iu)=some (.int .u8 0):=by
    rw[aL.o.2.2.1.cell iu,w7 (by simp)];simp
   have f0:=aL.o.2.2.1.frozen iu;have key:∀x:UInt8,x=wo pw->aQ (wr.setCell (aa (w.heap.size) iu) (.int .u8 x.toNat)) w.heap.size (replicate iu (Value.int .u8 0)++Lib.byteCells (wo pw::acc)) 347∧ax w (wr.setCell (aa (w.heap.size) iu) (.int .u8 x.toNat)):=by
    rintro x rfl;refine⟨?_,aL.o.2.2.2.setCell (p:=(aa (w.heap.size) iu)) cv _⟩;rw[<-abC];exact aL.o.2.2.1.set iu _
   have Lp:=J key;clear key;go_wp2_with fail
   refine⟨⟨iu,gD/16,wo pw::acc,rfl,by go_num,by simp;omega,by simpa using q1,by omega,by simpa using fs.o,by simpa using cp.o,Lp.o _ ?_⟩,by simp[intOf];omega⟩;have:pw=0∨pw=1∨pw=2∨pw=3∨pw=4∨pw=5∨pw=6∨pw=7∨pw=8∨pw=9∨pw=10∨pw=11∨pw=12∨pw=13∨pw=14∨pw=15:=by omega
   rcases this with rfl|rfl|rfl|rfl|rfl|rfl|rfl|rfl|rfl|rfl|rfl|rfl|rfl|rfl|rfl|rfl<;>rfl
  ·have aiC:gD<16:=by omega
   have bX:Hid (wo gD::acc=vf u):=by
    rw[<-ajk aiC (16-acc.length) acc];exact aL.o.2.1
   obtain⟨iu,rfl⟩:∃iu,j=iu+1:=⟨j-1,by omega⟩;have c0:wr.cell? (aa (w.heap.size) iu)=some (.int .u8 0):=by
    rw[aL.o.2.2.1.cell iu,w7 (by simp)];simp
   have f0:=aL.o.2.2.1.frozen iu;have key:∀x:UInt8,x=wo gD->aQ (wr.setCell (aa (w.heap.size) iu) (.int .u8 x.toNat)) w.heap.size (replicate iu (Value.int .u8 0)++Lib.byteCells (vf u)) 347∧ax w (wr.setCell (aa (w.heap.size) iu) (.int .u8 x.toNat)):=by
    rintro x rfl;refine⟨?_,aL.o.2.2.2.setCell (p:=(aa (w.heap.size) iu)) cv _⟩;rw[<-bX.o,<-abC];exact aL.o.2.2.1.set iu _
   have hlen:(vf u).length=65-iu:=by rw[<-bX.o];simp;omega
   have oU:∀W:World,aQ W w.heap.size (replicate iu (Value.int .u8 0)++Lib.byteCells (vf u)) 347->(convert 135 9 (.slice (some (aa (w.heap.size) iu)) (65-iu) (65-iu))).run prog W= .ok (ai ⟨(vf u).toArray⟩) W:=by
    intro W hb;rw[<-hlen];exact run_convert_bytes_back (P:=prog) W 135 9 5 (aa (w.heap.size) iu) _ (vf u) underlying135 underlying5 underlying9 (fun k hk=>by
     rw[Bj,hb.cell (iu+k),yq (by simp)];simp[Lib.byteCells,hk])
   have Lp:=J key;have pn:=J oU;have g1:¬(65:Int)<iu:=by omega
   have g2:(iu:Int)<=65:=by omega
   have g3:¬65=iu:=by omega
   clear key oU hlen;go_upto_region 30 with(fail);generalize R6: @GetElem.getElem ByteArray Nat UInt8 _ _ _ gD _=OT;have au:OT=wo gD:=by
    rw[<-R6];have:gD=0∨gD=1∨gD=2∨gD=3∨gD=4∨gD=5∨gD=6∨gD=7∨gD=8∨gD=9∨gD=10∨gD=11∨gD=12∨gD=13∨gD=14∨gD=15:=by omega
    clear R6;rcases this with rfl|rfl|rfl|rfl|rfl|rfl|rfl|rfl|rfl|rfl|rfl|rfl|rfl|rfl|rfl|rfl<;>rfl
   obtain⟨cI,dq⟩:=Lp.o OT au;generalize World.setCell _ _ _=W2 at*;have oU:=pn.o W2 cI;have bO:=J dq;clear cI dq Lp pn R6 au;go_wp2_with fail
   go_ret2
   exact⟨rfl,bO.o⟩
abbrev HC (w:World):Prop:=w.cell? (aa 5 15)=some (.int .u8 4)
theorem ahX (w:World)(u:Nat)(hu:u<18446744073709551616)(h:HC w):
  Calls prog 217 #[.int .u64 u,I 16] w (bx (ai ⟨(vf u).toArray⟩) fun w'=>ax w w'):=by
 have bO:=J (af8 w u hu h);go_enter func217,ntmps217;go_wp2_with(go_at_call 240;refine bO.o.mono ?_;rintro e an ⟨rfl,hb⟩)
 go_ret;exact⟨rfl,hb⟩
theorem ahW (w:World)(u:Nat)(hu:u<18446744073709551616)(h:HC w):
  Calls prog 195 #[.int .u64 u,I 16] w (bx (ai ⟨(vf u).toArray⟩) fun w'=>ax w w'):=by
 have bO:=J (ahX w u hu h);go_enter func195,ntmps195;go_wp2_with(go_at_call 217;refine bO.o.mono ?_;rintro e an ⟨rfl,hb⟩)
 go_ret;exact⟨rfl,hb⟩
theorem aqQ (a b:Nat)(aU:a<18446744073709551616)(hb:b<18446744073709551616):bits .xor .u64 (a:Int) (b:Int)=((a^^^b:Nat):Int):=by
 have au:a^^^b<2^64:=Nat.xor_lt_two_pow (by omega) (by omega);have h1:(BitVec.ofInt 64 (a:Int)).toNat=a:=by
  rw[BitVec.ofInt_natCast,BitVec.toNat_ofNat];exact Nat.mod_eq_of_lt (by omega)
 have ae:(BitVec.ofInt 64 (b:Int)).toNat=b:=by
  rw[BitVec.ofInt_natCast,BitVec.toNat_ofNat];exact Nat.mod_eq_of_lt (by omega)
 show IntKind.u64.wrap ((BitVec.ofInt 64 (a:Int)^^^BitVec.ofInt 64 (b:Int)).toNat:Int)=_
 rw[BitVec.toNat_xor,h1,ae,IntKind.wrap_u64];omega
def F8 (s:Nat)(b:UInt8):Nat:=((s^^^b.toNat)*1099511628211)%18446744073709551616
def DX:Nat:=14695981039346656037
theorem ahZ:(14695981039346656037:Int)=(DX:Nat):=by unfold DX;omega
theorem ah0:DX<18446744073709551616:=by unfold DX;omega
def TI (l:List UInt8):Nat:=l.foldl F8 DX
def q4 (l:List UInt8):List UInt8:=vf (TI l)
theorem ah1 (s:Nat)(b:UInt8):F8 s b<18446744073709551616:=Nat.mod_lt _ (by omega)
theorem ah2 (s:Nat)(b:UInt8):IntKind.u64.wrap (((s^^^b.toNat:Nat):Int)*1099511628211)=(F8 s b:Nat):=by
 rw[IntKind.wrap_u64];unfold F8;omega
theorem agi (s:ByteArray)(k:Nat)(h:k<s.size):s.data.toList[k]'(by simpa using h)=s[k]:=by simp;rfl
def LQ (s:ByteArray)(k:Nat)(a:Int):Prop:=∃m:Nat,a=m∧m<18446744073709551616∧(s.data.toList.take k).foldl F8 DX=m
theorem aoL (s:ByteArray):LQ s 0 14695981039346656037:=⟨DX,ahZ,ah0,by simp⟩
theorem aoK {s:ByteArray}{a:Int}(br:k<s.size)(h:LQ s k a):LQ s (k+1) (IntKind.u64.wrap (bits BinOp.xor IntKind.u64 a (IntKind.u64.wrap (s[k].toNat:Int))*1099511628211)):=by
 obtain⟨m,rfl,hm,e⟩:=h;have hb:=s[k].toNat_lt;refine⟨F8 m s[k],?_,ah1 m s[k],?_⟩
 ·rw[show IntKind.u64.wrap (s[k].toNat:Int)=(s[k].toNat:Nat) by rw[IntKind.wrap_u64];omega,aqQ m s[k].toNat hm (by omega),ah2 m s[k]]
 ·have aC:k<s.data.toList.length:=by simpa using br
  rw[kr aC,foldl_append,e,agi s k br,sO,foldl_nil]
theorem acf (w:World)(s:ByteArray)(hs:s.size<=200000000000)(h:HC w):
  Calls prog 158 #[ai s] w (bx (ai ⟨(q4 s.data.toList).toArray⟩) fun w'=>ax w w'):=by
 have dA:=J h;clear h;go_enter func158,ntmps158;go_wp2_with fail
 go_loopw[3,4,7] (fun KV _ ii wr=>∃(k:Nat) (a:Int),k<=s.size∧ii=I k∧KV= .int .u64 a∧wr=w∧Hid (LQ s k a)) (fun _ _ ii _=>s.size-(intOf ii).toNat)
 case atStart=>exact⟨0,_,ch,rfl,rfl,rfl,aoL s⟩
 case round=>
  obtain⟨k,a,hk,rfl,rfl,rfl,aL⟩:=hrel;by_cases br:k<s.size
  ·have cp:=J (aoK br aL.o)
   go_wp2_with fail
   exact⟨⟨k+1,_,by omega,by go_num,rfl,trivial,cp.o⟩,by simp[intOf];omega⟩
  ·have iA:k=s.size:=by omega
   subst iA;have cz:Hid (Calls prog 195 #[.int .u64 a,I 16] wr (bx (ai ⟨(q4 s.data.toList).toArray⟩) fun w'=>ax wr w')):=by
    obtain⟨m,rfl,hm,e⟩:=aL.o;rw[lQ (by simp)]at e;have:=ahW wr m hm dA.o;unfold q4 TI;rw[e];exact this
   go_wp2_with(go_at_call 195;refine cz.o.mono ?_;rintro e an ⟨rfl,hb⟩;have bO:=J hb;clear hb)
   go_ret;exact⟨rfl,bO.o⟩
def Oo (l:List UInt8):List UInt8:=l++q4 l
theorem agh (a b:List UInt8):(⟨a.toArray⟩:ByteArray)++(⟨b.toArray⟩:ByteArray)=⟨(a++b).toArray⟩:=by
 apply ByteArray.ext;simp[ByteArray.data_append]
theorem Yv:∀(f u:Nat) (acc:List UInt8),(yZ f u acc).length<=f+1+acc.length
 |0,u,acc=>by simp[yZ];omega
 |f+1,u,acc=>by
  simp only[yZ];split
  ·simp;omega
  ·have:=Yv f (u/16) (wo (u%16)::acc)
   simp at this;omega
theorem On (l:List UInt8):(q4 l).length<=17:=by
 have:=Yv 16 (TI l) [];simpa[q4,vf]using this
theorem adA (B:Nat)(w:World)(aj n:Nat)(xs:List UInt8)(h:j8 B w aj n xs)(au:xs≠[])(aC:xs.length<=190000000000)(al:HC w):
  Calls prog 114 #[bl aj] w (bx (ai ⟨(Oo xs).toArray⟩) fun w'=>ax w w'):=by
 obtain⟨sv,h⟩:=h;have AQ:0<xs.length:=length_pos_iff.2 au;rcases h.own.2 with⟨-,eo⟩|⟨g,cap,cur,rfl,-⟩
 ·omega
 have oU:=run_convert_bytes_back (P:=prog) w 135 9 5 (aa g 0) cap xs underlying135 underlying5 underlying9 (fun j af=>h.own.cells (g:=g) rfl j _ (by simp[Lib.byteCells,af]));have c1:=h.U.c1;have br:=h.U.lt;have aL:=J (acf w ⟨xs.toArray⟩ (by show xs.toArray.size<=_;simp;omega) al);have fb:¬9223372036854775807<xs.length+(q4 xs).length:=by have:=On xs;omega
 clear h al;go_enter func114,ntmps114;go_wp2_with(go_at_call 158;refine aL.o.mono ?_;rintro e an ⟨rfl,hb⟩;have bO:=J hb;clear hb)
 go_ret;exact⟨congrArg (fun x=>Ending.returned (ai x)) (agh xs (q4 xs)),bO.o⟩
def nK (n i:Nat)(l:List Int):List UInt8:=Oo (iH 115 n i l)
structure fI (w:World):Prop where
 pow:Lib.TabIs prog w "internal/strconv.uint64pow10" .u64 Lib.pow10Tab
 FX:HC w
theorem fI.later (h:fI w)(hb:ax w w'):fI w':=
 ⟨(Lib.tabBelow_of_tabIs h.pow) w' hb,bZ hb h.FX⟩
theorem anq:prog.globalNamed "internal/strconv.uint64pow10"=some 0:=by kernel_rfl
theorem fI.kept (h:fI w)(hb:∀q,q<6->w'.heap[q]?=w.heap[q]?):fI w':=by
 refine⟨?_,?_⟩
 ·have aw:=h.pow
  unfold Lib.TabIs World.var? at aw⊢;rw[anq]at aw⊢;simp only[Option.bind_some]at aw⊢;rw[hb _ (by omega)];exact aw
 ·exact(xc (w:=w) (hb _ (by show 5<6;omega))).trans h.FX
theorem fI.room (h:fI w):6<=w.heap.size:=hU w _ h.FX
theorem aqH (w:World)(n i:Nat)(v:aW)(hn:n<=5)(aq:i<=5)(av:∀k,k∈v.list-> -9223372036854775808<=k∧k<=9223372036854775807)(al:fI w):
  Calls prog 71 #[I n,lJ i v] w (bx (ai ⟨(nK n i (v.list.take n)).toArray⟩) fun w'=>ax w w'):=by
 generalize dE:(w.alloc (.cells #[I i,I v.a,I v.b,I v.c,I v.d,I v.e] 144)).alloc (.cells #[I n,.slice none 0 0] 193)=bR;have aF:ax w bR:=by rw[<-dE];exact((cj _ _)).alloc (by simp) _
 have o0:j8 w.heap.size bR (w.heap.size+1) n []:=by
  refine⟨.slice none 0 0,?_,pU _,jD _ _ _ _⟩;rw[<-dE,show w.heap.size+1=(w.alloc (.cells #[I i,I v.a,I v.b,I v.c,I v.d,I v.e] 144)).heap.size by simp];exact cC _ _
 have aw:=Lib.tabBelow_of_tabIs al.pow;have dQ:=adB w.heap.size bR (w.heap.size+1) n i [] 115 v o0 hn aq (by simp) av (aw.on aF);rw[show((115:UInt8).toNat:Int)=115 from rfl,w1]at dQ;have aO:=J dQ;have dF:=J aF;have ic:=J dE;have dA:=J al;clear dE aF o0 aw al dQ;go_enter func71,ntmps71;go_wp2_with(go_at_call 113;rw[ic.o];refine aO.o.mono ?_;rintro e w2 ⟨rfl,GK,e6,-⟩;refine gE ?_)
 refine Lib.hid ?_;have bP:=dF.o.trans e6;have ij:(iH 115 n i (v.list.take n)).length<=1000:=by
  have h1:=yh av (k:=n) hn;have ae:=qi (k:=n) (by omega) (by omega);have aH:=qi (k:=i) (by omega) (by omega);simp only[iH,lP,eN];omega
 have bX:=J (adA w.heap.size w2 (w.heap.size+1) n _ GK (by simp[iH]) (by omega) (dA.o.later bP).FX);have dG:=J bP;clear GK e6 bP ij aO ic dF;go_wp2_with(go_at_call 114;refine bX.o.mono ?_;rintro e bN ⟨rfl,tc⟩;have jG:=J tc;clear tc)
 go_ret;exact⟨rfl,dG.o.trans (jG.o.mono dG.o.size)⟩
end Go.Proofs.YtiplgdkpnhamaaaGreatDoor
