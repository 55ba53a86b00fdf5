import Derived.Test.YtiplgdkpnhamaaaGreatDoorT25
import Derived.RegionDies
import Derived.Deep.RegionHeld3
import Derived.Recover
import Derived.Defers
import Derived.Tactics2
import Derived.Laws.Pointers
set_option maxHeartbeats 16000000
set_option maxRecDepth 100000
namespace Go.Proofs.YtiplgdkpnhamaaaGreatDoor
open Go.Proofs.Tryz List
open Go.RowKit Go.Sort
variable {cf b n r ak rep:Nat}{l u v:List UInt8}{m:Bool}{seq:Int}{t:TypeId}{w wr:World}
abbrev Ti (w:World)(b:Nat)(rep seq:Int)(v:aW)(aK:Value):World:=(((((((w.setCell (aa b 0) (I rep)).setCell (aa b 1) (I seq)).setCell (aa b 2) (I v.a)).setCell (aa b 3) (I v.b)).setCell (aa b 4) (I v.c)).setCell (aa b 5) (I v.d)).setCell (aa b 6) (I v.e)).setCell (aa b 7) aK
theorem anA {c8 dr en d_ ev gv nf wZ:Value}(rep seq:Int)(v:aW)(aK:Value)(h:aQ w b [c8,dr,en,d_,ev,gv,nf,wZ] t):aQ (Ti w b rep seq v aK) b [I rep,I seq,I v.a,I v.b,I v.c,I v.d,I v.e,aK] t:=by
 have a0:=h.set 0 (I rep);have cO:=a0.set 1 (I seq);have a2:=cO.set 2 (I v.a);have a3:=a2.set 3 (I v.b);have a4:=a3.set 4 (I v.c);have a5:=a4.set 5 (I v.d);have FO:=a5.set 6 (I v.e);have Ij:=FO.set 7 aK;exact Ij
theorem anB (w:World)(b:Nat)(rep seq:Int)(v:aW)(aK:Value):Touch (fun q=>q=b) w (Ti w b rep seq v aK):=
 (((((((((Touch.refl (fun q=>q=b) w).setCell (p:=(aa b 0)) (Or.inl rfl) _).setCell (p:=(aa b 1)) (Or.inl rfl) _).setCell (p:=(aa b 2)) (Or.inl rfl) _).setCell (p:=(aa b 3)) (Or.inl rfl) _).setCell (p:=(aa b 4)) (Or.inl rfl) _).setCell (p:=(aa b 5)) (Or.inl rfl) _).setCell (p:=(aa b 6)) (Or.inl rfl) _).setCell (p:=(aa b 7)) (Or.inl rfl) _)
abbrev aq2:List Value:=[I 0,I 0,I 0,I 0,I 0,I 0,I 0,.map none]
structure xt (w:World)(ak n:Nat)(t:ByteArray)(m:Bool)(cf:Nat)(u:List UInt8)(rep:Nat)(seq:Int)(wr:World):Prop where
 rd:ga wr ak n t cf
 rem:fU m (t.data.toList.drop cf) u
 e2:Touch (fun q=>q=ak) w wr
 dot:aQ wr w.heap.size [I rep,I seq] 62
 res:aQ wr (w.heap.size+1+1) aq2 139
theorem xt.step {w:World}{ak n:Nat}{t:ByteArray}{m:Bool}{cf a2:Nat}{u u2:List UInt8}{rep:Nat}{seq:Int}{wr w2:World}(h:xt w ak n t m cf u rep seq wr)(il:ak<w.heap.size)(T:Touch (fun q=>q=ak) wr w2)(r:ga w2 ak n t a2)(q:fU m (t.data.toList.drop a2) u2):xt w ak n t m a2 u2 rep seq w2:=
 ⟨r,q,h.e2.then T,h.dot.ay T (by omega),h.res.ay T (by omega)⟩
theorem xt.later {t:ByteArray}{w2:World}(h:xt w ak n t m cf u rep seq wr)(hb:ax wr w2):xt w ak n t m cf u rep seq w2:=
 ⟨h.rd.later hb,h.rem,h.e2.then (Touch.dh hb),h.dot.below hb,h.res.below hb⟩
theorem xt.set {t:ByteArray}(h:xt w ak n t m cf u rep seq wr)(il:ak<w.heap.size)(p:Addr)(aw:w.heap.size+1+1<p.block)(v:Value):xt w ak n t m cf u rep seq (wr.setCell p v):=
 ⟨⟨h.rd.U.other (by omega) _,h.rd.le,h.rd.sm,h.rd.hi⟩,h.rem,h.e2.setCell (Or.inr (by omega)) _,h.dot.other (by omega) _,h.res.other (by omega) _⟩
theorem aop {r:List UInt8}(h:l=v++r):fU true l v:=by simp only[fU];exact⟨r,h⟩
theorem aon {s:List UInt8}(hs:s≠[])(h:l++s=v):fU false l v:=by simp only[fU];exact⟨s,hs,h⟩
theorem aoo (h:fU false l []):False:=by
 simp only[fU]at h;obtain⟨s,hs,e⟩:=h;exact hs (append_eq_nil_iff.1 e).2
theorem aqL (w:World)(ak n:Nat)(t:ByteArray)(a:Nat)(eB:Place->Option cG)(ks:List Place)(r:List UInt8)(h:ga w ak n t a)(hk:KeysOf eB ks)(n2:ks.Pairwise j0)(h1:1<=ks.length)(nt:ks.length<=16)(aJ:∀p x,eB p=some x->xw p x)(au:t.data.toList.drop a=ec ks.length++jB eB ks++r)(al:fI w):
  Calls prog 205 #[bl ak] w fun e w'=>Touch (fun q=>q=ak) w w'∧∃b,e= .returned (.map (some b))∧w.heap.size<=b∧cV w' 129 b 16 Place.val cG.val eB∧ga w' ak n t (a+(ec ks.length).length+(jB eB ks).length):=by
 refine(adH w ak n t a eB ks true [] h hk n2 h1 nt aJ (aop (r:=r) (by simpa using au)) al).mono ?_;rintro e w' ⟨T,⟨b,aP,ba,ey,hB,-⟩|⟨hm,-⟩⟩
 ·exact⟨T,b,aP,ba,ey,hB⟩
 ·cases hm
theorem aqK (w:World)(ak n:Nat)(t:ByteArray)(a:Nat)(eB:Place->Option cG)(ks:List Place)(s:List UInt8)(h:ga w ak n t a)(hk:KeysOf eB ks)(n2:ks.Pairwise j0)(h1:1<=ks.length)(nt:ks.length<=16)(aJ:∀p x,eB p=some x->xw p x)(hs:s≠[])(au:t.data.toList.drop a++s=ec ks.length++jB eB ks)(al:fI w):
  Calls prog 205 #[bl ak] w fun e w'=>e=fault∧Touch (fun q=>q=ak) w w':=by
 refine(adH w ak n t a eB ks false [] h hk n2 h1 nt aJ (aon hs (by simpa using au)) al).mono ?_;rintro e w' ⟨T,⟨b,-,-,-,-,aJ⟩|⟨-,rfl⟩⟩
 ·exact(aoo aJ).elim
 ·exact⟨rfl,T⟩
def adU (w:World)(ak n:Nat)(t:ByteArray)(m:Bool)(cf:Nat)(u:List UInt8)(jr:dt)(e:Ending)(w':World):Prop:=
 Touch (fun q=>q=ak) w w'∧((∃b,e= .returned (OE jr.rep jr.seq jr.saw (.map (some b)))∧w.heap.size<=b∧nT w' (jr,b)∧ga w' ak n t cf∧fU m (t.data.toList.drop cf) u)∨(m=false∧e=fault))
theorem apO (w:World)(ak n:Nat)(t:ByteArray)(a:Nat)(rep:Nat)(seq:Int)(l:List Int)(eB:Place->Option cG)(ag:aW)(ks:List Place)(m:Bool)(u:List UInt8)(h:ga w ak n t a)(hn:n<=5)(qV:rep<5)(wD:0<=seq)(jX:seq<=9223372036854775807)(aC:l.length=n)(qb:∀k (hk:k<l.length),0<=l[k]∧l[k]<=(ag.put rep (seq-1)).list.getD k 0∧l[k]<=9223372036854775807)(hk:KeysOf eB ks)(n2:ks.Pairwise j0)(h1:1<=ks.length)(nt:ks.length<=16)(aJ:∀p x,eB p=some x->xw p x)(au:fU m (t.data.toList.drop a) (eZ l++(ec ks.length++(jB eB ks++u))))(al:fI w):
  Calls prog 170 #[bl ak,.agg #[I rep,I seq],ag.val] w (adU w ak n t m (a+(eZ l).length+(ec ks.length).length+(jB eB ks).length) u ⟨rep,seq,bJ l,eB⟩):=by
 have il:=h.U.lt;generalize bj:(((w.alloc (.cells #[I rep,I seq] 62)).alloc (.cells #[I ag.a,I ag.b,I ag.c,I ag.d,I ag.e] 104)).alloc (.cells #[I 0,I 0,I 0,I 0,I 0,I 0,I 0,.map none] 139)).alloc (.cells #[I ag.a,I ag.b,I ag.c,I ag.d,I ag.e] 104)=W0;have bp:ax w W0:=by rw[<-bj];exact((((cj _ _)).alloc (by simp) _).alloc (by simp;omega) _).alloc (by simp;omega) _
 have fk:Hid (xt w ak n t m a (eZ l++(ec ks.length++(jB eB ks++u))) rep seq W0):=by
  refine⟨h.later bp,au,Touch.dh bp,?_,?_⟩
  ·rw[<-bj];exact aQ.alloc (aQ.alloc (aQ.alloc (cC w _) _) _) _
  ·rw[<-bj,show w.heap.size+1+1=((w.alloc (.cells #[I rep,I seq] 62)).alloc (.cells #[I ag.a,I ag.b,I ag.c,I ag.d,I ag.e] 104)).heap.size by simp]
   exact aQ.alloc (cC _ _) _
 have m0:aQ W0 (w.heap.size+1+1+1) ag.cells 104:=by
  rw[<-bj,show w.heap.size+1+1+1=(((w.alloc (.cells #[I rep,I seq] 62)).alloc (.cells #[I ag.a,I ag.b,I ag.c,I ag.d,I ag.e] 104)).alloc (.cells #[I 0,I 0,I 0,I 0,I 0,I 0,I 0,.map none] 139)).heap.size by simp];exact cC _ _
 have aO:=J h;have di:=J bj;have dA:=J al;have cD:=J (⟨hk,n2,aJ⟩:_∧_∧_);have fr:=J qb;have Ls:=J m0;clear h au bj bp al hk n2 aJ qb m0;go_enter func170,ntmps170;go_upto_region 2 with(fail);rw[di.o];clear di;have c0:=fk.o.dot.c0;have c1:=fk.o.dot.c1;have c2:W0.cell? (aa (w.heap.size+1+1+1) rep)=some (I (ag.get rep)):=by rw[Ls.o.cell rep];exact C6 _ qV
 have f2:W0.frozen? (aa (w.heap.size+1+1+1) rep)=false:=Ls.o.frozen rep;have g1:(rep:Int)<5:=by omega
 go_upto_region 3 with(fail);have bT:aQ (W0.setCell (aa (w.heap.size+1+1+1) rep) (I (seq-1))) (w.heap.size+1+1+1) (ag.put rep (seq-1)).cells 104:=by
  rw[<-Tj _ qV];exact Ls.o.set rep _
 have H1:=J (fk.o.set il (aa (w.heap.size+1+1+1) rep) (by show w.heap.size+1+1<w.heap.size+1+1+1;omega) (I (seq-1)));clear c0 c1 c2 f2 fk Ls;generalize World.setCell _ _ _=bR at*;generalize ag.put rep (seq-1)=amw at*;have d0:=bT.c0;have d1:=bT.c1;have d2:=bT.c2;have d3:=bT.c3;have d4:=bT.c4;have dM:=bT.lt;have ff:=J (T9 bR ak n t a l amw m _ H1.o.rd hn aC H1.o.rem fr.o (aO.o.ke dA.o H1.o.e2));clear bT;go_wp2_with(go_at_call 162;refine ff.o.mono ?_;rintro e w2 ⟨eD,⟨rfl,ae,b_⟩|⟨hm,rfl⟩⟩<;>refine gE ?_)
 all_goals refine Lib.hid ?_
 rotate_left
 ·exact⟨rfl,H1.o.e2.then eD,Or.inr ⟨by first|exact hm|rfl,rfl⟩⟩
 have bu:=J (H1.o.step il eD ae b_);have dK:=bu.o.res.lt;clear eD ae b_ ff H1 d0 d1 d2 d3 d4 fr dM;generalize bJ l=k1 at*;go_upto_region 4 with(fail);generalize f_:w2.alloc (.cells #[I k1.a,I k1.b,I k1.c,I k1.d,I k1.e] 104)=dH;have b0:ax w2 dH:=by rw[<-f_];exact cj _ _
 have fX:aQ dH w2.heap.size k1.cells 104:=by rw[<-f_];exact cC w2 _
 have ck:=J (bu.o.later b0);have wK:=fX.lt;have I0:=ck.o.dot;have c0:=I0.c0;have c1:=I0.c1;have d0:=fX.c0;have d1:=fX.c1;have d2:=fX.c2;have d3:=fX.c3;have d4:=fX.c4;have Nb:=ck.o.rem;rw[<-mN]at Nb;have M_:ga dH.drew ak n t (a+(eZ l).length):=⟨ck.o.rd.U,ck.o.rd.le,ck.o.rd.sm,ck.o.rd.hi⟩;rcases Tu Nb with⟨EX,gS,n4⟩|⟨hm,s,hs,gS⟩
 ·have LG:Hid (Calls prog 205 #[bl ak] dH.drew fun e w'=>∃b,e= .returned (.map (some b))∧w'.cell? (aa (w.heap.size) 0)=some (I rep)∧w'.cell? (aa (w.heap.size) 1)=some (I seq)∧w'.cell? (aa (w2.heap.size) 0)=some (I k1.a)∧w'.cell? (aa (w2.heap.size) 1)=some (I k1.b)∧w'.cell? (aa (w2.heap.size) 2)=some (I k1.c)∧w'.cell? (aa (w2.heap.size) 3)=some (I k1.d)∧w'.cell? (aa (w2.heap.size) 4)=some (I k1.e)∧Hid (w.heap.size<=b∧cV w' 129 b 16 Place.val cG.val eB∧xt w ak n t m (a+(eZ l).length+(ec ks.length).length+(jB eB ks).length) u rep seq w')):=(aqL dH.drew ak n t _ eB ks EX M_ cD.o.1 cD.o.2.1 h1 nt cD.o.2.2 gS (aO.o.ke dA.o ck.o.e2.drew)).mono (by
   rintro e w' ⟨T,b,rfl,hb,JE,o2⟩;have BO:Touch (fun q=>q=ak) dH w':=(Touch.refl _ _).drew.then T;have Mh:=I0.ay BO (by omega);have ss:=fX.ay BO (by omega);have fb:dH.drew.heap.size=dH.heap.size:=rfl;refine⟨b,rfl,Mh.cell 0,Mh.cell 1,ss.cell 0,ss.cell 1,ss.cell 2,ss.cell 3,ss.cell 4,by omega,JE,ck.o.step il BO o2 ?_⟩;have:=Qj gS;rw[eN,<-Fl]at this;rw[this];exact n4)
  clear f_ b0 fX I0 bu ck Nb M_ gS n4;go_region_with(go_at_call 205;refine LG.o.mono ?_;rintro e w5 ⟨b,rfl,ek,cI,dq,eW,fo,iT,o_,fs⟩;have eE:w5.cell? (aa (w.heap.size+1+1) 0)=some (I 0):=(fs.o.2.2.res.cell 0);have eY:w5.frozen? (aa (w.heap.size+1+1) 0)=false:=(fs.o.2.2.res.frozen 0);have cB:w5.cell? (aa (w.heap.size+1+1) 1)=some (I 0):=(fs.o.2.2.res.cell 1);have q1:w5.frozen? (aa (w.heap.size+1+1) 1)=false:=(fs.o.2.2.res.frozen 1);have b_:w5.cell? (aa (w.heap.size+1+1) 2)=some (I 0):=(fs.o.2.2.res.cell 2);have dy:w5.frozen? (aa (w.heap.size+1+1) 2)=false:=(fs.o.2.2.res.frozen 2);have dW:w5.cell? (aa (w.heap.size+1+1) 3)=some (I 0):=(fs.o.2.2.res.cell 3);have fE:w5.frozen? (aa (w.heap.size+1+1) 3)=false:=(fs.o.2.2.res.frozen 3);have iw:w5.cell? (aa (w.heap.size+1+1) 4)=some (I 0):=(fs.o.2.2.res.cell 4);have hf:w5.frozen? (aa (w.heap.size+1+1) 4)=false:=(fs.o.2.2.res.frozen 4);have ql:w5.cell? (aa (w.heap.size+1+1) 5)=some (I 0):=(fs.o.2.2.res.cell 5);have nG:w5.frozen? (aa (w.heap.size+1+1) 5)=false:=(fs.o.2.2.res.frozen 5);have EW:w5.cell? (aa (w.heap.size+1+1) 6)=some (I 0):=(fs.o.2.2.res.cell 6);have nc:w5.frozen? (aa (w.heap.size+1+1) 6)=false:=(fs.o.2.2.res.frozen 6);have Tm:w5.cell? (aa (w.heap.size+1+1) 7)=some (.map none):=(fs.o.2.2.res.cell 7);have wR:w5.frozen? (aa (w.heap.size+1+1) 7)=false:=(fs.o.2.2.res.frozen 7);skip)
  all_goals(
   have cJ:=anA rep seq k1 (.map (some b)) fs.o.2.2.res;have eO:=anB w5 (w.heap.size+1+1) rep seq k1 (.map (some b));unfold Ti at cJ eO;have cz:=J (⟨cJ,eO⟩:_∧_);clear cJ eO eE cB b_ dW iw ql EW Tm eY q1 dy fE hf nG nc wR ek cI dq eW fo iT o_ c0 c1 d0 d1 d2 d3 d4 LG;go_wp2_with fail
   obtain⟨cJ,eO⟩:=cz.o;generalize World.setCell _ _ _=jT at*;have cY:=cJ.c0;have s1:=cJ.c1;have s2:=cJ.c2;have fX:=cJ.c3;have hI:=cJ.c4;have sG:=cJ.c5;have uz:=cJ.iG;have sH:=cJ.hA;have ft:=fs.o.2.1.lt;have bS:b≠w.heap.size+1+1:=fun e=>by
    obtain⟨D,⟨es,clock,g1,g2⟩,-⟩:=fs.o.2.1.ex;have g3:w5.heap[w.heap.size+1+1]?=_:=fs.o.2.2.res;rw[e]at g1;rw[g1]at g3;cases g3
   refine iX (v:=OE rep seq k1 (.map (some b))) (by simp[results,results170,go_sem,cY,s1,s2,fX,hI,sG,uz,sH]) rfl ⟨fs.o.2.2.e2.trans (eO.mono fun q _ e=>Or.inr (by omega)),Or.inl ⟨b,rfl,fs.o.1,fs.o.2.1.move (eO.block b ft bS),?_,fs.o.2.2.rem⟩⟩;exact⟨fs.o.2.2.rd.U.ay eO (by omega),fs.o.2.2.rd.le,fs.o.2.2.rd.sm,fs.o.2.2.rd.hi⟩)
 ·have LG:Hid (Calls prog 205 #[bl ak] dH.drew fun e w'=>e=fault∧Hid (m=false∧Touch (fun q=>q=ak) w w')):=(aqK dH.drew ak n t _ eB ks s M_ cD.o.1 cD.o.2.1 h1 nt cD.o.2.2 hs gS (aO.o.ke dA.o ck.o.e2.drew)).mono (by
   rintro e w' ⟨rfl,T⟩;exact⟨rfl,hm,ck.o.e2.then ((Touch.refl _ _).drew.then T)⟩)
  clear f_ b0 fX I0 bu ck Nb M_ gS hm hs;go_region_dies
  all_goals(
   refine LG.o.mono ?_;rintro e w5 ⟨rfl,fs⟩;exact⟨rfl,fs.o.2,Or.inr ⟨fs.o.1,rfl⟩⟩)
def rT (eX:Nat->aW)(t:dt):aW:=((eX t.rep).join t.saw).put t.rep (t.seq-1)
def qg (eX:Nat->aW)(r:Nat)(v:aW):Nat->aW:=fun q=>if q=r then v else eX q
def oe:(Nat->aW)->List dt->(Nat->aW)
 |eX,[]=>eX
 |eX,t::l=>oe (qg eX t.rep (rT eX t)) l
def wM:(Nat->aW)->List dt->List aW
 |_,[]=>[]
 |eX,t::l=>rT eX t::wM (qg eX t.rep (rT eX t)) l
def nC:Nat->aW:=fun _=>mi
def oh (l:List dt):List aW:=wM nC l
theorem Nz:∀(l:List dt) (eX:Nat->aW) (t:dt),oe eX (l++[t])=qg (oe eX l) t.rep (rT (oe eX l) t)
 |[],_,_=>rfl
 |a::l,eX,t=>Nz l (qg eX a.rep (rT eX a)) t
theorem aa1:∀(l:List dt) (eX:Nat->aW) (t:dt),wM eX (l++[t])=wM eX l++[rT (oe eX l) t]
 |[],_,_=>rfl
 |a::l,eX,t=>congrArg (rT eX a::·) (aa1 l (qg eX a.rep (rT eX a)) t)
theorem CO:∀(l:List dt) (eX:Nat->aW),(wM eX l).length=l.length
 |[],_=>rfl
 |_::l,_=>congrArg (·+1) (CO l _)
abbrev AX (eX:Nat->aW):List Value:=(eX 0).cells++((eX 1).cells++((eX 2).cells++((eX 3).cells++(eX 4).cells)))
theorem NA (eX:Nat->aW){j:Nat}(aJ:r<5)(af:j<5):(AX eX)[r*5+j]?=some (I ((eX r).get j)):=by
 have h1:r=0∨r=1∨r=2∨r=3∨r=4:=by omega
 have ae:j=0∨j=1∨j=2∨j=3∨j=4:=by omega
 rcases h1 with rfl|rfl|rfl|rfl|rfl<;>rcases ae with rfl|rfl|rfl|rfl|rfl<;>rfl
theorem aal (eX:Nat->aW)(aJ:r<5)(v:aW):(((((AX eX).set (r*5) (I v.a)).set (r*5+1) (I v.b)).set (r*5+2) (I v.c)).set (r*5+3) (I v.d)).set (r*5+4) (I v.e)=AX (qg eX r v):=by
 have h1:r=0∨r=1∨r=2∨r=3∨r=4:=by omega
 rcases h1 with rfl|rfl|rfl|rfl|rfl<;>rfl
theorem aln:(prog.info? 104).map (fun i=>(i.zero,i.size,i.bytes))=some (some mi.val,5,40):=by kernel_rfl
theorem V3 (w:World)(cs:List Value)(t:TypeId):∀j u,cs[j]?=some u->(w.alloc (.cells cs.toArray t)).cell? (((aa (w.heap.size) 0):Addr).add j)=some u:=by
 intro j u af;have h:aQ (w.alloc (.cells cs.toArray t)) w.heap.size cs t:=cC w _;have:=h.cell j;rw[af]at this;have e:((aa (w.heap.size) 0):Addr).add j=(aa (w.heap.size) j):=by cases j<;>simp[Addr.add]
 rw[e];exact this
theorem NY {B:Nat}{cs:List Value}{e:TypeId}{size:Nat}{v:Value}{xs:List Value}(hb:aQ w b cs t)(h:w.ownsRow B e size v n xs)(bS:t≠e):v.ownBlock≠some b:=by
 rcases h.2 with⟨dI,-⟩|⟨g,cap,cur,rfl,-,aM,-⟩
 ·rw[dI];simp[Value.ownBlock]
 ·intro dI
  have:g=b:=by simpa[Value.ownBlock]using dI
  subst this;rw[aQ,aM]at hb;injection hb with hb
  injection hb with _ hb
  exact bS hb.symm
structure FI (w:World)(l:List dt)(k:Nat)(aN:Value)(wr:World):Prop where
 cZ:ax w wr
 eX:aQ wr w.heap.size (AX (oe nC (l.take k))) 110
 row:wr.ownsRow w.heap.size 104 5 aN k ((wM nC (l.take k)).flatMap aW.cells)
theorem FI.later {l:List dt}{k:Nat}{aN:Value}{w':World}(h:FI w l k aN wr)(hb:ax wr w'):FI w l k aN w':=
 ⟨h.cZ.trans (hb.mono h.cZ.size),h.eX.below hb,pL h.row fun g aM=>hb.block g (h.row.lt g aM).2⟩
theorem aa2 (w:World)(base:Nat)(l:List (dt×Nat))(bz:Value)(bf:w.ownsRow base 139 8 bz l.length (l.flatMap ia))(aC:l.length<=50000000)(bm:∀x,x∈l->x.1.rep<5∧0<=x.1.seq∧x.1.seq<=9223372036854775807):
  Calls prog 125 #[bz] w fun e w'=>∃aN,e= .returned aN∧w'.ownsRow w.heap.size 104 5 aN l.length ((oh (l.map Prod.fst)).flatMap aW.cells)∧ax w w':=by
 obtain⟨cA,cap,rfl,AA⟩:=Row.shape (e3 bf ch);obtain⟨i0,aq,dC,dM,dK⟩:=iV aln;generalize bj:w.alloc (.cells #[I 0,I 0,I 0,I 0,I 0,I 0,I 0,I 0,I 0,I 0,I 0,I 0,I 0,I 0,I 0,I 0,I 0,I 0,I 0,I 0,I 0,I 0,I 0,I 0,I 0] 110)=W0;have fk:Hid (FI w (l.map Prod.fst) 0 (.slice none 0 0) W0):=by
  refine⟨?_,?_,jD _ _ _ _⟩
  ·rw[<-bj];exact cj _ _
  ·rw[<-bj];exact cC w _
 have di:=J bj;have bc:=J bf;have cz:=J bm;clear bj bf bm;go_enter func125,ntmps125;go_upto_region 4 with(fail);rw[di.o];clear di;go_loopw[3,6,7,10] (fun aN _ _ ii wr=>∃(k:Nat) (a0:Option Addr) (pH c0:Nat),k<=l.length∧ii=I k∧aN= .slice a0 pH c0∧Hid (FI w (l.map Prod.fst) k (.slice a0 pH c0) wr)) (fun _ _ _ ii _=>l.length-(intOf ii).toNat)
 case atStart=>exact⟨0,_,_,_,ch,rfl,rfl,fk.o⟩
 case round=>
  clear fk;obtain⟨k,a0,pH,c0,hk,rfl,rfl,aL⟩:=hrel;by_cases br:k<l.length
  ·have au:=cz.o l[k] (eT br)
   obtain⟨g,aM,-⟩:=AA.2.2 0 (by omega);subst aM;have aA:=fun(j:Nat) (af:j<8)=>KS bc.o aL.o.cZ br af
   have cW:k<(l.map Prod.fst).length:=by simpa using br
   have kb:(l.map Prod.fst).take (k+1)=(l.map Prod.fst).take k++[l[k].1]:=by rw[kr cW];simp
   generalize aw:l[k]=p at*;obtain⟨⟨rep,seq,saw,m⟩,mb⟩:=p;have eY:wr.cell? (aa g (k*8))=some (I rep):=aA 0 (by omega);have q1:wr.cell? (aa g (k*8+1))=some (I seq):=aA 1 (by omega);have dy:wr.cell? (aa g (k*8+2))=some (I saw.a):=aA 2 (by omega);have fE:wr.cell? (aa g (k*8+3))=some (I saw.b):=aA 3 (by omega);have hf:wr.cell? (aa g (k*8+4))=some (I saw.c):=aA 4 (by omega);have nG:wr.cell? (aa g (k*8+5))=some (I saw.d):=aA 5 (by omega);have nc:wr.cell? (aa g (k*8+6))=some (I saw.e):=aA 6 (by omega);have wR:wr.cell? (aa g (k*8+7))=some (.map (some mb)):=aA 7 (by omega);have qV:rep<5:=au.1;have wD:0<=seq:=au.2.1;have jX:seq<=9223372036854775807:=au.2.2;have cm:=J (⟨aw,kb⟩:_∧_);clear au aw kb aA;go_upto_region 6 with(fail);generalize j9:wr.alloc (.cells #[I rep,I seq,I saw.a,I saw.b,I saw.c,I saw.d,I saw.e,.map (some mb)] 139)=dv;have dT:ax wr dv:=by rw[<-j9];exact cj _ _
   have gm:aQ dv wr.heap.size [I rep,I seq,I saw.a,I saw.b,I saw.c,I saw.d,I saw.e,.map (some mb)] 139:=by rw[<-j9];exact cC wr _
   have dL:=J (aL.o.later dT);have Up:=gm.lt;have uE:=dL.o.eX.lt;have auh:=aL.o.eX.lt;have cY:=gm.c0;have s2:=gm.c2;have fX:=gm.c3;have hI:=gm.c4;have sG:=gm.c5;have uz:=gm.iG;obtain⟨eX,Rq⟩:∃eX,oe nC ((l.map Prod.fst).take k)=eX:=⟨_,rfl⟩;have MY:=dL.o.eX;rw[Rq]at MY;obtain⟨lt,Cs⟩:∃lt,eX rep=lt:=⟨_,rfl⟩;have p_:∀j,j<5->dv.cell? (aa (w.heap.size) (rep*5+j))=some (I (lt.get j)):=fun j af=>by rw[MY.cell (rep*5+j),<-Cs];exact NA eX qV af
   have t0:dv.cell? (aa (w.heap.size) (rep*5))=some (I lt.a):=p_ 0 (by omega);have t1:dv.cell? (aa (w.heap.size) (rep*5+1))=some (I lt.b):=p_ 1 (by omega);have t2:dv.cell? (aa (w.heap.size) (rep*5+2))=some (I lt.c):=p_ 2 (by omega);have t3:dv.cell? (aa (w.heap.size) (rep*5+3))=some (I lt.d):=p_ 3 (by omega);have t4:dv.cell? (aa (w.heap.size) (rep*5+4))=some (I lt.e):=p_ 4 (by omega);have g1:(rep:Int)<5:=by omega
   have Lr:=J (⟨MY,Rq,Cs⟩:_∧_∧_);have qA:=J gm;have H2:Hid (Calls prog 118 #[lt.val,saw.val] dv.drew fun e w'=>e= .returned (lt.join saw).val∧Hid (ax dv w')):=(Sh dv.drew lt saw).mono (by
    rintro e w' ⟨rfl,ao⟩;exact⟨rfl,(Hz dv.heap.size dv).drew.trans ao⟩)
   have H3:Hid (Calls prog 118 #[lt.val,saw.val] (dv.alloc (.cells #[I 0,I 0,I 0,I 0,I 0] 104)).drew fun e w'=>e= .returned (lt.join saw).val∧w'.cell? (aa (dv.heap.size) 0)=some (I 0)∧w'.cell? (aa (dv.heap.size) 1)=some (I 0)∧w'.cell? (aa (dv.heap.size) 2)=some (I 0)∧w'.cell? (aa (dv.heap.size) 3)=some (I 0)∧w'.cell? (aa (dv.heap.size) 4)=some (I 0)∧w'.frozen? (aa (dv.heap.size) 0)=false∧w'.frozen? (aa (dv.heap.size) 1)=false∧w'.frozen? (aa (dv.heap.size) 2)=false∧w'.frozen? (aa (dv.heap.size) 3)=false∧w'.frozen? (aa (dv.heap.size) 4)=false∧dv.heap.size<w'.heap.size∧Hid (aQ w' dv.heap.size [I 0,I 0,I 0,I 0,I 0] 104∧ax dv w')):=by
    have se:ax dv (dv.alloc (.cells #[I 0,I 0,I 0,I 0,I 0] 104)).drew:=((cj _ _)).drew;refine(Sh _ lt saw).mono ?_;rintro e w' ⟨rfl,ao⟩;have ig:ax dv w':=se.trans (ao.mono se.size);have P2:aQ (dv.alloc (.cells #[I 0,I 0,I 0,I 0,I 0] 104)).drew dv.heap.size [I 0,I 0,I 0,I 0,I 0] 104:=cC dv _;have p2:=P2.below ao;exact⟨rfl,p2.cell 0,p2.cell 1,p2.cell 2,p2.cell 3,p2.cell 4,p2.frozen 0,p2.frozen 1,p2.frozen 2,p2.frozen 3,p2.frozen 4,p2.lt,p2,ig⟩
   clear j9 dT gm eY q1 dy fE hf nG nc wR p_ MY Rq Cs aL;generalize ti:lt.join saw=ob at*;go_cut[7] (fun Th wc=>∃jI,Th=bl jI∧Hid (dv.heap.size<=jI∧aQ wc jI ob.cells 104∧ax dv wc))
   case first=>
    go_region_with(first|(go_at_call 118;show Calls _ _ _ (World.drew (World.alloc _ _)) _;refine H3.o.mono ?_;rintro e w5 ⟨rfl,ek,cI,dq,eW,fo,dm,dz,ei,fG,ib,h0,c7⟩)|(go_at_call 118;refine H2.o.mono ?_;rintro e w5 ⟨rfl,c7⟩))
    all_goals go_wp2_with fail
    all_goals go_meet
    all_goals
     first
      |exact⟨_,rfl,c7.o.size,cC w5 _,c7.o.alloc c7.o.size _⟩
      |exact⟨_,rfl,cv,((((c7.o.1.set 0 _).set 1 _).set 2 _).set 3 _).set 4 _,((((c7.o.2.setCell cv _).setCell cv _).setCell cv _).setCell cv _).setCell cv _⟩
   case rest=>
    obtain⟨jI,rfl,wj⟩:=hcut;have kA:=wj.o.2.2;have jF:=J (dL.o.later kA);have Rp:=Lr.o.1.below kA;have r9:=qA.o.below kA;have n7:=wj.o.2.1;have auf:dv.heap.size<=jI:=wj.o.1;have Po:=J dL.o.row;have zd:=n7.lt;clear cY s2 fX hI sG uz t0 t1 t2 t3 t4;have cY:=r9.c0;have s1:=r9.c1;have u0:wc.cell? (aa jI rep)=some (I (ob.get rep)):=by rw[n7.cell rep];exact C6 _ qV
    have u1:wc.frozen? (aa jI rep)=false:=n7.frozen rep;clear H2 H3;go_upto_region 8 with(fail);have n8:aQ (wc.setCell (aa jI rep) (I (seq-1))) jI (ob.put rep (seq-1)).cells 104:=by rw[<-Tj _ qV];exact n7.set rep _
    have x3:=Rp.other (p:=(aa jI rep)) (by show w.heap.size≠jI;omega) (I (seq-1));have LX:=r9.other (p:=(aa jI rep)) (by show wr.heap.size≠jI;omega) (I (seq-1));have Uu:=jF.o.cZ.setCell (p:=(aa jI rep)) (by show w.heap.size<=jI;omega) (I (seq-1));have KD:(wc.setCell (aa jI rep) (I (seq-1))).ownsRow w.heap.size 104 5 (.slice a0 pH c0) k ((wM nC ((l.map Prod.fst).take k)).flatMap aW.cells):=by
     refine pL jF.o.row fun q ad=>rb _ _ _ _ fun e=>?_
     have h1:=(Po.o.lt q ad).2;have dI:q=jI:=e;omega
    clear u0 u1 cY s1 n7 Rp r9 jF wj kA dL;have Bz:=J (⟨x3,LX,Uu,KD⟩:_∧_∧_∧_);have aue:jI<(wc.setCell (aa jI rep) (I (seq-1))).heap.size:=n8.lt;generalize ho:ob.put rep (seq-1)=dZ at*;have U0:Hid (rT (oe nC ((l.map Prod.fst).take k)) ⟨rep,seq,saw,m⟩=dZ):=by
     show rT _ _=dZ
     rw[<-ho,<-ti,Lr.o.2.1,<-Lr.o.2.2];rfl
    clear ho ti;generalize World.setCell _ _ _=k9 at*;have cY:=LX.c0;have v0:=n8.c0;have v1:=n8.c1;have v2:=n8.c2;have v3:=n8.c3;have v4:=n8.c4;have p_:∀j,j<5->k9.cell? (aa (w.heap.size) (rep*5+j))=some (I ((eX rep).get j)):=fun j af=>by rw[x3.cell (rep*5+j)];exact NA eX qV af
    have c8:k9.cell? (aa (w.heap.size) (rep*5))=some (I (eX rep).a):=p_ 0 (by omega);have dr:k9.cell? (aa (w.heap.size) (rep*5+1))=some (I (eX rep).b):=p_ 1 (by omega);have en:k9.cell? (aa (w.heap.size) (rep*5+2))=some (I (eX rep).c):=p_ 2 (by omega);have d_:k9.cell? (aa (w.heap.size) (rep*5+3))=some (I (eX rep).d):=p_ 3 (by omega);have ev:k9.cell? (aa (w.heap.size) (rep*5+4))=some (I (eX rep).e):=p_ 4 (by omega);have dm:k9.frozen? (aa (w.heap.size) (rep*5))=false:=x3.frozen _;have dz:k9.frozen? (aa (w.heap.size) (rep*5+1))=false:=x3.frozen _;have ei:k9.frozen? (aa (w.heap.size) (rep*5+2))=false:=x3.frozen _;have fG:k9.frozen? (aa (w.heap.size) (rep*5+3))=false:=x3.frozen _;have ib:k9.frozen? (aa (w.heap.size) (rep*5+4))=false:=x3.frozen _;have U1:=J n8;clear x3 LX Uu KD n8 p_;go_upto_region 9 with(fail);have Kb:=((((Bz.o.1.set (rep*5) (I dZ.a)).set (rep*5+1) (I dZ.b)).set (rep*5+2) (I dZ.c)).set (rep*5+3) (I dZ.d)).set (rep*5+4) (I dZ.e);rw[aal eX qV dZ]at Kb;have My:Touch (fun q=>q=w.heap.size) k9 (((((k9.setCell (aa (w.heap.size) (rep*5)) (I dZ.a)).setCell (aa (w.heap.size) (rep*5+1)) (I dZ.b)).setCell (aa (w.heap.size) (rep*5+2)) (I dZ.c)).setCell (aa (w.heap.size) (rep*5+3)) (I dZ.d)).setCell (aa (w.heap.size) (rep*5+4)) (I dZ.e)):=
     (((((Touch.refl (fun q=>q=w.heap.size) k9).setCell (p:=(aa (w.heap.size) (rep*5))) (Or.inl rfl) _).setCell (p:=(aa (w.heap.size) (rep*5+1))) (Or.inl rfl) _).setCell (p:=(aa (w.heap.size) (rep*5+2))) (Or.inl rfl) _).setCell (p:=(aa (w.heap.size) (rep*5+3))) (Or.inl rfl) _).setCell (p:=(aa (w.heap.size) (rep*5+4))) (Or.inl rfl) _
    clear cY v0 v1 v2 v3 v4 c8 dr en d_ ev dm dz ei fG ib;generalize World.setCell _ _ _=vQ at*;have n9:=U1.o.ay My (by omega);have Uv:ax w vQ:=qH Bz.o.2.2.1 My cv Bz.o.2.2.1.size;have abJ:vQ.ownsRow w.heap.size 104 5 (.slice a0 pH c0) k ((wM nC ((l.map Prod.fst).take k)).flatMap aW.cells):=by
     refine pL Bz.o.2.2.2 fun q ad=>My.block q (Bz.o.2.2.2.lt q ad).2 fun e=>?_
     exact NY Bz.o.1 Bz.o.2.2.2 (by decide) (by rw[ad,e])
    have v0:=n9.c0;have v1:=n9.c1;have v2:=n9.c2;have v3:=n9.c3;have v4:=n9.c4;have lA:=J (⟨Kb,Uv,abJ⟩:_∧_∧_);clear n9 Kb Uv abJ My Bz U1;go_wp2_with(at_builtin;refine yw _ rfl _ _ 209 rfl w.heap.size 104 i0 mi.val 5 40 underlying209 aq dC dM dK rfl (by decide) _ _ _ rfl (lA.o.2.2.alloc _) (aa (vQ.heap.size) 0) 1 1 dZ.cells rfl rfl (V3 vQ dZ.cells _) (by intro gD iS;simp at iS;rcases iS with rfl|rfl|rfl|rfl|rfl<;>rfl) (by unfold maxLen;omega) (by omega) (by have:=lA.o.2.1.size;simp;omega) ?_;intro v' an y6 ka bS;obtain⟨cO,og,c1,rfl⟩:=A2 y6;have h4:=J (⟨y6,ka⟩:_∧_);clear y6 ka bS)
    have ad_:Hid (FI w (l.map Prod.fst) (k+1) (.slice cO og c1) an):=by
     have aM:=h4.o.2;refine⟨(lA.o.2.1.alloc lA.o.2.1.size _).grown aM (by have:=lA.o.2.1.size;simp;omega) (fun q ad=>(lA.o.2.2.lt q ad).1),?_,?_⟩
     ·rw[cm.o.2,Nz,U0.o,Lr.o.2.1]
      exact(lA.o.1.alloc _).move (aM.block _ (by have:=lA.o.1.lt;simp;omega) (fun e=>NY lA.o.1 lA.o.2.2 (by decide) e.symm))
     ·rw[cm.o.2,aa1,U0.o,r3,kf,Bl,qu]
      exact h4.o.1
    clear h4 lA;exact⟨⟨k+1,_,_,_,by omega,by go_num,rfl,ad_.o⟩,by simp[intOf];omega⟩
  ·have iA:k=l.length:=by omega
   subst iA;go_wp2_with fail
   go_ret;refine⟨_,rfl,?_,aL.o.cZ⟩;have a:=aL.o.row;rw[lQ (by simp)]at a;exact a
open Go.Maps (Keyed)
theorem Wu:Keyed prog 62:=Maps.Keyed.of_law (deep_law_laid (m:=6) (by kernel_rfl) (by omega) (sM (by kernel_rfl)) (by kernel_rfl) (by kernel_rfl))
theorem aha (p q:bF)(h:p.val=q.val):p=q:=by
 obtain⟨a,b⟩:=p;obtain⟨c,d⟩:=q;simp only[bF.val,Value.agg.injEq,Array.mk.injEq,List.cons.injEq,Value.int.injEq,true_and,and_true]at h;obtain⟨rfl,rfl⟩:=h;rfl
theorem Wt (x:bF)(aH:(Lit.int .i64 x.rep).wf=true)(bd:(Lit.int .i64 x.seq).wf=true):∃cQ,keyOf prog 62 x.val=some cQ:=by
 have hk:prog.keyType 62=true:=by kernel_rfl
 have bm:x.val.formed prog 62=true:=by simp[Value.formed,underlying62,P3]
 have aB:prog.types.size+1=(prog.types.size-1)+2:=by have:=SG;omega
 have aC:prog.keyLits (prog.types.size+1) 62 x.val.cells.toList=some [.int .i64 x.rep,.int .i64 x.seq]:=by
  rw[aB];exact Wv _ _ _ aH bd
 refine⟨.string (keyBytes [.int .i64 x.rep,.int .i64 x.seq]),?_⟩;unfold keyOf;rw[underlying62];simp only[hk,bm,aC];rfl
theorem aq3 (w:World):(zeroValue 104).run prog w= .ok mi.val w:=by kernel_rfl
theorem ZS {s:Int}(aS: -9223372036854775808<=s)(h1:s<=9223372036854775807):(Lit.int .i64 s).wf=true:=by
 have aP:IntKind.i64.min= -9223372036854775808:=by decide
 have ba:IntKind.i64.max=9223372036854775807:=by decide
 simp only[Lit.wf,aP,ba,qv,mo];omega
def pc:List (bF×aW)->bF->Option aW
 |[]=>fun _=>none
 |x::l=>fun d=>(pc l d).or (if d=x.1 then some x.2 else none)
theorem aaY:∀(l:List (bF×aW)) (x:bF×aW),pc (l++[x])=fun d=>if d=x.1 then some x.2 else pc l d
 |[],x=>by funext d;simp[pc]
 |a::l,x=>by
  funext d;show(pc (l++[x]) d).or _=_
  rw[aaY l x];by_cases c:d=x.1
  ·simp[c]
  ·simp[c,pc]
abbrev dt.dot (t:dt):bF:=⟨t.rep,t.seq⟩
def p5 (l:List dt):List (bF×aW):=(l.map dt.dot).zip (oh l)
def FL (l:List dt):Prop:=∀t,t∈l->∀r:Nat,r<5->t.saw.zf ((pc (p5 l) ⟨r,t.saw.get r⟩).getD mi)=true
end Go.Proofs.YtiplgdkpnhamaaaGreatDoor
namespace Go.Proofs.YtiplgdkpnhamaaaGreatDoor.Tv
open Go.Proofs.Tryz List
open Go.RowKit
variable {d':aZ}{l:List aT}{o:Nat->Tag}{r:Nat}{tx:Int}{v:Value}
structure dD where
 aY:Nat->aW
 gone:Nat->Nat
def rU:dD:=⟨fun _=>mi,fun _=>0⟩
def cL (u:aT):dt:=⟨u.rep.toNat,u.seq,bJ u.saw,gz u.ops⟩
def h8 (hs:List aT)(r g:Nat):List aT:=(hs.filter fun u=>decide (u.rep=(r:Int))).drop g
structure BG (w:World)(p:Nat->Own)(r:Nat)(v:Value)(l:List aT):Prop where
 ex:∃bb:List (dt×Nat),bb.map Prod.fst=l.map cL∧gZ w p (.held r) 139 8 v bb.length (bb.flatMap ia)∧∀y,y∈bb->p y.2= .held 5∧nT w y
theorem BG.fp {w w':World}{p p':Nat->Own}(h:BG w p r v l)(hm:∀q,q<w.heap.size->(p q= .held r∨p q= .held 5)->w'.heap[q]?=w.heap[q]?∧p' q=p q):BG w' p' r v l:=by
 obtain⟨bb,h1,ae,aH⟩:=h.ex;refine⟨bb,h1,ae.fp fun q ad e=>?_,fun y b9=>?_⟩
 ·have:=hm q ad (Or.inl e);exact⟨this.1,this.2.trans e⟩
 ·obtain⟨a,b⟩:=aH y b9
  have:=hm y.2 b.lt (Or.inr a);exact⟨this.2.trans a,cV.move b this.1⟩
theorem BG.ay {A:Own->Prop}{w w':World}{p p':Nat->Own}(h:BG w p r v l)(k:bA A w p w' p')(h1:¬A (.held r))(ae:¬A (.held 5)):BG w' p' r v l:=
 h.fp fun q ad e=>⟨k.ay.block q ad (by rcases e with e|e<;>rw[e]<;>assumption),k.same q ad⟩
structure fH (bg:dD)(w:World)(p:Nat->Own)(b n i:Nat)(d:aZ)(aE:Nat)(st:b5)(b8 tbs cX:Nat->Nat)(av aY:List Value):Prop where
 U:fS w p .rep b (nH i n aE av aY (ux d tbs)) 114
 hlen:av.length=5
 lL:aY.length=25
 hR:fR w p aE (48*d.hs.length) st
 ok:jw n i d st b8
 held:∀r (h:r<av.length),BG w p r av[r] (h8 d.hs r (bg.gone r))
 tx:∀k t,d.bH k=some t->DL w p k (b8 k) (tbs k) (cX k) t
 A7:∀c,c∈st.bW.map ej.U->∃j,(d.bH j).isSome∧c=b8 j
 known:aY=AX bg.aY
 xF:∀r,bg.gone r<=e1 d.hs r
def gP (bg:dD)(w:World)(p:Nat->Own)(b n i:Nat)(d:aZ):Prop:=∃aE st b8 tbs cX av aY,fH bg w p b n i d aE st b8 tbs cX av aY
section
variable {bg:dD}{w w':World}{p p':Nat->Own}{b n i k:Nat}{d:aZ}{aE:Nat}{st:b5}{b8 tbs cX:Nat->Nat}{av aY:List Value}{t:aT}{e8 aV mb:Nat}
theorem fH.move (h:fH bg w p b n i d aE st b8 tbs cX av aY)(hm:∀q,q<w.heap.size->p q≠.other->w'.heap[q]?=w.heap[q]?∧p' q=p q):fH bg w' p' b n i d aE st b8 tbs cX av aY:=by
 have f:∀u,u≠Own.other->∀q,q<w.heap.size->p q=u->w'.heap[q]?=w.heap[q]?∧p' q=u:=fun u hu q ad e=>by
  have:=hm q ad (by rw[e];exact hu);exact⟨this.1,this.2.trans e⟩
 obtain⟨cg,bM,b6,bU,b4,bB,ah,hs⟩:=h.hR;exact⟨h.U.fp (f _ (by simp)),h.hlen,h.lL,⟨cg,bM,b6,bU,b4,bB,ah,hs.move fun q ad e=>hm q ad (fun c=>by rw[c]at e;exact e)⟩,h.ok,fun r aJ=>(h.held r aJ).fp fun q ad e=>hm q ad (by rcases e with e|e<;>rw[e]<;>simp),fun k t e=>(h.tx k t e).move hm,h.A7,h.known,h.xF⟩
theorem gP.move (h:gP bg w p b n i d)(hm:∀q,q<w.heap.size->p q≠.other->w'.heap[q]?=w.heap[q]?∧p' q=p q):gP bg w' p' b n i d:=by
 obtain⟨aE,st,b8,tbs,cX,av,aY,h⟩:=h;exact⟨aE,st,b8,tbs,cX,av,aY,h.move hm⟩
theorem fH.below (h:fH bg w p b n i d aE st b8 tbs cX av aY)(hb:ax w w'):fH bg w' p b n i d aE st b8 tbs cX av aY:=h.move fun q ad _=>⟨hb.block q ad,rfl⟩
theorem fH.S0 (h:fH bg w p b n i d aE st b8 tbs cX av aY)(e:d.bH k=some t):k<6:=by
 by_cases c:k<6
 ·exact c
 ·rw[h.ok.KM k (by omega)]at e;cases e
theorem fH.acr (h:fH bg w p b n i d aE st b8 tbs cX av aY):st.bW.length<=6:=by
 have a:=Kl (l:=st.bW.map ej.U) (m:=(List.range 6).map b8) h.ok.ns.wf.qK (fun c aA=>by
  obtain⟨j,h1,ae⟩:=h.A7 c aA;obtain⟨t,al⟩:=mn.1 h1;exact gF.2 ⟨j,mem_range.2 (h.S0 al),ae.symm⟩)
 simpa using a
theorem fH.Ae (h:fH bg w p b n i d aE st b8 tbs cX av aY)(hk:k<6):w.cell? (aa b (33+k))=some (lO d tbs k):=by
 rw[h.U.U.cell (33+k),Od h.hlen h.lL,NS hk]
theorem fH.cellOf (h:fH bg w p b n i d aE st b8 tbs cX av aY):w.cell? (aa b 0)=some (I i)∧w.cell? (aa b 1)=some (I n)∧w.cell? (aa b 2)=some (bl aE):=by
 refine⟨?_,?_,?_⟩
 ·rw[h.U.U.cell 0];rfl
 ·rw[h.U.U.cell 1];rfl
 ·rw[h.U.U.cell 2];rfl
theorem fH.IN (h:fH bg w p b n i d aE st b8 tbs cX av aY)(e:du d tx=none):
  Calls prog 60 #[bl b,I tx] w (bx (.pointer none) fun w'=>w'=w):=by
 by_cases aJ:tx<0∨6<=tx
 ·exact ahR w b tx aJ
 ·obtain⟨k,rfl⟩:∃k:Nat,tx=k:=⟨tx.toNat,by omega⟩
  have hk:k<6:=by omega
  unfold du at e;rw[if_pos (by omega)]at e;have aA:=h.Ae hk;unfold lO at aA;rw[show(k:Int).toNat=k by omega]at e;rw[e]at aA;exact WX w b k _ hk aA
theorem fH.F7 (h:fH bg w p b n i d aE st b8 tbs cX av aY)(e:du d tx=some t):
  ∃k:Nat,tx=k∧k<6∧d.bH k=some t∧Calls prog 60 #[bl b,I tx] w (bx (bl (tbs k)) fun w'=>w'=w):=by
 unfold du at e;split at e
 ·rename_i aS
  obtain⟨k,rfl⟩:∃k:Nat,tx=k:=⟨tx.toNat,by omega⟩;rw[show(k:Int).toNat=k by omega]at e;have hk:=h.S0 e;have aA:=h.Ae hk;unfold lO at aA;rw[e]at aA;exact⟨k,rfl,hk,e,WX w b k _ hk aA⟩
 ·cases e
end
structure nQ (w:World)(p:Nat->Own)(w':World)(p':Nat->Own):Prop where
 ay:Touch (fun q=>p q≠.other) w w'
 stay:∀q,q<w.heap.size->p' q≠.other->p q≠.other
theorem bA.G7 {w w':World}{p p':Nat->Own}(h:bA kn w p w' p'):nQ w p w' p':=⟨h.ay,fun q ad e=>by rw[<-h.same q ad];exact e⟩
theorem nQ.trans {w an w2:World}{p dk eu:Nat->Own}(h:nQ w p an dk)(k:nQ an dk w2 eu):nQ w p w2 eu:=by
 refine⟨h.ay.trans (k.ay.mono fun q ad aU=>?_),fun q ad e=>h.stay q ad (k.stay q (hV ad h.ay.size) e)⟩;by_cases hw:q<w.heap.size
 ·exact Or.inl (h.stay q hw aU)
 ·exact Or.inr (by omega)
def aX (bg:dD)(w:World)(o:Nat->Tag)(t:Tag)(b n i:Nat)(d:aZ):Prop:=∃p:Nat->Own,(∀q,q<w.heap.size->p q≠.other->o q=t)∧gP bg w p b n i d
theorem aX.move {bg:dD}{w w':World}{o':Nat->Tag}{t:Tag}{b n i:Nat}{d:aZ}(h:aX bg w o t b n i d)(hm:∀q,q<w.heap.size->o q=t->w'.heap[q]?=w.heap[q]?∧o' q=t):aX bg w' o' t b n i d:=by
 obtain⟨p,h1,ae⟩:=h;refine⟨fun q=>if q<w.heap.size then p q else .other,fun q ad bS=>?_,ae.move fun q ad bS=>⟨(hm q ad (h1 q ad bS)).1,by simp[ad]⟩⟩;dsimp only at bS
 split at bS
 ·rename_i c;exact(hm q c (h1 q c bS)).2
 ·exact absurd rfl bS
theorem aX.NT {bg:dD}{w w':World}{t:Tag}{b n i:Nat}{p p':Nat->Own}(h1:∀q,q<w.heap.size->p q≠.other->o q=t)(h:gP bg w' p' b n i d')(k:nQ w p w' p'):∃o',aX bg w' o' t b n i d'∧ct (·=t) w o w' o':=by
 refine⟨gX o w.heap.size fun _=>t,⟨p',fun q ad bS=>?_,h⟩,⟨k.ay.mono fun q ad e=>h1 q ad e,fun q ad=>nF ad⟩⟩;by_cases c:q<w.heap.size
 ·rw[nF c];exact h1 q c (k.stay q c bS)
 ·rw[qj (by omega)]
theorem aX.OW {bg:dD}{w w':World}{t:Tag}{b n i:Nat}{p p':Nat->Own}(h1:∀q,q<w.heap.size->p q≠.other->o q=t)(h:gP bg w' p' b n i d')(k:bA kn w p w' p'):∃o',aX bg w' o' t b n i d'∧ct (·=t) w o w' o':=aX.NT h1 h (bA.G7 k)
theorem alH {n i:Nat}{d:aZ}{st:b5}{b8:Nat->Nat}(h:jw n i d st b8)(bI:d.hs.length<=1100000){m:Nat}(hm:m<=40000000):ku st m:=fun s hs=>by
 have:=h.aad s hs;omega
theorem WG {bg:dD}{w:World}{p:Nat->Own}{b n i k:Nat}{d:aZ}{aE:Nat}{st:b5}{b8 tbs cX:Nat->Nat}{av aY:List Value}{t:aT}(h:fH bg w p b n i d aE st b8 tbs cX av aY)(bI:d.hs.length<=1100000)(al:d.bH k=some t):
  Calls prog 65 #[bl b,I k] w fun e w'=>e= .returned (.tuple #[])∧∃p' jP,fH bg w' p' b n i {d with bH:=fP d.bH k none} aE jP b8 tbs cX av aY∧bA kn w p w' p'∧DL w' p' k (b8 k) (tbs k) (cX k) t∧
   aQ w' (b8 k) [bl aE,I (bJ t.saw).a,I (bJ t.saw).b,I (bJ t.saw).c,I (bJ t.saw).d,I (bJ t.saw).e,.slice none 0 0] 186:=by
 have hk:=h.S0 al;obtain⟨eP,s,hs,hb,im⟩:=h.ok.bH k t al;have aD:=h.tx k t al;have fh:=agC h.hR h.ok.ns.wf hs (alH h.ok bI (by have:=h.ok.aad s hs;omega)) (by omega);rw[hb]at fh;have c1:=h.Ae hk;unfold lO at c1;rw[al]at c1;have ky:=c1;have c2:=aD.U.U.c0;have eF:=h.U.U.lt;have dY:=aD.U.U.lt;have aP:¬(k:Int)<0:=by omega
 have ba:(k:Int)<6:=by omega
 have qB:=J fh;have aO:=J (⟨h,aD,hs,hb,im⟩:_∧_∧_∧_∧_);have dA:=J al;clear h aD hs hb im eP fh c1 al;go_enter func65,ntmps65;go_wp2_with fail
 refine qB.o.mono ?_;rintro e an ⟨rfl,dk,u9,l9,aF⟩;obtain⟨h,aD,hs,hb,im⟩:=aO.o;have bT:=h.U.ay l9 (by simp[dN]);have d1:an.cell? (aa b (33+k))=some (bl (tbs k)):=by
  rw[bT.U.cell (33+k),Od h.hlen h.lL,NS hk];unfold lO;rw[dA.o];rfl
 have f1:=bT.U.frozen (33+k);have ln:=bT.U.lt;have H1:=J (⟨u9,l9,aF,bT⟩:_∧_∧_∧_);clear h aD hs hb im u9 l9 aF bT ky c2;go_wp2_with fail
 go_end0;obtain⟨h,aD,hs,hb,im⟩:=aO.o;obtain⟨u9,l9,aF,bT⟩:=H1.o;have dy:bA (·= .rep) an dk (an.setCell (aa b (33+k)) (.pointer none)) dk:=(bA.refl _ _ _).set (p:=(aa b (33+k))) bT.tag _;have KC:bA kn w p (an.setCell (aa b (33+k)) (.pointer none)) dk:=(l9.mono fun u hu=>Ox hu).trans (dy.mono fun u hu=>by rw[hu];simp[kn]);have c6:=bT.set (33+k) (.pointer none);rw[ab4 h.hlen h.lL,am0 hk]at c6;have wa:fR (an.setCell (aa b (33+k)) (.pointer none)) dk aE (48*d.hs.length) (yO st s):=by
  obtain⟨cg,bM,b6,bU,b4,bB,ah,jX⟩:=u9;exact⟨cg,bM,b6,bU,b4,bB,ah,jX.ay dy (fun u hu e=>by rw[e]at hu;exact hu)⟩
 have aK:∀{gC SO A9 Kf:Nat} {ed:aT},DL w p gC SO A9 Kf ed->DL (an.setCell (aa b (33+k)) (.pointer none)) dk gC SO A9 Kf ed:=fun{gC SO A9 Kf ed} au=>by
  have o1:dk Kf= .own gC:=(l9.same _ au.own.lt).trans au.oj;have m1:cV an 129 Kf ed.ops.length Place.val cG.val (gz ed.ops):=au.own.hP l9 (by rw[au.oj];simp[dN]);exact⟨(au.U.ay l9 (by simp[dN])).ay dy (by simp),o1,m1.hP dy (by rw[o1];simp)⟩
 refine⟨rfl,dk,yO st s,⟨c6,h.hlen,h.lL,wa,h.ok.close (by omega) dA.o hs hb,fun r aJ=>?_,fun gC ed dI=>?_,fun c aA=>?_,h.known,h.xF⟩,KC,aK aD,?_⟩
 ·exact((h.held r aJ).ay l9 (by simp[dN]) (by simp[dN])).ay dy (by simp) (by simp)
 ·by_cases c:gC=k
  ·subst c;rw[show({d with bH:=fP d.bH gC none}:aZ).bH gC=none from qp _ _ _]at dI;cases dI
  ·rw[show({d with bH:=fP d.bH k none}:aZ).bH gC=d.bH gC from nJ c]at dI
   exact aK (h.tx gC ed dI)
 ·have mY:=aA
  unfold yO at mY;rw[(Qn s.kept _).2.1]at mY;obtain⟨cY,g1,rfl⟩:=gF.1 mY;obtain⟨g2,g3⟩:=ra.1 g1;obtain⟨j,gr,gK⟩:=h.A7 cY.U (gF.2 ⟨cY,g2,rfl⟩);refine⟨j,?_,gK⟩;have:j≠k:=fun e=>by subst e;rw[<-hb]at gK;simp[gK]at g3
  show(fP d.bH k none j).isSome
  rw[nJ this];exact gr
 ·rw[im]at aF
  rw[<-hb]at aF⊢;refine aF.other (fun e=>?_) _;have o4:p s.U= .snap s.U:=by
   obtain⟨cg,bM,b6,bU,b4,bB,ah,jX⟩:=h.hR;exact(jX.snap s hs).tag
  have MG:=h.U.tag;have dI:s.U=b:=by first|exact e|exact e.symm
  rw[dI,MG]at o4;cases o4
theorem afj {bg:dD}{w:World}{p:Nat->Own}{b n i:Nat}{d:aZ}(h:gP bg w p b n i d)(bI:d.hs.length<=1100000)(tx:Int):
  Calls prog 34 #[bl b,I tx] w (bx (vR d tx) fun w'=>∃p',gP bg w' p' b n i (tU d tx)∧bA kn w p w' p'):=by
 obtain⟨aE,st,b8,tbs,cX,av,aY,h⟩:=h;cases cu:du d tx with
 |none=>
  have bm:=h.IN cu;have cz:=J bm;have aO:=J h;have eH:vR d tx=I 4:=by unfold vR;rw[cu];rfl
  have iN:tU d tx=d:=by unfold tU;rw[cu];rfl
  rw[eH,iN];clear bm h cu;go_enter func34,ntmps34;go_wp2_with(go_at_call 60;refine cz.o.mono ?_;rintro e an ⟨rfl,rfl⟩)
  go_ret;exact⟨rfl,p,⟨aE,st,b8,tbs,cX,av,aY,aO.o⟩,bA.refl _ _ _⟩
 |some t=>
  obtain⟨k,rfl,hk,fK,bm⟩:=h.F7 cu;have he:=WG h bI fK;have cz:=J bm;have bX:=J he;have eH:vR d k=I 0:=by unfold vR;rw[cu];rfl
  have iN:tU d k={d with bH:=fP d.bH k none}:=by unfold tU II;rw[cu];simp
  rw[eH,iN];clear bm h cu he;go_enter func34,ntmps34;go_wp2_with(first|(go_at_call 60;refine cz.o.mono ?_;rintro e an ⟨rfl,rfl⟩)|(go_at_call 65;refine bX.o.mono ?_;rintro e w2 ⟨rfl,eu,st2,ae,dy,-,-⟩))
  go_ret;exact⟨rfl,eu,⟨aE,st2,b8,tbs,cX,av,aY,ae⟩,dy⟩
end Go.Proofs.YtiplgdkpnhamaaaGreatDoor.Tv
namespace Go.Proofs.YtiplgdkpnhamaaaGreatDoor
open Go.Proofs.Tryz List
open Go.RowKit Go.Sort
variable {B cap g i j k n r:Nat}{L:List dt}{ar:Nat->Nat}{bz sv:Value}{ag:aW}{w w' wr:World}
theorem aqk {base:Nat}{l:List aW}(aJ:w.ownsRow base 104 5 (bo g l.length cap) l.length (l.flatMap aW.cells))(hk:k<l.length)(af:j<5):w.cell? (aa g (k*5+j))=some (I (l[k].get j)):=by
 rw[Fe aJ (k*5+j) (by omega),hC aW.cells 5 (fun _=>rfl) l k j hk af];exact C6 _ af
theorem Qi (L:List dt):(p5 L).length=L.length:=by simp[p5,oh,CO]
theorem ahb (L:List dt)(hk:k<L.length)(gi:k<(p5 L).length):(p5 L)[k]=(L[k].dot,(oh L)[k]'(by rw[oh,CO];exact hk)):=by
 simp[p5]
structure Bt (w:World)(L:List dt)(k:Nat)(aN:Value)(wr:World):Prop where
 cZ:ax w wr
 map:cV wr 62 w.heap.size k bF.val aW.val (pc ((p5 L).take k))
 row:wr.ownsRow (w.heap.size+1) 104 5 aN L.length ((oh L).flatMap aW.cells)
theorem Bt.later {aN:Value}(h:Bt w L k aN wr)(hb:ax wr w'):Bt w L k aN w':=
 ⟨h.cZ.trans (hb.mono h.cZ.size),h.map.move (hb.block _ h.map.lt),pL h.row fun g aM=>hb.block g (h.row.lt g aM).2⟩
theorem agx (w:World)(base:Nat)(l:List (dt×Nat))(bz:Value)(bf:w.ownsRow base 139 8 bz l.length (l.flatMap ia))(aC:l.length<=50000000)(bm:∀x,x∈l->x.1.rep<5∧0<=x.1.seq∧x.1.seq<=9223372036854775807∧x.1.saw.small)(hs:FL (l.map Prod.fst)):
  Calls prog 171 #[bz] w (bx (.tuple #[]) fun w'=>ax w w'):=by
 obtain⟨cA,cap,rfl,AA⟩:=Row.shape (e3 bf ch);have M1:= @run_makeMap prog;generalize bj:w.alloc (.map #[] 0)=W0;have bp:ax w W0:=by rw[<-bj];exact cj _ _
 have dC:W0.heap.size=w.heap.size+1:=by rw[<-bj];simp
 have m0:cV W0 62 w.heap.size 0 bF.val aW.val (pc ((p5 (l.map Prod.fst)).take 0)):=by rw[<-bj];exact cV.made w _ _ _
 have fa:=aa2 W0 base l _ (pL bf fun g aM=>bp.block g (bf.lt g aM).2) aC (fun x au=>⟨(bm x au).1,(bm x au).2.1,(bm x au).2.2.1⟩);have cp:=J fa;have fk:=J (⟨bp,m0⟩:_∧_);have di:=J bj;have bc:=J bf;have cz:=J bm;have Dy:=J hs;clear bj bp m0 fa bf bm hs;go_enter func171,ntmps171;go_wp2_with(go_at_call 125;rw[di.o];refine cp.o.mono ?_;rintro e an ⟨aN,rfl,su,aF⟩;refine gE ?_)
 refine Lib.hid ?_;have ij:(oh (l.map Prod.fst)).length=l.length:=by rw[oh,CO];simp
 have RL:an.ownsRow (w.heap.size+1) 104 5 aN l.length ((oh (l.map Prod.fst)).flatMap aW.cells):=by rw[<-dC];exact su
 obtain⟨xx,Ah,rfl,aiY⟩:=Row.shape (e3 RL ch);have H1:Hid (Bt w (l.map Prod.fst) 0 (.slice xx l.length Ah) an):=⟨fk.o.1.trans (aF.mono fk.o.1.size),fk.o.2.move (aF.block _ fk.o.2.lt),by rw[mO];exact RL⟩;clear su RL aF fk cp di;go_upto_region 2 with(fail);go_loopw[3,4,13] (fun _ _ ii wr=>∃k:Nat,k<=l.length∧ii=I k∧Hid (Bt w (l.map Prod.fst) k (.slice xx l.length Ah) wr)) (fun _ _ ii _=>l.length-(intOf ii).toNat)
 case atStart=>exact⟨0,ch,rfl,H1.o⟩
 case round=>
  clear H1;obtain⟨k,hk,rfl,aL⟩:=hrel;by_cases br:k<l.length
  ·have au:=cz.o l[k] (eT br)
   obtain⟨g,aM,-⟩:=AA.2.2 0 (by omega);subst aM;obtain⟨IQ,MQ,-⟩:=aiY.2.2 0 (by omega);subst MQ;have aA:=fun(j:Nat) (af:j<8)=>KS bc.o aL.o.cZ br af
   have vn:=aL.o.row;rw[mO,<-ij]at vn;have iA:k<(oh (l.map Prod.fst)).length:=by rw[ij];exact br
   have av:=fun(j:Nat) (af:j<5)=>aqk vn iA af
   have Yf:=ahb (l.map Prod.fst) (k:=k) (by simpa using br) (by rw[Qi];simpa using br);generalize ho:(oh (l.map Prod.fst))[k]=dZ at*;have v0:wr.cell? (aa IQ (k*5))=some (I dZ.a):=av 0 (by omega);have v1:wr.cell? (aa IQ (k*5+1))=some (I dZ.b):=av 1 (by omega);have v2:wr.cell? (aa IQ (k*5+2))=some (I dZ.c):=av 2 (by omega);have v3:wr.cell? (aa IQ (k*5+3))=some (I dZ.d):=av 3 (by omega);have v4:wr.cell? (aa IQ (k*5+4))=some (I dZ.e):=av 4 (by omega);have oA:(p5 (l.map Prod.fst)).take (k+1)=(p5 (l.map Prod.fst)).take k++[(l[k].1.dot,dZ)]:=by
    rw[kr (by rw[Qi];simpa using br),Yf];simp
   generalize aw:l[k]=p at*;obtain⟨⟨rep,seq,saw,m⟩,mb⟩:=p;have eY:wr.cell? (aa g (k*8))=some (I rep):=aA 0 (by omega);have q1:wr.cell? (aa g (k*8+1))=some (I seq):=aA 1 (by omega);have qV:rep<5:=au.1;have fW:g<wr.heap.size:=hV (bc.o.lt g rfl).2 aL.o.cZ.size;obtain⟨cQ,dU⟩:=Wt ⟨rep,seq⟩ (Tx (by show(0:Int)<=rep;omega) (by show(rep:Int)<5;omega)) (ZS (by have aS:0<=seq:=au.2.1;show-9223372036854775808<=seq;omega) au.2.2.1);have cm:=J (⟨oA,dU⟩:_∧_);clear au aw oA aA av vn Yf ho dU;go_upto_region 4 with(fail);generalize j9:wr.alloc (.cells #[I dZ.a,I dZ.b,I dZ.c,I dZ.d,I dZ.e] 104)=dv;have dT:ax wr dv:=by rw[<-j9];exact cj _ _
   have gm:aQ dv wr.heap.size dZ.cells 104:=by rw[<-j9];exact cC wr _
   have dL:=J (aL.o.later dT);have cY:=aR.cell (show dv.cell? (aa (wr.heap.size) 0)=some (I dZ.a)from gm.cell 0);have s1:=aR.cell (show dv.cell? (aa (wr.heap.size) 1)=some (I dZ.b)from gm.cell 1);have s2:=aR.cell (show dv.cell? (aa (wr.heap.size) 2)=some (I dZ.c)from gm.cell 2);have fX:=aR.cell (show dv.cell? (aa (wr.heap.size) 3)=some (I dZ.d)from gm.cell 3);have hI:=aR.cell (show dv.cell? (aa (wr.heap.size) 4)=some (I dZ.e)from gm.cell 4);have qk:=aR.cell (bZ dT eY);have dk:=aR.cell (bZ dT q1);clear j9 dT gm eY q1 v0 v1 v2 v3 v4 aL;refine kd (aR dv) 7 (by kernel_rfl) (by kernel_rfl) (cE).drew ?_;simp only[jC,ju,j4,jR];repeat(go_big_quiet_step (fail))
   refine gG ?_;intro _ ds;obtain⟨fq,rfl⟩:=ds;obtain⟨jT,gb⟩:=fq;try dsimp only
   clear cY s1 s2 fX hI qk dk;have jF:=J (dL.o.later gb);obtain⟨kI,JR,Y5,xP⟩:=jF.o.map.store Wu underlying301 aha (by unfold maxLen;omega) cm.o.2 dZ;have Po:Hid (Bt w (l.map Prod.fst) (k+1) (bo IQ l.length Ah) kI):=by
    refine⟨jF.o.cZ.grown xP jF.o.cZ.size (fun q ad=>by have:=kt ad;omega),?_,pL jF.o.row fun q ad=>xP.block q (jF.o.row.lt q ad).2 (fun e=>by have h1:=(jF.o.row.lt q ad).1;have:=kt e;omega)⟩;rw[cm.o.1,aaY];exact Y5
   clear Y5 xP jF dL gb;go_wp2_with fail
   exact⟨⟨k+1,by omega,by go_num,Po.o⟩,by simp[intOf];omega⟩
  ·have iA:k=l.length:=by omega
   subst iA;go_upto_region 7 with(fail);go_loopw[6,7,8,28,34] (fun _ _ _ ii _ Bd=>∃k:Nat,k<=l.length∧ii=I k∧Hid (Bt w (l.map Prod.fst) l.length (.slice xx l.length Ah) Bd)) (fun _ _ _ ii _ _=>l.length-(intOf ii).toNat)
   case atStart=>exact⟨0,ch,rfl,aL.o⟩
   case round=>
    clear aL;obtain⟨k,tj,rfl,aL⟩:=hrel;by_cases br:k<l.length
    ·have au:=cz.o l[k] (eT br)
     obtain⟨g,aM,-⟩:=AA.2.2 0 (by omega);subst aM;have aA:=fun(j:Nat) (af:j<8)=>KS bc.o aL.o.cZ br af
     have JT:=Dy.o l[k].1 (gF.2 ⟨l[k],eT br,rfl⟩);generalize aw:l[k]=p at*;obtain⟨⟨rep,seq,saw,m⟩,mb⟩:=p;have eY:wr.cell? (aa g (k*8))=some (I rep):=aA 0 (by omega);have q1:wr.cell? (aa g (k*8+1))=some (I seq):=aA 1 (by omega);have dy:wr.cell? (aa g (k*8+2))=some (I saw.a):=aA 2 (by omega);have fE:wr.cell? (aa g (k*8+3))=some (I saw.b):=aA 3 (by omega);have hf:wr.cell? (aa g (k*8+4))=some (I saw.c):=aA 4 (by omega);have nG:wr.cell? (aa g (k*8+5))=some (I saw.d):=aA 5 (by omega);have nc:wr.cell? (aa g (k*8+6))=some (I saw.e):=aA 6 (by omega);have wR:wr.cell? (aa g (k*8+7))=some (.map (some mb)):=aA 7 (by omega);have cm:=J (⟨JT,au.2.2.2⟩:_∧_);clear au aw JT aA;go_upto_region 10 with(fail);generalize j9:wr.alloc (.cells #[I rep,I seq,I saw.a,I saw.b,I saw.c,I saw.d,I saw.e,.map (some mb)] 139)=dv;have dT:ax wr dv:=by rw[<-j9];exact cj _ _
     have gm:aQ dv wr.heap.size [I rep,I seq,I saw.a,I saw.b,I saw.c,I saw.d,I saw.e,.map (some mb)] 139:=by rw[<-j9];exact cC wr _
     have dL:=J (⟨aL.o.later dT,gm⟩:_∧_);clear j9 dT gm eY q1 dy fE hf nG nc wR aL;obtain⟨aV,EA⟩:∃aV,wr.heap.size=aV:=⟨_,rfl⟩;rw[EA]at dL;rw[EA];clear EA;go_loopw[7,8,34] (fun _ _ h9 OL=>∃r:Nat,r<=5∧h9=I r∧Hid (Bt w (l.map Prod.fst) l.length (.slice xx l.length Ah) OL∧aQ OL aV [I rep,I seq,I saw.a,I saw.b,I saw.c,I saw.d,I saw.e,.map (some mb)] 139)) (fun _ _ h9 _=>5-(intOf h9).toNat)
     case atStart=>exact⟨0,ch,rfl,dL.o⟩
     case round=>
      clear dL;obtain⟨r,n4,rfl,iY⟩:=hrel;by_cases nZ:r<5
      ·have mE:=EF saw r nZ
       have n_:=cm.o.2 r nZ;have fK:=cm.o.1 r nZ;have g1:(r:Int)<5:=by omega
       obtain⟨gM,o5⟩:∃gM,saw.get r=gM:=⟨_,rfl⟩;simp only[o5]at mE fK n_;obtain⟨cQ,dU⟩:=Wt ⟨r,gM⟩ (Tx (by show(0:Int)<=r;omega) (by show(r:Int)<5;omega)) (ZS (by show-9223372036854775808<=gM;have:=n_.1;omega) (by show gM<=9223372036854775807;have:=n_.2;simp only[lM]at this;omega));obtain⟨dZ,ho⟩:∃dZ,(pc (p5 (l.map Prod.fst)) ⟨r,gM⟩).getD mi=dZ:=⟨_,rfl⟩;rw[ho]at fK;have fX:∀f:dO (aR wr),(Instr.lookup 301 (.map (some w.heap.size)) (.agg #[I r,I gM]) false).run prog f.w= .ok dZ.val f.w:=fun f=>by
        have JE:=iY.o.1.map;rw[lQ (by rw[Qi];simp)]at JE;have a:=(JE.move (f.ok.block _ JE.lt)).lookup Wu underlying301 (aq3 f.w) dU;rw[<-ho];refine a.trans ?_;cases pc (p5 (l.map Prod.fst)) ⟨r,gM⟩<;>rfl
       have hI:∀f:dO (aR wr),Calls prog 130 #[saw.val,dZ.val] f.w fun e fv=>e= .returned (.bool true)∧∃g:dO (aR wr),fv=g.w:=fun f=>aR.call f (by
        have a:=ZU f.w saw dZ;rw[fK]at a;exact a)
       have cw:=J hI;have c2:=aR.cell (show wr.cell? (aa aV 2)=some (I saw.a)from iY.o.2.cell 2);have c3:=aR.cell (show wr.cell? (aa aV 3)=some (I saw.b)from iY.o.2.cell 3);have c4:=aR.cell (show wr.cell? (aa aV 4)=some (I saw.c)from iY.o.2.cell 4);have c5:=aR.cell (show wr.cell? (aa aV 5)=some (I saw.d)from iY.o.2.cell 5);have iG:=aR.cell (show wr.cell? (aa aV 6)=some (I saw.e)from iY.o.2.cell 6);clear fK ho dU o5 hI n_;go_upto_region 12 with(fail);refine kd (aR wr) 8 (by kernel_rfl) (by kernel_rfl) (cE).drew ?_;simp only[jC,ju,j4,jR];repeat(go_big_quiet_step (first|(go_at_call 130;exact cw.o _)))
       refine gG ?_;intro _ ds;obtain⟨fq,rfl⟩:=ds;obtain⟨jT,gb⟩:=fq;try dsimp only
       have aef:=J (⟨iY.o.1.later gb,iY.o.2.below gb⟩:_∧_);clear fX c2 c3 c4 c5 iG cw iY gb mE;go_wp2_with(go_at_call 159;refine(Al _).mono ?_;rintro e kI ⟨rfl,rfl⟩)
       exact⟨⟨r+1,by omega,by go_num,aef.o⟩,by simp[intOf];omega⟩
      ·have aJ:r=5:=by omega
       subst aJ;go_wp2_with fail
       exact⟨⟨k+1,by omega,by go_num,iY.o.1⟩,by simp[intOf];omega⟩
    ·have iA:k=l.length:=by omega
     subst iA;go_wp2_with fail
     go_end0;exact⟨rfl,aL.o.cZ⟩
structure LR (n:Nat)(ag:aW)(t:dt):Prop where
 rep:t.rep<n
 s1:1<=t.seq
 saw:∀k:Nat,k<5->0<=t.saw.get k∧t.saw.get k<=(ag.put t.rep (t.seq-1)).get k∧t.saw.get k<=lM
 o:∀k:Nat,n<=k->t.saw.get k=0
 keys:KeysOf t.wr (na t.wr)
 ord:(na t.wr).Pairwise j0
 cI:1<=(na t.wr).length
 alC:(na t.wr).length<=16
 wr:∀p x,t.wr p=some x->xw p x
theorem SD (v:aW)(hk:k<v.list.length):v.list[k]=v.get k:=by
 simp only[aW.list,lP,w3]at hk;have:k=0∨k=1∨k=2∨k=3∨k=4:=by omega
 rcases this with rfl|rfl|rfl|rfl|rfl<;>rfl
theorem SE (v:aW)(hk:k<5):v.list.getD k 0=v.get k:=by
 have:k=0∨k=1∨k=2∨k=3∨k=4:=by omega
 rcases this with rfl|rfl|rfl|rfl|rfl<;>rfl
theorem T8 (v:aW)(h:∀k:Nat,n<=k->v.get k=0):bJ (v.list.take n)=v:=by
 refine T6 fun k hk=>?_
 have h1:(bJ (v.list.take n)).get k=(v.list.take n).getD k 0:=by
  have:k=0∨k=1∨k=2∨k=3∨k=4:=by omega
  rcases this with rfl|rfl|rfl|rfl|rfl<;>rfl
 rw[h1];by_cases c:k<n
 ·rw[<-SE v hk]
  simp[getD,c]
 ·rw[h k (by omega)]
  exact yT (by simp;omega)
def h_ (F:Nat->Nat->dt)(ar:Nat->Nat)(r:Nat):List dt:=(List.range (ar r)).map (F r)
def fT (F:Nat->Nat->dt)(ar:Nat->Nat)(r:Nat):List dt:=(List.range r).flatMap (h_ F ar)
def vx (F:Nat->Nat->dt)(ar:Nat->Nat)(r:Nat):List dt:=((List.range 5).drop r).flatMap (h_ F ar)
theorem Ty (F:Nat->Nat->dt)(ar:Nat->Nat):vx F ar 0=fT F ar 5:=rfl
theorem aot (F:Nat->Nat->dt)(ar:Nat->Nat):vx F ar 5=[]:=rfl
theorem ab6 (F:Nat->Nat->dt)(ar:Nat->Nat)(aJ:r<5):vx F ar r=h_ F ar r++vx F ar (r+1):=by
 have:r=0∨r=1∨r=2∨r=3∨r=4:=by omega
 rcases this with rfl|rfl|rfl|rfl|rfl<;>rfl
theorem ap8 (F:Nat->Nat->dt)(ar:Nat->Nat)(r:Nat):fT F ar (r+1)=fT F ar r++h_ F ar r:=by
 unfold fT;rw[range_succ,r3,kf,Bl,qu]
theorem aoO (F:Nat->Nat->dt)(ar:Nat->Nat)(r:Nat)(af:j<ar r):(h_ F ar r).take (j+1)=(h_ F ar r).take j++[F r j]:=by
 rw[kr (by simpa[h_]using af)];simp[h_]
theorem Ot (F:Nat->Nat->dt)(ar:Nat->Nat)(r:Nat)(af:j<ar r):(h_ F ar r).drop j=F r j::(h_ F ar r).drop (j+1):=by
 rw[drop_eq_getElem_cons (by simpa[h_]using af)];simp[h_]
theorem ap2 (n:Nat)(a b:List dt):hJ n (a++b)=hJ n a++hJ n b:=by simp[hJ]
theorem ap3 (n:Nat)(t:dt):hJ n [t]=tG n t.saw t.wr:=by simp[hJ]
structure pV (w:World)(L:List dt)(bz:Value)(wr:World):Prop where
 ex:∃bb:List (dt×Nat),bb.map Prod.fst=L∧wr.ownsRow w.heap.size 139 8 bz bb.length (bb.flatMap ia)∧∀y,y∈bb->w.heap.size<=y.2∧nT wr y
theorem pV.rQ (h:pV w L bz wr)(hk:∀q,w.heap.size<=q->q<wr.heap.size->w'.heap[q]?=wr.heap[q]?):pV w L bz w':=by
 obtain⟨bb,h1,ae,aH⟩:=h.ex;refine⟨bb,h1,pL ae fun g aM=>hk g (ae.lt g aM).1 (ae.lt g aM).2,fun y b9=>?_⟩;obtain⟨a,b⟩:=aH y b9;exact⟨a,b.move (hk y.2 a b.lt)⟩
structure z1 (w:World)(ak n:Nat)(t:ByteArray)(m:Bool)(cf:Nat)(u:List UInt8)(ag:aW)(L:List dt)(bz:Value)(wr:World):Prop where
 rd:ga wr ak n t cf
 rem:fU m (t.data.toList.drop cf) u
 e2:Touch (fun q=>q=ak) w wr
 ag:aQ wr w.heap.size ag.cells 104
 IU:pV w L bz wr
theorem z1.later {ak:Nat}{t:ByteArray}{m:Bool}{cf:Nat}{u:List UInt8}{w2:World}(h:z1 w ak n t m cf u ag L bz wr)(hb:ax wr w2):z1 w ak n t m cf u ag L bz w2:=
 ⟨h.rd.later hb,h.rem,h.e2.then (Touch.dh hb),h.ag.below hb,h.IU.rQ fun q _ ad=>hb.block q ad⟩
def adS (w:World)(ak n:Nat)(t:ByteArray)(m:Bool)(cf:Nat)(u:List UInt8)(L:List dt)(e:Ending)(w':World):Prop:=
 Touch (fun q=>q=ak) w w'∧((∃bz,e= .returned bz∧pV w L bz w'∧ga w' ak n t cf∧fU m (t.data.toList.drop cf) u)∨(m=false∧e=fault))
theorem alm:(prog.info? 139).map (fun i=>(i.zero,i.size,i.bytes))=some (some (.agg #[I 0,I 0,I 0,I 0,I 0,I 0,I 0,.map none]),8,64):=by kernel_rfl
theorem apP (w:World)(ak n:Nat)(t:ByteArray)(a:Nat)(cl:List Int)(ag:aW)(F:Nat->Nat->dt)(ar:Nat->Nat)(m:Bool)(u:List UInt8)(h:ga w ak n t a)(hn:n<=5)(fh:cl.length=n)(oU:∀k:Nat,k<5->(bJ cl).get k=ar k)(qQ:∀k (hk:k<cl.length),0<=cl[k]∧cl[k]<=ag.list.getD k 0∧cl[k]<=9223372036854775807)(qW:ag.small)(MI:∀k:Nat,k<5->(ar k:Int)<=ag.get k)(B5:∀r j,r<5->j<ar r->LR n ag (F r j)∧(F r j).rep=r∧(F r j).seq=ag.get r-ar r+1+j)(JT:FL (fT F ar 5))(ZB:(fT F ar 5).length<=50000000)(au:fU m (t.data.toList.drop a) (eZ cl++(hJ n (fT F ar 5)++u)))(al:fI w):
  Calls prog 123 #[bl ak,ag.val] w (adS w ak n t m (a+(eZ cl).length+(hJ n (fT F ar 5)).length) u (fT F ar 5)):=by
 have il:=h.U.lt;obtain⟨i0,aq,dC,dM,dK⟩:=iV alm;generalize bj:w.alloc (.cells #[I ag.a,I ag.b,I ag.c,I ag.d,I ag.e] 104)=W0;have bp:ax w W0:=by rw[<-bj];exact cj _ _
 have v0:aQ W0 w.heap.size ag.cells 104:=by rw[<-bj];exact cC w _
 have fk:Hid (z1 w ak n t m a (eZ cl++(hJ n (fT F ar 5)++u)) ag [] (.slice none 0 0) W0):=
  ⟨h.later bp,au,Touch.dh bp,v0,[],rfl,jD _ _ _ _,fun y b9=>by simp at b9⟩
 have c0:=v0.c0;have c1:=v0.c1;have c2:=v0.c2;have c3:=v0.c3;have c4:=v0.c4;have ff:=J (T9 W0 ak n t a cl ag m _ fk.o.rd hn fh fk.o.rem qQ (al.later bp));have aO:=J h;have di:=J bj;have dA:=J al;have yA:=J (⟨oU,qW,MI,B5,JT,ZB⟩:_∧_∧_∧_∧_∧_);clear h au bj bp al v0 oU qW MI B5 JT ZB qQ;go_enter func123,ntmps123;go_upto_region 1 with(fail);rw[di.o];clear di;go_wp2_with(go_at_call 162;refine ff.o.mono ?_;rintro e w2 ⟨eD,⟨rfl,ae,b_⟩|⟨hm,rfl⟩⟩<;>refine gE ?_)
 all_goals refine Lib.hid ?_
 rotate_left
 ·exact⟨rfl,fk.o.e2.then eD,Or.inr ⟨by first|exact hm|rfl,rfl⟩⟩
 have atc:=fk.o.ag.lt;have bu:Hid (z1 w ak n t m (a+(eZ cl).length) (hJ n (fT F ar 5)++u) ag [] (.slice none 0 0) w2):=
  ⟨ae,b_,fk.o.e2.then eD,fk.o.ag.ay eD (by omega),[],rfl,jD _ _ _ _,fun y b9=>by simp at b9⟩
 clear eD ae b_ ff fk c0 c1 c2 c3 c4;have pn:Hid (∀k:Nat,k<5->(bJ cl).get k=ar k):=yA.o.1;generalize bJ cl=b4 at*;have ati:=bu.o.ag.lt;go_upto_region 4 with(fail);generalize f_:w2.alloc (.cells #[I b4.a,I b4.b,I b4.c,I b4.d,I b4.e] 104)=dH;have b0:ax w2 dH:=by rw[<-f_];exact cj _ _
 have ck:=J (bu.o.later b0);clear f_ b0 bu;obtain⟨ac,QX⟩:∃ac,a+(eZ cl).length=ac:=⟨_,rfl⟩;rw[QX]at ck;have Lf:=J QX;clear QX;go_loopw[6,7,8,9,14] (fun bz _ _ _ eJ wr=>∃(r:Nat) (cA:Option Addr) (pa jV:Nat),r<=5∧eJ=I r∧bz= .slice cA pa jV∧Hid (z1 w ak n t m (ac+(hJ n (fT F ar r)).length) (hJ n (vx F ar r)++u) ag (fT F ar r) (.slice cA pa jV) wr)) (fun _ _ _ _ eJ _=>5-(intOf eJ).toNat)
 case atStart=>exact⟨0,_,_,_,ch,rfl,rfl,by simpa[fT,Ty,hJ]using ck⟩
 case round=>
  clear ck;obtain⟨r,cA,pa,jV,aJ,rfl,rfl,aL⟩:=hrel;by_cases br:r<5
  ·have mE:=EF b4 r br
   rw[pn.o r br]at mE;have Yc:=yA.o.2.2.1 r br;have mf:=yA.o.2.1 r br;have Qd:wr.cell? (aa (w.heap.size) r)=some (I (ag.get r)):=by rw[aL.o.ag.cell r];exact C6 _ br
   have Pb:Hid (∀j,j<ar r->LR n ag (F r j)∧(F r j).rep=r∧(F r j).seq=ag.get r-ar r+1+j):=fun j af=>yA.o.2.2.2.1 r j br af
   have g1:(r:Int)<5:=by omega
   obtain⟨yj,R1⟩:∃yj,ag.get r=yj:=⟨_,rfl⟩;rw[R1]at Qd Yc mf Pb;have aS:0<=yj:=mf.1;have h1:yj<=1844674407370955161:=mf.2;obtain⟨c,aA⟩:∃c,ar r=c:=⟨_,rfl⟩;rw[aA]at mE Yc Pb;have dj:=J (⟨aA,R1⟩:_∧_);clear aA mf R1;go_upto_region 7 with(fail);have xT:(h_ F ar r).length=c:=by rw[<-dj.o.1];simp[h_]
   go_loopw[6,9] (fun bz ss OL=>∃(j:Nat) (cA:Option Addr) (pa jV:Nat),j<=c∧ss=I (yj-c+1+j)∧bz= .slice cA pa jV∧Hid (z1 w ak n t m (ac+(hJ n (fT F ar r++(h_ F ar r).take j)).length) (hJ n ((h_ F ar r).drop j++vx F ar (r+1))++u) ag (fT F ar r++(h_ F ar r).take j) (.slice cA pa jV) OL)) (fun _ ss _=>(yj+1-intOf ss).toNat)
   case atStart=>exact⟨0,_,_,_,ch,by simp,rfl,by simpa[ab6 F ar br]using aL⟩
   case round=>
    clear aL Qd;obtain⟨j,cA,pa,jV,af,rfl,rfl,aL⟩:=hrel;have Qd:wr.cell? (aa (w.heap.size) r)=some (I yj):=by rw[aL.o.ag.cell r,<-dj.o.2];exact C6 _ br
    by_cases MV:j<c
    ·have XS:=Pb.o j MV
     obtain⟨gM,o5⟩:∃gM:Int,yj-c+1+j=gM:=⟨_,rfl⟩;rw[o5]at XS⊢;have hle:gM<=yj:=by omega
     have nY:1<=gM:=by omega
     have YP:j<ar r:=by rw[dj.o.1];exact MV
     have y8:=aL.o.rem;have WK:hJ n ((h_ F ar r).drop j++vx F ar (r+1))=tG n (F r j).saw (F r j).wr++hJ n ((h_ F ar r).drop (j+1)++vx F ar (r+1)):=by rw[Ot F ar r YP];simp[hJ]
     rw[WK,mN]at y8;clear WK;have a1:=aoO F ar r YP;generalize F r j=jr at*;obtain⟨rep,seq,saw,eB⟩:=jr;obtain⟨C5,ac4,ac5⟩:=XS;simp only at ac4 ac5;subst ac4;subst ac5;have vo:bJ (saw.list.take n)=saw:=T8 saw C5.o;have ij:(saw.list.take n).length=n:=by simp[aW.list];omega
     have Gh:=apO wr ak n t _ rep seq (saw.list.take n) eB ag (na eB) m _ aL.o.rd hn br (by omega) (by omega) ij (fun k hk=>by
      have kT:k<5:=by omega
      have aP:(saw.list.take n)[k]=saw.get k:=by rw[getElem_take];exact SD saw _
      have ae:=C5.saw k kT;rw[aP,SE _ kT];exact⟨ae.1,ae.2.1,vC ae.2.2 (by decide)⟩) C5.keys C5.ord C5.cI C5.alC C5.wr (by simpa[tG]using y8) (aO.o.ke dA.o aL.o.e2)
     rw[vo]at Gh;have HX:=J Gh;have gO:=J (⟨a1,o5⟩:_∧_);have d0:=aL.o.ag.c0;have d1:=aL.o.ag.c1;have d2:=aL.o.ag.c2;have d3:=aL.o.ag.c3;have d4:=aL.o.ag.c4;clear Gh y8 a1 vo C5 o5;go_wp2_with(go_at_call 170;refine HX.o.mono ?_;rintro e w5 ⟨nk,⟨b,rfl,cJ,Rv,cS,ql⟩|⟨hm,rfl⟩⟩<;>refine gE ?_)
     all_goals refine Lib.hid ?_
     rotate_left
     ·exact⟨rfl,aL.o.e2.then nk,Or.inr ⟨by first|exact hm|rfl,rfl⟩⟩
     have cR:Hid (z1 w ak n t m (ac+(hJ n (fT F ar rep++(h_ F ar rep).take j)).length+(eZ (saw.list.take n)).length+(ec (na eB).length).length+(jB eB (na eB)).length) (hJ n ((h_ F ar rep).drop (j+1)++vx F ar (rep+1))++u) ag (fT F ar rep++(h_ F ar rep).take j) (.slice cA pa jV) w5):=
      ⟨cS,ql,aL.o.e2.then nk,aL.o.ag.ay nk (by omega),aL.o.IU.rQ fun q h1 ae=>nk.block q ae (by omega)⟩
     have atk:=aL.o.ag.lt;have HS:=J (⟨cJ,Rv⟩:_∧_);have aeZ:Hid (w.heap.size<=w5.heap.size):=cR.o.e2.size;clear nk cS ql cJ Rv HX aL d0 d1 d2 d3 d4;obtain⟨bb,qY,tt,Nr⟩:=cR.o.IU.ex;have mg:bb.length<=50000000:=by
      have e:bb.length=(fT F ar rep++(h_ F ar rep).take j).length:=by rw[<-qY];simp
      have:=yA.o.2.2.2.2.2;rw[<-Ty]at this;have asT:(fT F ar rep++(h_ F ar rep).take j).length<=(vx F ar 0).length:=by
       rw[Ty];have cS:fT F ar 5=fT F ar rep++vx F ar rep:=by
        have:rep=0∨rep=1∨rep=2∨rep=3∨rep=4:=by omega
        rcases this with rfl|rfl|rfl|rfl|rfl<;>simp[fT,vx,List.range,List.range.loop]
       rw[cS,ab6 F ar br];simp only[eN,ng];omega
      omega
     have vL:=J (⟨qY,tt,Nr⟩:_∧_∧_);clear qY tt Nr;go_wp2_with(at_builtin;refine yw _ rfl _ _ 106 rfl w.heap.size 139 i0 (.agg #[I 0,I 0,I 0,I 0,I 0,I 0,I 0,.map none]) 8 64 underlying106 aq dC dM dK rfl (by decide) _ _ _ rfl (vL.o.2.1.alloc _) (aa (w5.heap.size) 0) 1 1 (ia (⟨rep,seq,saw,eB⟩,b)) rfl rfl (V3 w5 (ia (⟨rep,seq,saw,eB⟩,b)) _) (by intro gD iS;simp[ia]at iS;rcases iS with rfl|rfl|rfl|rfl|rfl|rfl|rfl|rfl<;>rfl) (by unfold maxLen;omega) (by omega) (by have:=aeZ.o;simp;omega) ?_;intro v' eS y6 ka bS;obtain⟨cO,og,c1,rfl⟩:=A2 y6;have h4:=J (⟨y6,ka⟩:_∧_);clear y6 ka bS)
     have ad9:Hid (z1 w ak n t m (ac+(hJ n (fT F ar rep++(h_ F ar rep).take (j+1))).length) (hJ n ((h_ F ar rep).drop (j+1)++vx F ar (rep+1))++u) ag (fT F ar rep++(h_ F ar rep).take (j+1)) (.slice cO og c1) eS):=by
      have aM:(w5.alloc (.cells (ia (⟨rep,seq,saw,eB⟩,b)).toArray 139)).grownBy eS (Value.slice cA pa jV).ownBlock:=h4.o.2;have ZR:=vL.o.2.1;have WB:fT F ar rep++(h_ F ar rep).take (j+1)=(fT F ar rep++(h_ F ar rep).take j)++[⟨rep,seq,saw,eB⟩]:=by rw[gO.o.1,mN]
      have eH:ac+(hJ n (fT F ar rep++(h_ F ar rep).take (j+1))).length=ac+(hJ n (fT F ar rep++(h_ F ar rep).take j)).length+(eZ (saw.list.take n)).length+(ec (na eB).length).length+(jB eB (na eB)).length:=by
       rw[WB,ap2,ap3];simp only[tG,eN];omega
      rw[eH];have gB:∀q o,w5.heap[q]?=some o->(∀cs f,o≠Obj.cells cs 139 f)->eS.heap[q]?=w5.heap[q]?:=fun q o ad eV=>by
       have n3:=(w6.1 ad).1;refine(aM.block q (by simp;omega) (fun e=>?_)).trans (iW _ _ _ n3);rcases ZR.2 with⟨dI,-⟩|⟨ue,cap,cur,dI,-,AI,-⟩
       ·rw[dI]at e;simp[Value.ownBlock]at e
       ·rw[dI]at e
        have:ue=q:=by simpa[Value.ownBlock]using e.symm
        subst this;rw[AI]at ad;exact eV _ _ (kt ad).symm
      have rI:∀y:dt×Nat,nT w5 y->nT eS y:=fun y b9=>by
       obtain⟨D,⟨es,clock,g1,-⟩,-⟩:=b9.ex;exact b9.move (gB y.2 _ g1 (fun cs f e=>by cases e))
      refine⟨⟨cR.o.rd.U.move (gB ak _ cR.o.rd.U (fun cs f e=>by injection e with _ e;exact absurd e (by decide))),cR.o.rd.le,cR.o.rd.sm,cR.o.rd.hi⟩,cR.o.rem,?_,cR.o.ag.move (gB _ _ cR.o.ag (fun cs f e=>by injection e with _ e;exact absurd e (by decide))),?_⟩
      ·have ao:Touch (fun q=>q=ak) w (w5.alloc (.cells (ia (⟨rep,seq,saw,eB⟩,b)).toArray 139)):=cR.o.e2.alloc _
       refine⟨aM.os.trans ao.os,aM.tape.trans ao.tape,aM.output.trans ao.output,fx ao.size aM.size,fun q ad bS=>(aM.block q (hV ad ao.size) (fun e=>?_)).trans (ao.block q ad bS)⟩;have:=(ZR.lt q e.symm).1;omega
      ·refine⟨bb++[(⟨rep,seq,saw,eB⟩,b)],?_,?_,fun y b9=>?_⟩
       ·rw[tJ,vL.o.1,WB];rfl
       ·rw[eN,ys,r3,kf,Bl,qu]
        exact h4.o.1
       ·rw[hT,k4]at b9
        rcases b9 with b9|rfl
        ·exact⟨(vL.o.2.2 y b9).1,rI y (vL.o.2.2 y b9).2⟩
        ·exact⟨by have:=HS.o.1;show w.heap.size<=b;omega,rI _ HS.o.2⟩
     clear h4 vL cR HS;have o5:=gO.o.2;exact⟨⟨j+1,_,_,_,by omega,by rw[<-o5];congr 1;omega,rfl,ad9.o⟩,by simp[intOf];omega⟩
    ·have ti:j=c:=by omega
     subst ti;have YK:yj<yj-(j:Int)+1+j:=by omega
     have akA:(h_ F ar r).take j=h_ F ar r:=lQ (by omega);have akw:(h_ F ar r).drop j=[]:=drop_of_length_le (by omega);rw[akA,akw,w1,<-ap8]at aL;go_wp2_with fail
     exact⟨⟨r+1,_,_,_,by omega,by go_num,rfl,aL.o⟩,by simp[intOf];omega⟩
  ·have n4:r=5:=by omega
   subst n4;rw[aot]at aL;obtain⟨bb,qY,tt,Nr⟩:=aL.o.IU.ex;have mg:bb.length=(fT F ar 5).length:=by rw[<-qY];simp
   have ad2:=J (agx wr w.heap.size bb _ tt (by rw[mg];exact yA.o.2.2.2.2.2) (fun x au=>by
    have hm:x.1∈fT F ar 5:=by rw[<-qY];exact gF.2 ⟨x,au,rfl⟩
    obtain⟨r,aJ,hs⟩:=uD.1 hm;obtain⟨j,af,e⟩:=gF.1 hs;have n4:r<5:=by simpa using aJ
    have MV:j<ar r:=by simpa using af
    obtain⟨t1,t2,t3⟩:=yA.o.2.2.2.1 r j n4 MV;have av:=yA.o.2.1 r n4;have aA:=yA.o.2.2.1 r n4;rw[e]at t1 t2 t3;refine⟨by omega,by have:=t1.s1;omega,by rw[t3];have:=av.2;simp only[lM]at this;omega,fun k hk=>⟨(t1.saw k hk).1,(t1.saw k hk).2.2⟩⟩) (by rw[qY];exact yA.o.2.2.2.2.1))
   clear qY tt Nr mg;go_wp2_with(go_at_call 171;refine ad2.o.mono ?_;rintro e E8 ⟨rfl,pB⟩;have lA:=J (aL.o.later pB);clear pB)
   go_ret;refine⟨lA.o.e2,Or.inl ⟨_,rfl,lA.o.IU,?_,?_⟩⟩
   ·rw[Lf.o];exact lA.o.rd
   ·rw[Lf.o];simpa[hJ]using lA.o.rem
theorem pV.low {cr:World}(h:pV w L bz wr)(hs:cr.heap.size<=w.heap.size):pV cr L bz wr:=by
 obtain⟨bb,h1,ae,aH⟩:=h.ex;exact⟨bb,h1,e3 ae hs,fun y b9=>⟨fx hs (aH y b9).1,(aH y b9).2⟩⟩
theorem pV.shape (h:pV w L bz wr):∃a l k,bz= .slice a l k:=by
 obtain⟨bb,h1,ae,aH⟩:=h.ex;exact A2 ae
structure K_ (n i:Nat)(ag:aW)(F:Nat->Nat->dt)(ar:Nat->Nat):Prop where
 n5:n<=5
 lt:i<n
 sm:ag.small
 o:∀k:Nat,n<=k->ag.get k=0
 P6:∀k:Nat,k<5->(ar k:Int)<=ag.get k
 jr:∀r j,r<5->j<ar r->LR n ag (F r j)∧(F r j).rep=r∧(F r j).seq=ag.get r-ar r+1+j
 wS:FL (fT F ar 5)
 Hj:(fT F ar 5).length<=50000000
theorem IC {F:Nat->Nat->dt}(h:K_ n i ag F ar)(aJ:r<5):(h_ F ar r).countP (fun t=>decide (t.rep=k))=if r=k then ar r else 0:=by
 unfold h_;rw[countP_map];have aA:∀j,j∈List.range (ar r)->((fun t:dt=>decide (t.rep=k))∘F r) j=decide (r=k):=fun j af=>by
  simp[(h.jr r j aJ (by simpa using af)).2.1]
 rw[countP_congr (q:=fun _=>decide (r=k)) (fun j af=>by rw[aA j af])];by_cases c:r=k<;>simp[c]
theorem Qb {F:Nat->Nat->dt}(h:K_ n i ag F ar)(hk:k<5):(la (fT F ar 5)).get k=ar k:=by
 have JP:∀t,t∈fT F ar 5->t.rep<5:=fun t al=>by
  obtain⟨r,aJ,hs⟩:=uD.1 al;obtain⟨j,af,rfl⟩:=gF.1 hs;have n4:r<5:=by simpa using aJ
  rw[(h.jr r j n4 (by simpa using af)).2.1];exact n4
 rw[ID _ JP];have e:fT F ar 5=h_ F ar 0++(h_ F ar 1++(h_ F ar 2++(h_ F ar 3++h_ F ar 4))):=by
  simp[fT,List.range,List.range.loop]
 rw[e];simp only[countP_append];rw[IC h (by omega),IC h (by omega),IC h (by omega),IC h (by omega),IC h (by omega)];have:k=0∨k=1∨k=2∨k=3∨k=4:=by omega
 rcases this with rfl|rfl|rfl|rfl|rfl<;>simp
abbrev Kw (w:World)(b:Nat)(i:Int)(v:aW)(bz:Value):World:=(A4 w b i v).setCell ⟨b,6,none⟩ bz
abbrev qG (i:Int)(v:aW)(bz:Value):Value:= .agg #[I i,I v.a,I v.b,I v.c,I v.d,I v.e,bz]
theorem aby {b:Nat}{c8 dr en d_ ev gv nf:Value}{t:TypeId}(i:Int)(v:aW)(bz:Value)(h:aQ w b [c8,dr,en,d_,ev,gv,nf] t):aQ (Kw w b i v bz) b [I i,I v.a,I v.b,I v.c,I v.d,I v.e,bz] t:=by
 have a0:=h.set 0 (I i);have cO:=a0.set 1 (I v.a);have a2:=cO.set 2 (I v.b);have a3:=a2.set 3 (I v.c);have a4:=a3.set 4 (I v.d);have a5:=a4.set 5 (I v.e);exact a5.set 6 bz
theorem abz (w:World)(b:Nat)(i:Int)(v:aW)(bz:Value):Touch (fun q=>q=b) w (Kw w b i v bz):=
 (Kv w b i v).setCell (p:=(aa b 6)) (Or.inl rfl) _
abbrev HA:List Value:=[I 0,I 0,I 0,I 0,I 0,I 0,.slice none 0 0]
noncomputable def qF (n i:Nat)(ag:aW)(L:List dt):List UInt8:=iH 97 n i (ag.list.take n)++(eZ ((la L).list.take n)++hJ n L)
theorem FP (n i:Nat)(ag:aW)(L:List dt):lS n i ag L=qF n i ag L++q4 (qF n i ag L):=rfl
theorem abN (w:World)(n i:Nat)(t:ByteArray)(ag:aW)(F:Nat->Nat->dt)(ar:Nat->Nat)(m:Bool)(eK:K_ n i ag F ar)(hs:t.size<=200000000000)(au:fU m t.data.toList (qF n i ag (fT F ar 5)))(al:fI w):
  Calls prog 80 #[ai t,I n] w fun e w'=>ax w w'∧((t.data.toList=lS n i ag (fT F ar 5)∧∃bz,e= .returned (qG i ag bz)∧pV w (fT F ar 5) bz w')∨(¬t.data.toList=lS n i ag (fT F ar 5)∧e=fault)):=by
 have im:bJ (ag.list.take n)=ag:=T8 ag eK.o;have Ee:∀k:Nat,n<=k->(la (fT F ar 5)).get k=0:=fun k hk=>by
  by_cases cS:k<5
  ·rw[Qb eK cS]
   have h1:=eK.P6 k cS;rw[eK.o k hk]at h1;omega
  ·unfold aW.get aW.list
   rw[kL,tL,yr (by simp;omega)];rfl
 generalize dE:(w.alloc (.cells #[I 0,I 0,I 0,I 0,I 0,I 0,.slice none 0 0] 154)).alloc (.cells #[I n,ai t,I 0] 199)=bR;have aF:ax w bR:=by rw[<-dE];exact((cj _ _)).alloc (by simp) _
 have dc:aQ bR w.heap.size HA 154:=by
  rw[<-dE];exact aQ.alloc (cC w _) _
 have aJ:ga bR (w.heap.size+1) n t 0:=by
  refine⟨?_,ch,hs,by have:=al.room;omega⟩;rw[<-dE,show w.heap.size+1=(w.alloc (.cells #[I 0,I 0,I 0,I 0,I 0,I 0,.slice none 0 0] 154)).heap.size by simp];exact cC _ _
 have ij:(ag.list.take n).length=n:=by have:=eK.n5;simp[aW.list];omega
 have p_:((la (fT F ar 5)).list.take n).length=n:=by have:=eK.n5;simp[aW.list];omega
 have dQ:=Ym bR (w.heap.size+1) n t 0 i 97 (ag.list.take n) m (eZ ((la (fT F ar 5)).list.take n)++(hJ n (fT F ar 5)++[])) aJ eK.n5 eK.lt ij (by simpa[qF]using au) (fun k hk=>by
  have aP:(ag.list.take n)[k]=ag.get k:=by rw[getElem_take];exact SD ag _
  rw[aP];exact eK.sm k (by have:=eK.n5;omega)) (al.later aF)
 rw[show((97:UInt8).toNat:Int)=97 from rfl,vF,im]at dQ;have cD:=J dQ;have aL:=J (⟨aF,dc,aJ⟩:_∧_∧_);have ic:=J dE;have cm:=J au;have dA:=J al;have cM:=J eK;have dj:=J (⟨Ee,p_,ij⟩:_∧_∧_);have fb:t.data.toList.length=t.size:=by simp
 clear dE aF dc aJ dQ au al eK Ee p_ ij im;go_enter func80,ntmps80;go_wp2_with(go_at_call 116;rw[ic.o];refine cD.o.mono ?_;rintro e w2 ⟨eD,⟨rfl,ae,b_⟩|⟨hm,rfl⟩⟩<;>refine gE ?_)
 all_goals refine Lib.hid ?_
 rotate_left
 ·refine⟨rfl,qH aL.o.1 eD (by omega) aL.o.1.size,Or.inr ⟨?_,rfl⟩⟩
  have au:=cm.o;rw[hm]at au;exact Tt au
 have bP:ax w w2:=qH aL.o.1 eD (by omega) aL.o.1.size;have c6:aQ w2 w.heap.size HA 154:=aL.o.2.1.ay eD (by omega);have gV:=ae.U.lt;have jh:=J (⟨bP,c6,ae,b_⟩:_∧_∧_∧_);clear ae b_ eD cD ic bP c6 aL;go_upto_region 3 with(fail);generalize fg:w2.alloc (.cells #[I i,I ag.a,I ag.b,I ag.c,I ag.d,I ag.e] 144)=W2;have se:ax w2 W2:=by rw[<-fg];exact cj _ _
 have vU:aQ W2 w2.heap.size [I i,I ag.a,I ag.b,I ag.c,I ag.d,I ag.e] 144:=by rw[<-fg];exact cC w2 _
 have b0:ax w W2:=jh.o.1.trans (se.mono jh.o.1.size);have dK:=vU.lt;have Gh:=apP W2 (w.heap.size+1) n t _ ((la (fT F ar 5)).list.take n) ag F ar m [] (jh.o.2.2.1.later se) cM.o.n5 dj.o.2.1 (fun k hk=>by rw[T8 _ dj.o.1];exact Qb cM.o hk) (fun k hk=>by
  have kT:k<5:=by have:=cM.o.n5;have:=dj.o.2.1;omega
  have aP:((la (fT F ar 5)).list.take n)[k]=(la (fT F ar 5)).get k:=by rw[getElem_take];exact SD _ _
  have h1:=cM.o.P6 k kT;have ae:=cM.o.sm k kT;rw[aP,Qb cM.o kT,SE _ kT];exact⟨by omega,h1,by have:=ae.2;simp only[lM]at this;omega⟩) cM.o.sm cM.o.P6 cM.o.jr cM.o.wS cM.o.Hj jh.o.2.2.2 (dA.o.later b0)
 have c0:=vU.c0;have c1:=vU.c1;have c2:=vU.c2;have c3:=vU.c3;have c4:=vU.c4;have c5:=vU.c5;have uH:=J (⟨b0,jh.o.2.1.below se,vU⟩:ax w W2∧aQ W2 w.heap.size HA 154∧aQ W2 w2.heap.size _ _);have HX:=J Gh;clear Gh fg se vU b0 jh;go_wp2_with(go_at_call 123;refine HX.o.mono ?_;rintro e bN ⟨lE,⟨bz,rfl,oX,aH,dW⟩|⟨hm,rfl⟩⟩<;>refine gE ?_)
 all_goals refine Lib.hid ?_
 rotate_left
 ·refine⟨rfl,qH uH.o.1 lE (by omega) uH.o.1.size,Or.inr ⟨?_,rfl⟩⟩
  have au:=cm.o;rw[hm]at au;exact Tt au
 obtain⟨pG,tv,lc,rfl⟩:=oX.shape;have b0:ax w bN:=qH uH.o.1 lE (by omega) uH.o.1.size;have ft:(iH 97 n i (ag.list.take n)).length+(eZ ((la (fT F ar 5)).list.take n)).length+(hJ n (fT F ar 5)).length=(qF n i ag (fT F ar 5)).length:=by simp only[qF,eN];omega
 rw[ft]at aH;obtain⟨r,aJ⟩:=ab0 cm.o (by rw[fb];exact aH.le);have rK:t.data.toList.take (qF n i ag (fT F ar 5)).length=qF n i ag (fT F ar 5):=by rw[aJ,take_left]
 have uk:t.data.toList.drop (qF n i ag (fT F ar 5)).length=r:=by rw[aJ,drop_left]
 have he:=abL bN (w.heap.size+1) n t _ aH (dA.o.later b0);rw[rK,uk]at he;have bX:=J he;have bc:=J aJ;have pW:=J (⟨b0,uH.o.2.1.ay lE (by omega),uH.o.2.2.ay lE (by omega),oX⟩:_∧_∧_∧_);clear aH dW lE HX uH rK uk he aJ b0 oX ft c0 c1 c2 c3 c4 c5;go_wp2_with(go_at_call 117;refine bX.o.mono ?_;rintro e cc ⟨fZ,⟨aB,rfl⟩|⟨aB,rfl⟩⟩<;>refine gE ?_)
 all_goals refine Lib.hid ?_
 rotate_left
 ·refine⟨rfl,pW.o.1.trans (fZ.mono pW.o.1.size),Or.inr ⟨fun e=>aB ?_,rfl⟩⟩
  have ba:=bc.o;rw[e,FP]at ba;exact(append_cancel_left ba).symm
 have bn:=J aB;have iQ:=pW.o.2.1.below fZ;have Eb:=pW.o.2.2.1.below fZ;have eE:=iQ.c0;have cB:=iQ.c1;have b_:=iQ.c2;have dW:=iQ.c3;have iw:=iQ.c4;have ql:=iQ.c5;have EW:=iQ.iG;have eY:=iQ.frozen 0;have q1:=iQ.frozen 1;have dy:=iQ.frozen 2;have fE:=iQ.frozen 3;have hf:=iQ.frozen 4;have nG:=iQ.frozen 5;have nc:=iQ.frozen 6;have d0:=Eb.c0;have d1:=Eb.c1;have d2:=Eb.c2;have d3:=Eb.c3;have d4:=Eb.c4;have d5:=Eb.c5;have tR:=J (⟨pW.o.1.trans (fZ.mono pW.o.1.size),iQ,pW.o.2.2.2.rQ fun q _ ad=>fZ.block q ad⟩:ax w cc∧aQ cc w.heap.size HA 154∧pV W2 (fT F ar 5) (.slice pG tv lc) cc);clear aB fZ iQ Eb bX pW;go_wp2_with fail
 have cJ:=aby i ag (.slice pG tv lc) tR.o.2.1;have eO:=abz cc w.heap.size i ag (.slice pG tv lc);unfold Kw A4 at cJ eO;generalize World.setCell _ _ _=jT at*;have cY:=cJ.c0;have s1:=cJ.c1;have s2:=cJ.c2;have fX:=cJ.c3;have hI:=cJ.c4;have sG:=cJ.c5;have uz:=cJ.iG;refine iX (v:=qG i ag (.slice pG tv lc)) (by simp[results,results80,go_sem,cY,s1,s2,fX,hI,sG,uz]) rfl ⟨qH tR.o.1 eO cv tR.o.1.size,Or.inl ⟨?_,_,rfl,?_⟩⟩
 ·rw[bc.o,bn.o];rfl
 ·exact(tR.o.2.2.rQ fun q h1 ae=>eO.block q ae (by omega)).low (by omega)
theorem agq (b6:Nat)(x:Int)(w:World)(aA:eh w b6 0 (I x))(cF:w.frozen? (aa b6 0)=false):
  CallsD prog 122 #[bl b6] (.panicking ({v:= .iface 196 (.agg #[]),recovered:=false}::[])) w fun e gD w'=>
   e= .returned (.tuple #[])∧gD= .panicking ({v:= .iface 196 (.agg #[]),recovered:=true}::[])∧w'=(w.alloc (.cells #[] 196)).setCell (aa b6 0) (I 6):=by
 refine callsD_of_wpS func122 rfl fun DS cs hu=>?_
 apply wpS_seq;apply wpS_region;simp[wpOpsS,go_sem,recoverD,hu,ntmps122,Exit.thenS];refine wpS_of_wp ?_;change Code.wp _ _ _ {tmps:= #[bl b6,undef,undef,undef,.iface 196 (.agg #[]),undef,undef,undef,undef,undef],defers:=[]} _;have aU:=VA;have br:=hU w _ aA;go_wp2_with fail
 cases DS;simp_all [bodyPostS,results,results122]
theorem ags (b6:Nat)(w:World):
  CallsD prog 122 #[bl b6] .returning w fun e gD w'=>e= .returned (.tuple #[])∧gD= .returning∧w'=w:=by
 refine callsD_of_wpS func122 rfl fun DS cs hu=>?_
 apply wpS_seq;apply wpS_region;simp[wpOpsS,go_sem,recoverD,hu,ntmps122,Exit.thenS];refine wpS_of_wp ?_;change Code.wp _ _ _ {tmps:= #[bl b6,undef,undef,undef,.nilIface,undef,undef,undef,undef,undef],defers:=[]} _;go_wp2_with fail
 cases DS;simp_all [bodyPostS,results,results122]
theorem N_ (w:World)(n i:Nat)(t:ByteArray)(ag:aW)(L:List dt)(P:Prop)(u6:∀W,ax w W->Calls prog 80 #[ai t,I n] W fun e w'=>ax W w'∧((P∧∃bz,e= .returned (qG i ag bz)∧pV W L bz w')∨(¬P∧e=fault))):
  Calls prog 79 #[.func (.func 80) #[] #[],ai t,I n] w fun e w'=>ax w w'∧((P∧∃bz,e= .returned (.tuple #[qG i ag bz,I 0])∧pV w L bz w')∨(¬P∧e= .returned (.tuple #[qG 0 mi (.slice none 0 0),I 6]))):=by
 have Rw:∀(fn:Fn) (first cap:Array Value) (w:World),(Instr.makeFunc fn first cap).run prog w= .ok (.func fn first cap) w:=fun _ _ _ _=>rfl
 generalize dE:(w.alloc (.cells #[I 0,I 0,I 0,I 0,I 0,I 0,.slice none 0 0] 154)).alloc (.cells #[I 0] 54)=bR;have aF:ax w bR:=by rw[<-dE];exact((cj _ _)).alloc (by simp) _
 have dc:aQ bR w.heap.size HA 154:=by
  rw[<-dE];exact aQ.alloc (cC w _) _
 have bT:aQ bR (w.heap.size+1) [I 0] 54:=by
  rw[<-dE,show w.heap.size+1=(w.alloc (.cells #[I 0,I 0,I 0,I 0,I 0,I 0,.slice none 0 0] 154)).heap.size by simp];exact cC _ _
 have dj:=J (u6 bR aF);have aL:=J (⟨aF,dc,bT⟩:_∧_∧_);have ic:=J dE;clear u6 dE aF dc bT;go_enter_defers func79,ntmps79
 go_wp2_with(go_at_call 80;rw[ic.o];refine dj.o.mono ?_;rintro e w2 ⟨e6,⟨aB,bz,rfl,fi⟩|⟨aB,rfl⟩⟩<;>refine gE ?_)
 all_goals refine Lib.hid ?_
 ·have bn:=J aB
  obtain⟨pG,tv,lc,rfl⟩:=fi.shape;have zP:Hid (pV bR L (.slice pG tv lc) w2):=fi;have ar0:=aL.o.2.2.lt;clear fi;have dG:Hid (ax w w2∧aQ w2 w.heap.size HA 154∧aQ w2 (w.heap.size+1) [I 0] 54):=⟨aL.o.1.trans (e6.mono aL.o.1.size),aL.o.2.1.below e6,aL.o.2.2.below e6⟩;clear aB e6 dj ic aL;have eE:=dG.o.2.1.c0;have cB:=dG.o.2.1.c1;have b_:=dG.o.2.1.c2;have dW:=dG.o.2.1.c3;have iw:=dG.o.2.1.c4;have ql:=dG.o.2.1.c5;have eY:=dG.o.2.1.frozen 0;have q1:=dG.o.2.1.frozen 1;have dy:=dG.o.2.1.frozen 2;have fE:=dG.o.2.1.frozen 3;have hf:=dG.o.2.1.frozen 4;have nG:=dG.o.2.1.frozen 5;have EW:=dG.o.2.1.iG;have nc:=dG.o.2.1.frozen 6;have cY:=dG.o.2.2.c0;have qk:=dG.o.2.2.frozen 0;go_wp2_with fail
  have eO:=abz w2 w.heap.size i ag (.slice pG tv lc);have cJ:=(aby i ag (.slice pG tv lc) dG.o.2.1).other (p:=(aa (w.heap.size+1) 0)) (by show w.heap.size≠w.heap.size+1;omega) (I 0);have qR:=(dG.o.2.2.ay eO (by omega)).set 0 (I 0);have c7:=(qH dG.o.1 eO cv dG.o.1.size).setCell (p:=(aa (w.heap.size+1) 0)) (pU _) (I 0);have Rb:pV w L (.slice pG tv lc) ((Kw w2 w.heap.size i ag (.slice pG tv lc)).setCell (aa (w.heap.size+1) 0) (I 0)):=(zP.o.rQ fun q h1 ae=>(rb _ (aa (w.heap.size+1) 0) _ q (by show q≠w.heap.size+1;omega)).trans (eO.block q ae (by omega))).low (by omega);unfold Kw A4 at cJ qR c7 Rb;generalize World.setCell _ _ _=jT at*;have t0:=cJ.c0;have t1:=cJ.c1;have t2:=cJ.c2;have t3:=cJ.c3;have t4:=cJ.c4;have t5:=cJ.c5;have t6:=qR.c0;have t7:=cJ.iG;refine leaves_cons (f:=122) (args:= #[bl (w.heap.size+1)]) (by simp) (by simp[go_sem]) ?_;refine(ags (w.heap.size+1) jT).mono ?_;rintro e gD fv ⟨rfl,rfl,rfl⟩;have l8:ax w fv∧((P∧∃bz,(Ending.returned (.tuple #[qG i ag (.slice pG tv lc),I 0]):Ending)= .returned (.tuple #[qG i ag bz,I 0])∧pV w L bz fv)∨(¬P∧(Ending.returned (.tuple #[qG i ag (.slice pG tv lc),I 0]):Ending)= .returned (.tuple #[qG 0 mi (.slice none 0 0),I 6]))):=⟨c7,Or.inl ⟨bn.o,_,rfl,Rb⟩⟩;clear Rb zP;clear c7 cJ qR eO dG bn;simp only[Leaves,settle];refine⟨_,?_,l8⟩;simp[results,results79,go_sem,t0,t1,t2,t3,t4,t5,t6,t7]
 ·have bn:=J aB
  have dG:Hid (ax w w2∧aQ w2 w.heap.size HA 154∧aQ w2 (w.heap.size+1) [I 0] 54):=⟨aL.o.1.trans (e6.mono aL.o.1.size),aL.o.2.1.below e6,aL.o.2.2.below e6⟩;clear aB e6 dj ic aL;refine leaves_cons (f:=122) (args:= #[bl (w.heap.size+1)]) (by simp) (by simp[go_sem]) ?_;refine(agq (w.heap.size+1) 0 w2 (dG.o.2.2.cell 0) (dG.o.2.2.frozen 0)).mono ?_;rintro e gD fv ⟨rfl,rfl,hw⟩;have br:=dG.o.2.2.lt;have cJ:=(dG.o.2.1.alloc (.cells #[] 196)).other (p:=(aa (w.heap.size+1) 0)) (by show w.heap.size≠w.heap.size+1;omega) (I 6);have qR:=(dG.o.2.2.alloc (.cells #[] 196)).set 0 (I 6);have c7:=(dG.o.1.alloc dG.o.1.size (.cells #[] 196)).setCell (p:=(aa (w.heap.size+1) 0)) (pU _) (I 6);rw[<-hw]at cJ qR c7;have t0:=cJ.c0;have t1:=cJ.c1;have t2:=cJ.c2;have t3:=cJ.c3;have t4:=cJ.c4;have t5:=cJ.c5;have t6:=qR.c0;have t7:=cJ.iG;have l8:ax w fv∧((P∧∃bz,(Ending.returned (.tuple #[qG 0 mi (.slice none 0 0),I 6]):Ending)= .returned (.tuple #[qG i ag bz,I 0])∧pV w L bz fv)∨(¬P∧(Ending.returned (.tuple #[qG 0 mi (.slice none 0 0),I 6]):Ending)= .returned (.tuple #[qG 0 mi (.slice none 0 0),I 6]))):=⟨c7,Or.inr ⟨bn.o,rfl⟩⟩;clear c7 cJ qR dG bn hw br;simp only[settle];refine⟨_,?_,l8⟩;simp[results,results79,go_sem,t0,t1,t2,t3,t4,t5,t6,t7,mi]
theorem Wn (w:World){b:Bool}(h:b=false):Calls prog 159 #[.bool b] w fun e w'=>e=fault∧w'=w:=by subst h;exact Mi w
def LJ (c:UInt8)(l:List UInt8):Prop:=l=[]∨∃c' r,l=c'::r∧c'≠c
theorem Yn (w:World)(ak n:Nat)(t:ByteArray)(c:UInt8)(h:ga w ak n t 0)(au:LJ c t.data.toList):
  Calls prog 116 #[bl ak,.int .u8 c.toNat] w fun e w'=>e=fault∧Touch (fun q=>q=ak) w w':=by
 generalize bj:w.alloc (.cells #[I 0,I 0,I 0,I 0,I 0,I 0] 144)=W0;have bp:ax w W0:=by rw[<-bj];exact cj _ _
 have di:=J bj;have Dl:Hid (Touch (fun q=>q=ak) w W0):=Touch.dh bp;rcases au with au|⟨c',r,au,bS⟩
 ·have hs:t.size=0:=by
   have:t.data.toList.length=0:=by rw[au];rfl
   simpa using this
  have cD:=J (acQ W0 ak n t 0 1 (h.later bp) (by omega));clear h au bj bp;go_enter func116,ntmps116;go_wp2_with(go_at_call 160;rw[di.o];refine cD.o.mono ?_;rintro e w2 ⟨rfl,c6⟩)
  exact⟨rfl,rfl,Dl.o.then (Touch.dh c6)⟩
 ·have hs:1<=t.size:=by
   have:t.data.toList.length=r.length+1:=by rw[au];rfl
   have e:t.data.toList.length=t.size:=by simp
   omega
  have hk:=E1 W0 ak n t 0 1 (h.later bp) (by omega);rw[F5,jR,au]at hk;simp only[vF,Nat.sub_zero,jC,ju]at hk;have cD:=J hk;have j_:((c'.toNat:Int)==(c.toNat:Int))=false:=by
   rw[Bg];intro e;exact bS (UInt8.toNat_inj.1 (by omega))
  clear h au bj bp hk;go_enter func116,ntmps116;go_wp2_with(go_at_call 160;rw[di.o];refine cD.o.mono ?_;rintro e w2 ⟨rfl,-,c6⟩;have dG:Hid (Touch (fun q=>q=ak) w w2):=Dl.o.then c6;clear c6)
  go_wp2_with(go_at_call 159;refine(Wn _ (by exact j_)).mono ?_;rintro e bN ⟨rfl,rfl⟩)
  exact⟨rfl,rfl,dG.o⟩
theorem abQ (w:World)(n:Nat)(t:ByteArray)(hs:t.size<=200000000000)(dQ:∀W ak,ax w W->ga W ak n t 0->Calls prog 116 #[bl ak,.int .u8 115] W fun e w'=>e=fault∧Touch (fun q=>q=ak) W w')(ep:6<=w.heap.size):
  Calls prog 75 #[ai t,I n] w fun e w'=>ax w w'∧e=fault:=by
 generalize dE:(w.alloc (.cells #[I 0,I 0,I 0,I 0,I 0,I 0] 144)).alloc (.cells #[I n,ai t,I 0] 199)=bR;have aF:ax w bR:=by rw[<-dE];exact((cj _ _)).alloc (by simp) _
 have aJ:ga bR (w.heap.size+1) n t 0:=by
  refine⟨?_,ch,hs,by omega⟩;rw[<-dE,show w.heap.size+1=(w.alloc (.cells #[I 0,I 0,I 0,I 0,I 0,I 0] 144)).heap.size by simp];exact cC _ _
 have cD:=J (dQ bR (w.heap.size+1) aF aJ);have dF:=J aF;have ic:=J dE;clear dE aF aJ dQ;go_enter func75,ntmps75;go_wp2_with(go_at_call 116;rw[ic.o];refine cD.o.mono ?_;rintro e w2 ⟨rfl,eD⟩)
 exact⟨rfl,qH dF.o eD (by omega) dF.o.size,rfl⟩
theorem abO (w:World)(n:Nat)(t:ByteArray)(hs:t.size<=200000000000)(dQ:∀W ak,ax w W->ga W ak n t 0->Calls prog 116 #[bl ak,.int .u8 97] W fun e w'=>e=fault∧Touch (fun q=>q=ak) W w')(ep:6<=w.heap.size):
  Calls prog 80 #[ai t,I n] w fun e w'=>ax w w'∧e=fault:=by
 generalize dE:(w.alloc (.cells #[I 0,I 0,I 0,I 0,I 0,I 0,.slice none 0 0] 154)).alloc (.cells #[I n,ai t,I 0] 199)=bR;have aF:ax w bR:=by rw[<-dE];exact((cj _ _)).alloc (by simp) _
 have aJ:ga bR (w.heap.size+1) n t 0:=by
  refine⟨?_,ch,hs,by omega⟩;rw[<-dE,show w.heap.size+1=(w.alloc (.cells #[I 0,I 0,I 0,I 0,I 0,I 0,.slice none 0 0] 154)).heap.size by simp];exact cC _ _
 have cD:=J (dQ bR (w.heap.size+1) aF aJ);have dF:=J aF;have ic:=J dE;clear dE aF aJ dQ;go_enter func80,ntmps80;go_wp2_with(go_at_call 116;rw[ic.o];refine cD.o.mono ?_;rintro e w2 ⟨rfl,eD⟩)
 exact⟨rfl,qH dF.o eD (by omega) dF.o.size,rfl⟩
theorem abT (w:World)(n:Nat)(t:ByteArray)(u6:∀W,ax w W->Calls prog 75 #[ai t,I n] W fun e w'=>ax W w'∧e=fault):
  Calls prog 74 #[.func (.func 75) #[] #[],ai t,I n] w fun e w'=>ax w w'∧e= .returned (.tuple #[lJ 0 ⟨0,0,0,0,0⟩,I 6]):=by
 refine(abR w n 0 t ⟨0,0,0,0,0⟩ False fun W ao=>(u6 W ao).mono ?_).mono ?_
 ·rintro e w' ⟨h1,ae⟩
  exact⟨h1,Or.inr ⟨id,ae⟩⟩
 ·rintro e w' ⟨h1,⟨c,-⟩|⟨-,ae⟩⟩
  ·exact c.elim
  ·exact⟨h1,ae⟩
structure e4 where
 x:dt×Nat
 dZ:Int
def yk (y:e4):List Value:=[I y.x.1.rep,I y.x.1.seq,I y.x.1.saw.a,I y.x.1.saw.b,I y.x.1.saw.c,I y.x.1.saw.d,I y.x.1.saw.e,.map (some y.x.2),I y.dZ]
abbrev KB (b7:Nat):Value:= .iface 206 (bl b7)
theorem Ul (ts:Array TypeId)(ty:TypeId)(a:Addr)(s m:String)(w:World):(Builtin.ssaWrapNilChk_ ts ty #[.pointer (some a),strVal s,strVal m]).run prog w= .ok (.pointer (some a)) w:=rfl
theorem amk:((prog.info? 206).bind (fun i=>i.methods.find? (·.name== "Less"))).map (fun m=>(m.path,m.func))=some (#[],some (292,false)):=by kernel_rfl
theorem SK (b7:Nat)(w:World)(aA:eh w b7 0 sv):(method 476 206 (bl b7) "Less").run prog w= .ok (292,sv) w:=by
 have aq:=amk;cases af:prog.info? 206 with
 |none=>rw[af]at aq;cases aq
 |some i=>
  rw[af]at aq;simp only[Option.bind_some]at aq;cases hk:i.methods.find? (·.name== "Less")with
  |none=>rw[hk]at aq;cases aq
  |some m=>
   rw[hk]at aq;simp only[Bo,Fm,Prod.mk.injEq]at aq;unfold method;simp[typeInfo,af,hk,aq.1,aq.2,follow,receiverAt,go_sem,Go.Place.get,Ul,aA]
theorem amj:((prog.info? 206).bind (fun i=>i.methods.find? (·.name== "Len"))).map (fun m=>(m.path,m.func))=some (#[],some (128,false)):=by kernel_rfl
theorem aaI (b7:Nat)(w:World)(aA:eh w b7 0 sv):(method 476 206 (bl b7) "Len").run prog w= .ok (128,sv) w:=by
 have aq:=amj;cases af:prog.info? 206 with
 |none=>rw[af]at aq;cases aq
 |some i=>
  rw[af]at aq;simp only[Option.bind_some]at aq;cases hk:i.methods.find? (·.name== "Len")with
  |none=>rw[hk]at aq;cases aq
  |some m=>
   rw[hk]at aq;simp only[Bo,Fm,Prod.mk.injEq]at aq;unfold method;simp[typeInfo,af,hk,aq.1,aq.2,follow,receiverAt,go_sem,Go.Place.get,Ul,aA]
theorem aml:((prog.info? 206).bind (fun i=>i.methods.find? (·.name== "Swap"))).map (fun m=>(m.path,m.func))=some (#[],some (295,false)):=by kernel_rfl
theorem SL (b7:Nat)(w:World)(aA:eh w b7 0 sv):(method 476 206 (bl b7) "Swap").run prog w= .ok (295,sv) w:=by
 have aq:=aml;cases af:prog.info? 206 with
 |none=>rw[af]at aq;cases aq
 |some i=>
  rw[af]at aq;simp only[Option.bind_some]at aq;cases hk:i.methods.find? (·.name== "Swap")with
  |none=>rw[hk]at aq;cases aq
  |some m=>
   rw[hk]at aq;simp only[Bo,Fm,Prod.mk.injEq]at aq;unfold method;simp[typeInfo,af,hk,aq.1,aq.2,follow,receiverAt,go_sem,Go.Place.get,Ul,aA]
theorem ams (b7:Nat)(w:World):(method 476 206 (bl b7) "Push").run prog w= .ok (294,bl b7) w:=by kernel_rfl
theorem amr (b7:Nat)(w:World):(method 476 206 (bl b7) "Pop").run prog w= .ok (293,bl b7) w:=by kernel_rfl
abbrev e4.dot (y:e4):bF:=y.x.1.dot
def kJ (a b:e4):Bool:=if a.dZ=b.dZ then decide (lW a.dot b.dot)else decide (a.dZ<b.dZ)
abbrev sZ (B:Nat)(w:World)(sv:Value)(l:List e4):Prop:=w.ownsRow B 213 9 sv l.length (l.flatMap yk)
theorem zG {l:List e4}(aJ:sZ B w (bo g l.length cap) l)(hk:k<l.length)(af:j<9):w.cell? (aa g (k*9+j))=(yk l[k])[j]?:=by
 have h1:=Fe aJ (k*9+j) (by omega);rw[hC yk 9 (fun _=>rfl) l k j hk af]at h1;exact h1
theorem adJ {l:List e4}(aJ:sZ B w (bo g l.length cap) l)(j:Nat):w.frozen? (aa g j)=false:=World.ownsRow.frozenAt aJ j
theorem Tl (w:World)(a:Option Addr)(n c:Nat):Calls prog 128 #[.slice a n c] w (bx (I n) fun w'=>w'=w):=by
 go_enter func128,ntmps128;go_wp2_with fail
 go_ret;exact⟨rfl,rfl⟩
theorem abG (B:Nat)(w:World)(g cap:Nat)(l:List e4)(aJ:sZ B w (bo g l.length cap) l)(aC:l.length<=100000000)(aq:i<l.length)(af:j<l.length):
  Calls prog 292 #[bo g l.length cap,I i,I j] w (bx (.bool (kJ l[i] l[j])) fun w'=>ax w w'):=by
 have a0:=aR.cell (show w.cell? (aa g (i*9))=some (I l[i].x.1.rep)from zG aJ aq (j:=0) (by omega));have cO:=aR.cell (show w.cell? (aa g (i*9+1))=some (I l[i].x.1.seq)from zG aJ aq (j:=1) (by omega));have Ik:=aR.cell (show w.cell? (aa g (i*9+8))=some (I l[i].dZ)from zG aJ aq (j:=8) (by omega));have dc:=aR.cell (show w.cell? (aa g (j*9))=some (I l[j].x.1.rep)from zG aJ af (j:=0) (by omega));have bT:=aR.cell (show w.cell? (aa g (j*9+1))=some (I l[j].x.1.seq)from zG aJ af (j:=1) (by omega));have LX:=aR.cell (show w.cell? (aa g (j*9+8))=some (I l[j].dZ)from zG aJ af (j:=8) (by omega));have br:kJ l[i] l[j]=if l[i].dZ=l[j].dZ then decide (yP l[i].dot l[j].dot<0)else decide (l[i].dZ<l[j].dZ):=by
  unfold kJ;have:=Iz l[i].dot l[j].dot;unfold ltOf at this;rw[this]
 have wv:∀f:dO (aR w),Calls prog 182 #[.agg #[I l[i].x.1.rep,I l[i].x.1.seq],.agg #[I l[j].x.1.rep,I l[j].x.1.seq]] f.w fun e fv=>e= .returned (I (yP l[i].dot l[j].dot))∧∃g:dO (aR w),fv=g.w:=fun f=>aR.call f ((ZZ l[i].dot l[j].dot f.w).mono fun e fv ⟨h1,ae⟩=>⟨h1,ae.below⟩)
 rw[br];generalize yP l[i].dot l[j].dot=V1 at*;generalize l[i].dZ=x at*;generalize l[j].dZ=y at*;generalize l[i].x.1.rep=ab9 at*;generalize l[i].x.1.seq=atT at*;generalize l[j].x.1.rep=atP at*;generalize l[j].x.1.seq=acp at*;have Fx:=J wv;obtain⟨n,hn⟩:∃n,l.length=n:=⟨_,rfl⟩;rw[hn];have qS:i<n:=by omega
 have mF:j<n:=by omega
 have Cr:n<=100000000:=by omega
 clear aJ br wv aq af aC hn;by_cases tr:x=y
 ·subst tr
  rw[if_pos rfl];go_enter func292,ntmps292;go_upto_region 1 with(fail);refine qm (aR w) (by kernel_rfl) (by kernel_rfl) (cE).drew ?_;repeat(go_big_quiet_step (fail))
  refine gG ?_;intro _ ds;obtain⟨f1,rfl⟩:=ds;go_upto_region 3 with(fail);refine qm (aR w) (by kernel_rfl) (by kernel_rfl) (show Below _ _ _ from f1.ok).drew ?_;repeat(go_big_quiet_step (first|(go_at_call 182;exact Fx.o _)))
  refine gG ?_;intro _ ds;obtain⟨f2,rfl⟩:=ds;go_wp2_with fail
  go_ret;exact⟨rfl,f2.ok⟩
 ·rw[if_neg tr]
  have ad:(x==y)=false:=Bi tr;go_enter func292,ntmps292;go_upto_region 1 with(fail);refine qm (aR w) (by kernel_rfl) (by kernel_rfl) (cE).drew ?_;repeat(go_big_quiet_step (fail))
  refine gG ?_;intro _ ds;obtain⟨f1,rfl⟩:=ds;go_upto_region 2 with(fail);refine qm (aR w) (by kernel_rfl) (by kernel_rfl) (show Below _ _ _ from f1.ok).drew ?_;repeat(go_big_quiet_step (fail))
  refine gG ?_;intro _ ds;obtain⟨f2,rfl⟩:=ds;go_wp2_with fail
  go_ret;exact⟨rfl,f2.ok⟩
def Kx (xs:List Value)(n:Nat)(y:e4):List Value:=((((((((xs.set n (.int .i64 y.x.1.rep)).set (n+1) (.int .i64 y.x.1.seq)).set (n+2) (.int .i64 y.x.1.saw.a)).set (n+3) (.int .i64 y.x.1.saw.b)).set (n+4) (.int .i64 y.x.1.saw.c)).set (n+5) (.int .i64 y.x.1.saw.d)).set (n+6) (.int .i64 y.x.1.saw.e)).set (n+7) (.map (some y.x.2))).set (n+8) (.int .i64 y.dZ)
theorem anC (cs bs:List Value)(n:Nat)(y:e4)(h:cs.length=9):Kx (cs++bs) (9+n) y=cs++Kx bs n y:=by
 unfold Kx;have e:∀(xs:List Value) (j:Nat) (v:Value),(cs++xs).set (9+n+j) v=cs++xs.set (n+j) v:=fun xs j v=>by
  rw[set_append_right _ _ (by omega),h];congr 2;omega
 have eo:∀(xs:List Value) (v:Value),(cs++xs).set (9+n) v=cs++xs.set n v:=fun xs v=>e xs 0 v
 rw[eo,e,e,e,e,e,e,e,e]
theorem adK:∀(l:List e4) (k:Nat) (_:k<l.length) (y:e4),Kx (l.flatMap yk) (k*9) y=(l.set k y).flatMap yk
 |[],_,hk,_=>by simp at hk
 |a::l,0,_,y=>by
  rw[set_cons_zero,kf,kf];rfl
 |a::l,k+1,hk,y=>by
  rw[set_cons_succ,kf,kf,<-adK l k (by simpa using hk) y,show(k+1)*9=9+k*9 by omega];exact anC _ _ _ y rfl
abbrev CZ (w:World)(g n:Nat)(y:e4):World:=((((((((w.setCell (aa g n) (I y.x.1.rep)).setCell (aa g (n+1)) (I y.x.1.seq)).setCell (aa g (n+2)) (I y.x.1.saw.a)).setCell (aa g (n+3)) (I y.x.1.saw.b)).setCell (aa g (n+4)) (I y.x.1.saw.c)).setCell (aa g (n+5)) (I y.x.1.saw.d)).setCell (aa g (n+6)) (I y.x.1.saw.e)).setCell (aa g (n+7)) (.map (some y.x.2))).setCell (aa g (n+8)) (I y.dZ)
theorem N7 {l:List e4}(aJ:sZ B w (bo g l.length cap) l)(hk:k<l.length)(y:e4):sZ B (CZ w g (k*9) y) (bo g (l.set k y).length cap) (l.set k y):=by
 have a0:=(ly aJ (k*9) (I y.x.1.rep)).1;have cO:=(ly a0 (k*9+1) (I y.x.1.seq)).1;have a2:=(ly cO (k*9+2) (I y.x.1.saw.a)).1;have a3:=(ly a2 (k*9+3) (I y.x.1.saw.b)).1;have a4:=(ly a3 (k*9+4) (I y.x.1.saw.c)).1;have a5:=(ly a4 (k*9+5) (I y.x.1.saw.d)).1;have FO:=(ly a5 (k*9+6) (I y.x.1.saw.e)).1;have Ij:=(ly FO (k*9+7) (.map (some y.x.2))).1;have Ik:=(ly Ij (k*9+8) (I y.dZ)).1;have e:=adK l k hk y;unfold Kx at e;rw[e]at Ik;have aC:(l.set k y).length=l.length:=by simp
 show World.ownsRow _ _ _ _ (.slice _ (l.set k y).length _) (l.set k y).length _
 rw[aC];exact Ik
theorem N8 (w:World)(g n:Nat)(y:e4):Touch (fun q=>q=g) w (CZ w g n y):=
 (((((((((Touch.refl (fun q=>q=g) w).setCell (p:=(aa g n)) (Or.inl rfl) _).setCell (p:=(aa g (n+1))) (Or.inl rfl) _).setCell (p:=(aa g (n+2))) (Or.inl rfl) _).setCell (p:=(aa g (n+3))) (Or.inl rfl) _).setCell (p:=(aa g (n+4))) (Or.inl rfl) _).setCell (p:=(aa g (n+5))) (Or.inl rfl) _).setCell (p:=(aa g (n+6))) (Or.inl rfl) _).setCell (p:=(aa g (n+7))) (Or.inl rfl) _).setCell (p:=(aa g (n+8))) (Or.inl rfl) _
def nL (l:List e4)(i j:Nat)(aq:i<l.length)(af:j<l.length):List e4:=(l.set i l[j]).set j l[i]
theorem abH (B:Nat)(w:World)(g cap:Nat)(l:List e4)(aJ:sZ B w (bo g l.length cap) l)(aC:l.length<=100000000)(aq:i<l.length)(af:j<l.length)(l6:i≠j):
  Calls prog 295 #[bo g l.length cap,I i,I j] w (bx (.tuple #[]) fun w'=>sZ B w' (bo g (nL l i j aq af).length cap) (nL l i j aq af)∧Touch (fun q=>q=g) w w'):=by
 have br:g<w.heap.size:=(aJ.lt g rfl).2;have jd:=N7 aJ aq l[j];have qd:=N7 jd (k:=j) (by simpa using af) l[i];have aD:=((N8 w g (i*9) l[j]).trans ((N8 (CZ w g (i*9) l[j]) g (j*9) l[i]).mono fun q _ e=>Or.inl e)).drew;have uq:sZ B (CZ (CZ w g (i*9) l[j]) g (j*9) l[i]).drew (bo g (nL l i j aq af).length cap) (nL l i j aq af):=jZ qd (cE).drew;have jU:=fun(m:Nat) (hm:m<9)=>zG aJ aq hm
 have bM:=fun(m:Nat) (hm:m<9)=>zG aJ af hm
 have hW:=fun(m:Nat)=>adJ aJ m
 generalize au:l[i]=x at*;generalize b9:l[j]=y at*;obtain⟨⟨⟨aqR,xs,aqS,Hs⟩,q_⟩,aqP⟩:=x;obtain⟨⟨⟨auc,bb,aud,Uo⟩,aua⟩,aub⟩:=y;have c8:w.cell? (aa g (i*9))=some (I aqR):=jU 0 (by omega);have ah7:w.frozen? (aa g (i*9))=false:=hW _;have dr:w.cell? (aa g (i*9+1))=some (I xs):=jU 1 (by omega);have ah8:w.frozen? (aa g (i*9+1))=false:=hW _;have en:w.cell? (aa g (i*9+2))=some (I aqS.a):=jU 2 (by omega);have ah9:w.frozen? (aa g (i*9+2))=false:=hW _;have d_:w.cell? (aa g (i*9+3))=some (I aqS.b):=jU 3 (by omega);have ah_:w.frozen? (aa g (i*9+3))=false:=hW _;have ev:w.cell? (aa g (i*9+4))=some (I aqS.c):=jU 4 (by omega);have aia:w.frozen? (aa g (i*9+4))=false:=hW _;have gv:w.cell? (aa g (i*9+5))=some (I aqS.d):=jU 5 (by omega);have aib:w.frozen? (aa g (i*9+5))=false:=hW _;have nf:w.cell? (aa g (i*9+6))=some (I aqS.e):=jU 6 (by omega);have aic:w.frozen? (aa g (i*9+6))=false:=hW _;have wZ:w.cell? (aa g (i*9+7))=some (.map (some q_)):=jU 7 (by omega);have aid:w.frozen? (aa g (i*9+7))=false:=hW _;have w0:w.cell? (aa g (i*9+8))=some (I aqP):=jU 8 (by omega);have aie:w.frozen? (aa g (i*9+8))=false:=hW _;have dm:w.cell? (aa g (j*9))=some (I auc):=bM 0 (by omega);have arH:w.frozen? (aa g (j*9))=false:=hW _;have dz:w.cell? (aa g (j*9+1))=some (I bb):=bM 1 (by omega);have arI:w.frozen? (aa g (j*9+1))=false:=hW _;have ei:w.cell? (aa g (j*9+2))=some (I aud.a):=bM 2 (by omega);have arJ:w.frozen? (aa g (j*9+2))=false:=hW _;have fG:w.cell? (aa g (j*9+3))=some (I aud.b):=bM 3 (by omega);have arK:w.frozen? (aa g (j*9+3))=false:=hW _;have ib:w.cell? (aa g (j*9+4))=some (I aud.c):=bM 4 (by omega);have arL:w.frozen? (aa g (j*9+4))=false:=hW _;have j2:w.cell? (aa g (j*9+5))=some (I aud.d):=bM 5 (by omega);have arM:w.frozen? (aa g (j*9+5))=false:=hW _;have Be:w.cell? (aa g (j*9+6))=some (I aud.e):=bM 6 (by omega);have arN:w.frozen? (aa g (j*9+6))=false:=hW _;have K6:w.cell? (aa g (j*9+7))=some (.map (some aua)):=bM 7 (by omega);have arO:w.frozen? (aa g (j*9+7))=false:=hW _;have OV:w.cell? (aa g (j*9+8))=some (I aub):=bM 8 (by omega);have arP:w.frozen? (aa g (j*9+8))=false:=hW _;have dp:=J (⟨uq,aD⟩:_∧_);obtain⟨n,hn⟩:∃n,l.length=n:=⟨_,rfl⟩;rw[hn];have qS:i<n:=by omega
 have mF:j<n:=by omega
 have Cr:n<=100000000:=by omega
 clear jd qd uq aD jU bM hW au b9 aJ hn;have ne:∀a b:Nat,a<9->b<9->¬i*9+a=j*9+b:=fun a b aU hb e=>by omega
 go_enter func295,ntmps295;go_upto_region 0 with(fail);go_region;obtain⟨uq,aD⟩:=dp.o;go_end0;exact⟨rfl,uq,aD⟩
abbrev par (k:Nat):Nat:=(k-1)/2
def k1 {α:Type}(f:Nat->α)(i j:Nat):Nat->α:=fun k=>if k=j then f i else if k=i then f j else f k
structure Ia {α:Type}(lt:α->α->Bool):Prop where
 Nt:∀a,lt a a=false
 Hj:∀a b,lt a b=true->lt b a=false
 jr:∀a b c,lt b a=false->lt c b=false->lt c a=false
def sU {α:Type}(lt:α->α->Bool)(f:Nat->α)(n:Nat):Prop:=∀k,1<=k->k<n->lt (f k) (f (par k))=false
structure xv {α:Type}(lt:α->α->Bool)(f:Nat->α)(n j:Nat):Prop where
 yM:∀k,1<=k->k<n->k≠j->lt (f k) (f (par k))=false
 kids:∀k,1<=k->k<n->par k=j->1<=j->lt (f k) (f (par j))=false
theorem xv.done {α:Type}{lt:α->α->Bool}{f:Nat->α}(h:xv lt f n j)(af:j=0∨lt (f j) (f (par j))=false):sU lt f n:=fun k h1 ae=>by
 by_cases e:k=j
 ·subst e;rcases af with rfl|af
  ·omega
  ·exact af
 ·exact h.yM k h1 ae e
theorem xv.step {α:Type}{lt:α->α->Bool}(o:Ia lt){f:Nat->α}{n j:Nat}(h:xv lt f n j)(af:1<=j)(hn:j<n)(aC:lt (f j) (f (par j))=true):xv lt (k1 f (par j) j) n (par j):=by
 have l6:par j<j:=by unfold par;omega
 constructor
 ·intro k h1 ae hk
  have wA:par k<k:=by unfold par;omega
  by_cases e:k=j
  ·subst e
   unfold k1;rw[if_pos rfl,if_neg (by omega),if_pos rfl];exact o.Hj _ _ aC
  ·by_cases aP:par k=j
   ·unfold k1
    rw[if_neg e,if_neg hk,if_pos aP];exact h.kids k h1 ae aP af
   ·by_cases ba:par k=par j
    ·unfold k1
     rw[if_neg e,if_neg hk,if_neg aP,if_pos ba];have a:=h.yM k h1 ae e;rw[ba]at a;exact o.jr _ _ _ (o.Hj _ _ aC) a
    ·unfold k1
     rw[if_neg e,if_neg hk,if_neg aP,if_neg ba];exact h.yM k h1 ae e
 ·intro k h1 ae hk aq
  have asE:par (par j)<par j:=by unfold par at*;omega
  have wA:par k<k:=by unfold par;omega
  have a:=h.yM (par j) aq (by omega) (by omega);unfold k1;rw[if_neg (show ¬par (par j)=j by omega),if_neg (show ¬par (par j)=par j by omega)];by_cases e:k=j
  ·rw[if_pos e];exact a
  ·rw[if_neg e,if_neg (by omega)]
   have b:=h.yM k h1 ae e;rw[hk]at b;exact o.jr _ _ _ a b
structure vJ {α:Type}(lt:α->α->Bool)(f:Nat->α)(n i:Nat):Prop where
 yM:∀k,1<=k->k<n->par k≠i->lt (f k) (f (par k))=false
 kids:1<=i->∀k,1<=k->k<n->par k=i->lt (f k) (f (par i))=false
theorem vJ.leaf {α:Type}{lt:α->α->Bool}{f:Nat->α}(h:vJ lt f n i)(aq:n<=2*i+1):sU lt f n:=fun k h1 ae=>h.yM k h1 ae (by unfold par;omega)
theorem vJ.done {α:Type}{lt:α->α->Bool}(o:Ia lt){f:Nat->α}(h:vJ lt f n i)(af:lt (f j) (f i)=false)(hk:∀k,1<=k->k<n->par k=i->lt (f k) (f j)=false):sU lt f n:=fun k h1 ae=>by
 by_cases e:par k=i
 ·rw[e];exact o.jr _ _ _ af (hk k h1 ae e)
 ·exact h.yM k h1 ae e
theorem vJ.step {α:Type}{lt:α->α->Bool}(o:Ia lt){f:Nat->α}{n i j:Nat}(h:vJ lt f n i)(h1:1<=j)(hn:j<n)(aw:par j=i)(aC:lt (f j) (f i)=true)(hk:∀k,1<=k->k<n->par k=i->lt (f k) (f j)=false):vJ lt (k1 f i j) n j:=by
 have l6:i<j:=by unfold par at aw;omega
 constructor
 ·intro k cI dq Rn
  have wA:par k<k:=by unfold par;omega
  unfold k1;rw[if_neg Rn];by_cases e:k=j
  ·rw[if_pos e,e,aw,if_pos rfl];exact o.Hj _ _ aC
  ·rw[if_neg e]
   by_cases aP:par k=i
   ·rw[if_pos aP,if_neg (by omega)];exact hk k cI dq aP
   ·rw[if_neg aP]
    by_cases ba:k=i
    ·rw[if_pos ba,ba];exact h.kids (by omega) j h1 hn aw
    ·rw[if_neg ba];exact h.yM k cI dq aP
 ·intro _ k cI dq Rn
  have wA:par k<k:=by unfold par;omega
  unfold k1;rw[aw,if_neg (by omega),if_neg (by omega),if_neg (by omega),if_pos rfl];have:=h.yM k cI dq (by omega);rw[Rn]at this;exact this
theorem sU.min {α:Type}{lt:α->α->Bool}(o:Ia lt){f:Nat->α}(h:sU lt f n):∀k,k<n->lt (f k) (f 0)=false:=by
 intro k;induction k using Nat.strongRecOn with
 |_ k ih=>
  intro hk;by_cases e:k=0
  ·subst e;exact o.Nt _
  ·have aw:par k<k:=by unfold par;omega
   exact o.jr _ _ _ (ih (par k) aw (by omega)) (h k (by omega) hk)
theorem sU.grow {α:Type}{lt:α->α->Bool}{f g:Nat->α}(h:sU lt f n)(he:∀k,k<n->g k=f k):xv lt g (n+1) n:=
 ⟨fun k h1 ae hk=>by rw[he k (by omega),he (par k) (by unfold par;omega)];exact h k h1 (by omega),
  fun k h1 ae hk _=>by unfold par at hk;omega⟩
theorem sU.pop {α:Type}{lt:α->α->Bool}{f g:Nat->α}(h:sU lt f (n+1))(he:∀k,1<=k->k<n->g k=f k):vJ lt g n 0:=
 ⟨fun k h1 ae hk=>by rw[he k h1 ae,he (par k) (by unfold par at*;omega) (by unfold par;omega)];exact h k h1 (by omega),
  fun aS=>by omega⟩
theorem sU.cut {α:Type}{lt:α->α->Bool}{f g:Nat->α}{m:Nat}(h:sU lt f n)(hm:m<=n)(he:∀k,k<m->g k=f k):sU lt g m:=fun k h1 ae=>by
 rw[he k ae,he (par k) (by unfold par;omega)];exact h k h1 (by omega)
abbrev iU {α:Type}(d:α)(l:List α):Nat->α:=fun k=>l.getD k d
theorem OH {α:Type}(d:α)(l:List α)(aq:i<l.length)(af:j<l.length):iU d ((l.set i l[j]).set j l[i])=k1 (iU d l) i j:=by
 funext k;unfold k1 iU;simp only[tL,Bm,k5];by_cases e:k=j
 ·subst e;simp[aq,af]
 ·rw[if_neg (fun x=>e x.symm),if_neg e]
  by_cases ba:k=i
  ·subst ba;simp[aq,af]
  ·rw[if_neg (fun x=>ba x.symm),if_neg ba]
theorem swap_perm {α:Type}(l:List α)(aq:i<l.length)(af:j<l.length):((l.set i l[j]).set j l[i]).Perm l:=by
 exact set_set_perm aq af
theorem ads (a b:e4):kJ a b=true↔(a.dZ<b.dZ∨(a.dZ=b.dZ∧(a.dot.rep<b.dot.rep∨(a.dot.rep=b.dot.rep∧a.dot.seq<b.dot.seq)))):=by
 unfold kJ;by_cases e:a.dZ=b.dZ
 ·rw[if_pos e,mo];unfold lW;constructor
  ·exact fun h=>Or.inr ⟨e,h⟩
  ·rintro (h|h)
   ·omega
   ·exact h.2
 ·rw[if_neg e,mo];constructor
  ·exact Or.inl
  ·rintro (h|h)
   ·exact h
   ·exact absurd h.1 e
theorem OI (a b:e4):kJ a b=false↔¬(a.dZ<b.dZ∨(a.dZ=b.dZ∧(a.dot.rep<b.dot.rep∨(a.dot.rep=b.dot.rep∧a.dot.seq<b.dot.seq)))):=by
 rw[<-ads];simp
theorem C8:Ia kJ:=by
 refine⟨fun a=>?_,fun a b h=>?_,fun a b c h1 ae=>?_⟩
 ·rw[OI];omega
 ·rw[ads]at h;rw[OI];omega
 ·rw[OI]at h1 ae⊢;omega
abbrev ji:e4:=⟨(⟨0,0,mi,fun _=>none⟩,0),0⟩
end Go.Proofs.YtiplgdkpnhamaaaGreatDoor
