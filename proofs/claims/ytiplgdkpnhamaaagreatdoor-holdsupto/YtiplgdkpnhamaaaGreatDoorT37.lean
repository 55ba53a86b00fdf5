import Derived.Test.YtiplgdkpnhamaaaGreatDoorT20
import Derived.Test.YtiplgdkpnhamaaaGreatDoorT07
import Derived.Deep.RegionHeld3
set_option maxHeartbeats 16000000
set_option maxRecDepth 100000
namespace Go.Proofs.YtiplgdkpnhamaaaGreatDoor.Tv
open Go.Proofs.Tryz List
open Go.RowKit
variable {b j:Nat}{d:aZ}
def zC (b:Int)(len:Nat):Nat:=if b<0 then len-1-lq b len else lq b len
theorem K1 (b:Int){len:Nat}(h:0<len):zC b len<len:=by
 unfold zC;have:=Kq b len h;split<;>omega
theorem q8 {w:World}{o:Nat->Tag}{s n:Nat}{g cap k:Nat}{L:List fC}(h:ru w o s n (bo g L.length cap) L)(hk:k<L.length)(j:Nat)(af:j<6):w.cell? (aa g (k*6+j))=L[k].cells[j]?:=by
 obtain⟨_,_,e,-,-,-,aA,-⟩:=h.row.row.pos (by omega);cases e;rw[aA (k*6+j) (by omega)];exact hC fC.cells 6 (fun _=>rfl) L k j hk af
structure BQ (aX:World->(Nat->Tag)->Tag->Nat->Nat->Nat->aZ->Prop)(bk:Nat->Nat->List Int)(bQ:Nat->List Int)(cr:World)(ef:Nat->Tag)(w:World)(o:Nat->Tag)(s aj az n:Nat)(aI ak:List Nat)(a6 a8 aG aK aN ah:Value)(ar:Int)(m:iM)(a7:List aZ)(ts:List aT)(L:List fC)(bE lb:Nat)(p:gw)(l:fC):Prop where
 law:cU aX bk bQ w o s aj az n aI ak a6 a8 aG aK aN ah ar m a7 a7 ts
 ways:ru w o s n a8 L
 AZ:dS (hq s) cr ef w o
 op:cP w o (s+12,0,0) bE p.cells 30
 box:cP w o (s+12,1,0) lb l.cells 101
section
variable {aX:World->(Nat->Tag)->Tag->Nat->Nat->Nat->aZ->Prop}{bk:Nat->Nat->List Int}{bQ:Nat->List Int}{cr w w':World}{ef o o':Nat->Tag}{s aj az n:Nat}{m:iM}{aI ak:List Nat}{a6 a8 aG aK aN ah:Value}{ar:Int}{a7:List aZ}{ts:List aT}{L:List fC}{bE lb:Nat}{p:gw}{l ca:fC}
theorem BQ.below (P:gH aX)(h:BQ aX bk bQ cr ef w o s aj az n aI ak a6 a8 aG aK aN ah ar m a7 ts L bE lb p l)(ao:ax w w'):BQ aX bk bQ cr ef w' o s aj az n aI ak a6 a8 aG aK aN ah ar m a7 ts L bE lb p l:=
 ⟨h.law.below P ao,h.ways.da ((ct.dh (A:=fun _=>False) (o:=o) ao).da fun _=>id) fun _ _ _ _=>id,h.AZ.trans ((ct.dh (A:=hq s) (o:=o) ao).da fun _=>id),h.op.below ao,h.box.below ao⟩
theorem BQ.put (P:gH aX)(h:BQ aX bk bQ cr ef w o s aj az n aI ak a6 a8 aG aK aN ah ar m a7 ts L bE lb p l)(aD:ct (fun t=>t=(s+12,1,0)) w o w' o)(hb:aQ w' lb ca.cells 101):BQ aX bk bQ cr ef w' o s aj az n aI ak a6 a8 aG aK aN ah ar m a7 ts L bE lb p ca:=
 ⟨h.law.off P (aD.da fun _=>id) fun t _ h1 e=>h1 (by rw[e]),h.ways.da (aD.da fun _=>id) fun a b c aU e=>by simp at e;omega,h.AZ.trans (aD.da fun t e=>by subst e;exact⟨by simp,by simp⟩),h.op.ay aD (by simp),⟨hb,h.box.tag⟩⟩
end
theorem aoX {w:World}{o:Nat->Tag}{t:Tag}(hb:o b=t)(c8 dr en d_ ev gv:Value):ct (fun q=>q=t) w o ((((((w.setCell (aa b 0) c8).setCell (aa b 1) dr).setCell (aa b 2) en).setCell (aa b 3) d_).setCell (aa b 4) ev).setCell (aa b 5) gv) o:=
 ((((((ct.refl (fun q=>q=t) w o).set (p:=(aa b 0)) hb c8).set (p:=(aa b 1)) hb dr).set (p:=(aa b 2)) hb en).set (p:=(aa b 3)) hb d_).set (p:=(aa b 4)) hb ev).set (p:=(aa b 5)) hb gv
def nd {α:Type}(f:Nat->α)(i:Nat)(x:α):Nat->α:=fun k=>if k=i then x else f k
theorem Bb {α:Type}(f:Nat->α)(i:Nat)(x:α):nd f i x i=x:=by simp[nd]
theorem Ba {α:Type}{f:Nat->α}{i:Nat}{x:α}(h:j≠i):nd f i x j=f j:=by simp[nd,h]
abbrev qC {j5:Type}(j6:j5->World->(Nat->Tag)->Tag->Nat->Nat->Nat->aZ->Prop)(X:Nat->j5):World->(Nat->Tag)->Tag->Nat->Nat->Nat->aZ->Prop:=fun w o t b n i d=>j6 (X i) w o t b n i d
theorem lD.congr {ah bw:Value}{w:World}{o:Nat->Tag}{s i n:Nat}{d':aZ}(h:lD ah bw w o s i b n d)(h1:d'.ag=d.ag)(ae:d'.bH=d.bH):lD ah bw w o s i b n d':=by
 obtain⟨bD,v,xs,R⟩:=h;exact⟨bD,v,xs,⟨R.U,by rw[h1];exact R.ag,R.row,by rw[h1];exact R.len,R.ea,by rw[ae];exact R.bH,by rw[ae];exact R.s5,by rw[ae];exact R.tx⟩⟩
section
variable {j5:Type}{j6:j5->World->(Nat->Tag)->Tag->Nat->Nat->Nat->aZ->Prop}{X:Nat->j5}{aX:World->(Nat->Tag)->Tag->Nat->Nat->Nat->aZ->Prop}{bk:Nat->Nat->List Int}{bQ:Nat->List Int}{w w':World}{o o':Nat->Tag}{s aj az n i:Nat}{m:iM}{aI ak:List Nat}{a6 a8 aG aK aN ah:Value}{ar:Int}{eG b1:List aZ}{ts:List aT}
theorem cU.Te (P:∀X:Nat->j5,gH (qC j6 X))(h:cU (qC j6 X) bk bQ w o s aj az n aI ak a6 a8 aG aK aN ah ar m eG b1 ts)(aq:i<n)(k:ct (·=(s+1,i,0)) w o w' o'){x:j5}(aB:j6 x w' o' (s+1,i,0) (aI[i]'(by have:=h.pe;omega)) n i d):
  cU (qC j6 (nd X i x)) bk bQ w' o' s aj az n aI ak a6 a8 aG aK aN ah ar m (eG.set i d) b1 ts:=by
 have f:∀a b c,2<=a->¬(fun t:Tag=>t=(s+1,i,0)) (s+a,b,c):=fun a b c h1 e=>by simp at e;omega
 obtain⟨eF,bT,dk⟩:=h.texts;obtain⟨dY,c6,eu⟩:=h.ye;obtain⟨ln,e0,eL⟩:=h.x9;obtain⟨od,fZ,fO⟩:=h.x7;obtain⟨jA,de,c_,G⟩:=h.hE;refine⟨h.U.ay k (f 11 _ _ (by omega)),h.rs.ay k (f 11 _ _ (by omega)),⟨eF,bT,dk.ay k (f 11 _ _ (by omega))⟩,⟨dY,c6,eu.ay k (f 11 _ _ (by omega))⟩,⟨ln,e0,eL.ay k (f 11 _ _ (by omega))⟩,⟨od,fZ,fO.ay k (f 11 _ _ (by omega))⟩,
  ⟨jA,de,c_,G.ay k fun t al e=>?_⟩,h.pe,h.pf,by rw[k5];exact h.qM,h.sb,fun j af=>?_,fun j af=>(h.ref j af).ay k (fun t al e=>?_) fun y=>f 7 _ _ (by omega)⟩
 ·rw[e]at al;rcases al with⟨x,c⟩|⟨x,c|c⟩<;>simp at c
 ·by_cases e:i=j
  ·subst e
   show j6 (nd X i x i) _ _ _ _ _ _ _
   rw[w_,Bb];exact aB
  ·show j6 (nd X i x j) _ _ _ _ _ _ _
   rw[w9 e,Ba fun c=>e c.symm];exact(P X).move (h.prog j af) fun q ad c=>⟨k.ay.block q ad (by rw[c];simp;omega),(k.same q ad).trans c⟩
 ·rw[e]at al;rcases al with c|c|c|⟨x,c|c⟩<;>simp at c
theorem cU.abW (P:gH aX)(h:cU aX bk bQ w o s aj az n aI ak a6 a8 aG aK aN ah ar m eG b1 ts)(aq:i<n)(k:ct (fun t=>t=(s+3,i,0)∨t=(s+7,i,j+2)) w o w' o'){EI yU:Value}{aY:Nat->List Int}(aB:lD EI yU w' o' s i (ak[i]'(by have:=h.pf;omega)) n d)(cx:nR w' o' s i n EI yU aY (bQ i)):
  cU aX (nd bk i aY) bQ w' o' s aj az n aI ak a6 a8 aG aK aN ah ar m eG (b1.set i d) ts:=by
 have f:∀a b c,a=1∨8<=a->¬(fun t:Tag=>t=(s+3,i,0)∨t=(s+7,i,j+2)) (s+a,b,c):=fun a b c h1 e=>by rcases e with e|e<;>simp at e<;>omega
 obtain⟨eF,bT,dk⟩:=h.texts;obtain⟨dY,c6,eu⟩:=h.ye;obtain⟨ln,e0,eL⟩:=h.x9;obtain⟨od,fZ,fO⟩:=h.x7;obtain⟨jA,de,c_,G⟩:=h.hE;refine⟨h.U.ay k (f 11 _ _ (by omega)),h.rs.ay k (f 11 _ _ (by omega)),⟨eF,bT,dk.ay k (f 11 _ _ (by omega))⟩,⟨dY,c6,eu.ay k (f 11 _ _ (by omega))⟩,⟨ln,e0,eL.ay k (f 11 _ _ (by omega))⟩,⟨od,fZ,fO.ay k (f 11 _ _ (by omega))⟩,
  ⟨jA,de,c_,G.ay k fun t al e=>?_⟩,h.pe,h.pf,h.qM,by rw[k5];exact h.sb,fun q ad=>P.move (h.prog q ad) fun y b9 c=>⟨k.ay.block y b9 (by rw[c];exact f 1 _ _ (by omega)),(k.same y b9).trans c⟩,fun q ad=>?_⟩
 ·rcases al with⟨x,rfl⟩|⟨x,rfl|rfl⟩
  ·exact f 8 _ _ (by omega) e
  ·exact f 9 _ _ (by omega) e
  ·exact f 10 _ _ (by omega) e
 ·by_cases e:i=q
  ·subst e
   rw[w_];exact⟨EI,yU,aB,by rw[Bb];exact cx⟩
  ·rw[w9 e]
   obtain⟨GQ,Qy,⟨bD,v,xs,R⟩,K⟩:=h.ref q ad;refine⟨GQ,Qy,⟨bD,v,xs,R.ay k fun t al c=>?_⟩,?_⟩
   ·rcases al with rfl|rfl|rfl|⟨x,rfl|rfl⟩<;>rcases c with c|c<;>simp at c<;>omega
   ·rw[Ba fun c=>e c.symm]
    exact K.ay k fun y c=>by rcases c with c|c<;>simp at c;omega
end
structure Vs {j5:Type}(j6:j5->World->(Nat->Tag)->Tag->Nat->Nat->Nat->aZ->Prop)(X:Nat->j5)(w:World)(s aj n:Nat)(aI:List Nat)(a7:List aZ)(ts:List aT)(L:List fC)(p:gw)(Bs:Nat->aZ->fC->j5->ByteArray->Prop)(z_:Nat->aZ->fC->aZ->j5->Prop)(saw:Nat->Int->Nat->Int):Prop where
 cN:∀l,l∈L->l.cN<n∧l.vec.length=n
 lens:∀l,l∈L->l.gp=true->l.frm.length=n∧l.upt.length=n∧(∀r,l.upt.getD r 0<=2000000)∧(∀r,0<=l.frm.getD r 0)∧∀r q,o7 n l.frm l.upt r q->∃u,u∈ts∧kY r q u=true
 tB:∀u,u∈ts->∀k,saw u.rep.toNat u.seq k=u.saw.getD k 0
 oQ:∀(i:Nat) (d:aZ),a7[i]?=some d->∀r,0<=d.ag.getD r 0∧d.ag.getD r 0<=2000000
 gp:∀(i b:Nat) (d:aZ) (l:fC) (W:World) (iK:Nat->Tag),i<n->a7[i]?=some d->aI[i]?=some b->l∈L->l.gp=false->(∀q,q<6->W.heap[q]?=w.heap[q]?)->(∀q,q<6->iK q≠(s+1,i,0))->j6 (X i) W iK (s+1,i,0) b n i d->
  Calls prog 40 #[ptr b,ai l.text] W fun e w'=>∃x T o',Bs i d l x T∧e= .returned (.tuple #[ai T,I 0])∧j6 x w' o' (s+1,i,0) b n i d∧ct (·=(s+1,i,0)) W iK w' o'
 afr:∀(i b:Nat) (d:aZ) (l:fC) (W:World) (iK:Nat->Tag),i<n->a7[i]?=some d->aI[i]?=some b->l∈L->l.gp=true->(∀q,q<6->W.heap[q]?=w.heap[q]?)->j6 (X i) W iK (s+1,i,0) b n i d->
  Calls prog 40 #[ptr b,ai l.text] W fun e w'=>e= .returned (.tuple #[ai ⟨#[]⟩,I 6])∧ax W w'
 recv:∀(i b:Nat) (d:aZ) (l:fC) (W:World) (iK:Nat->Tag),i<n->a7[i]?=some d->aI[i]?=some b->l∈L->l.gp=true->(∀q,q<6->W.heap[q]?=w.heap[q]?)->j6 (X i) W iK (s+1,i,0) b n i d->
  Calls prog 41 #[ptr b,ai l.text] W fun e w'=>∃d' x o',z_ i d l d' x∧e= .returned (I 0)∧j6 x w' o' (s+1,i,0) b n i d'∧ct (·=(s+1,i,0)) W iK w' o'
 an8:∀(i b:Nat) (d:aZ) (l:fC) (W:World) (iK:Nat->Tag),i<n->a7[i]?=some d->aI[i]?=some b->l∈L->l.gp=false->(∀q,q<6->W.heap[q]?=w.heap[q]?)->j6 (X i) W iK (s+1,i,0) b n i d->
  Calls prog 41 #[ptr b,ai l.text] W fun e w'=>e= .returned (I 6)∧ax W w'
 same:∀(i:Nat) (d:aZ) (l:fC) (d':aZ) (x:j5) (cur:List Int),a7[i]?=some d->l∈L->z_ i d l d' x->cur.length=n->Reach (o7 n l.frm l.upt) saw (mV d.ag) (mV cur)->(∀r,¬sW (o7 n l.frm l.upt) saw (mV cur) r)->d'.ag=cur∧d'.bH=d.bH
 apa:∀(i b:Nat) (d:aZ) (l:fC) (W:World) (iK:Nat->Tag),i<n->a7[i]?=some d->aI[i]?=some b->l∈L->(∀q,q<6->W.heap[q]?=w.heap[q]?)->j6 (X i) W iK (s+1,i,0) b n i d->
  Calls prog 100 #[ptr aj,ptr b,.agg #[ai l.text,.bool l.gp,I l.cN,l.bD,l.lh,l.aG],p.agg] W fun e w'=>e= .returned (.bool true)∧ax W w'
def afd {j5:Type}(n:Nat)(Bs:Nat->aZ->fC->j5->ByteArray->Prop)(z_:Nat->aZ->fC->aZ->j5->Prop)(bQ:Nat->List Int)(a7:List aZ)(X:Nat->j5)(bk:Nat->Nat->List Int)(L:List fC)(BU:List aZ)(p1:Nat->j5)(BH:Nat->Nat->List Int)(DF:List fC):Prop:=
 (BU=a7∧p1=X∧BH=bk∧DF=L)∨
 (∃i d l x T v f t,i<n∧a7[i]?=some d∧l∈L∧l.gp=false∧Bs i d l x T∧BU=a7∧p1=nd X i x∧BH=nd bk i (rR (bk i) l.cN (fB (bk i l.cN) l.vec n))∧DF=L++[⟨T,true,i,v,f,t,d.ag,qN (bQ i) l.vec n,d.ag⟩])∨
 ∃i d l d' x,i<n∧a7[i]?=some d∧l∈L∧l.gp=true∧z_ i d l d' x∧BU=a7.set i d'∧p1=nd X i x∧BH=nd bk i (rR (bk i) l.cN (fB (bk i l.cN) l.vec n))∧DF=L
def afg {j5:Type}(j6:j5->World->(Nat->Tag)->Tag->Nat->Nat->Nat->aZ->Prop)(X:Nat->j5)(bk:Nat->Nat->List Int)(bQ:Nat->List Int)(w:World)(o:Nat->Tag)(s aj az n:Nat)(aI ak:List Nat)(a6 aG aK aN ah:Value)(ar:Int)(m:iM)(a7:List aZ)(ts:List aT)(L:List fC)(Bs:Nat->aZ->fC->j5->ByteArray->Prop)(z_:Nat->aZ->fC->aZ->j5->Prop)(e:Ending)(w':World):Prop:=
 e= .returned (.bool true)∧∃o' mm BU p1 BH DF,cU (qC j6 p1) BH bQ w' o' s aj az n aI ak a6 mm aG aK aN ah ar m BU BU ts∧ru w' o' s n mm DF∧dS (hq s) w o w' o'∧afd n Bs z_ bQ a7 X bk L BU p1 BH DF
theorem aqI {j5:Type}(j6:j5->World->(Nat->Tag)->Tag->Nat->Nat->Nat->aZ->Prop)(X:Nat->j5)(bk:Nat->Nat->List Int)(bQ:Nat->List Int)(sY:∀X:Nat->j5,gH (qC j6 X))(w:World)(o:Nat->Tag)(s aj az n:Nat)(aI ak:List Nat)(a6 a8 aG aK aN ah:Value)(ar:Int)(m:iM)(a7:List aZ)(ts:List aT)(L:List fC)(Bs:Nat->aZ->fC->j5->ByteArray->Prop)(z_:Nat->aZ->fC->aZ->j5->Prop)(saw:Nat->Int->Nat->Int)(p:gw)(aw:p.Ok)(iQ: -9223372036854775808<=p.b)(eA:p.b<=9223372036854775807)(hk:11<=p.kind)
  (h:cU (qC j6 X) bk bQ w o s aj az n aI ak a6 a8 aG aK aN ah ar m a7 a7 ts)(hw:ru w o s n a8 L)(As:0<L.length)(cT:L.length<=1900000)(hn:0<n)(b2:n<=5)(tn:∀q,q<6->q<w.heap.size∧¬hq s (o q))(eK:Vs j6 X w s aj n aI a7 ts L p Bs z_ saw):
  Calls prog 54 #[ptr aj,p.agg] w (afg j6 X bk bQ w o s aj az n aI ak a6 aG aK aN ah ar m a7 ts L Bs z_):=by
 obtain⟨i0,Cl,dC,dM,dK⟩:=iV Tryz.ZX;have cw:=J (⟨Cl,dC,dM,dK⟩:_∧_∧_∧_);clear Cl dC dM dK;have P:=sY X;have cM:=J eK;clear eK;obtain⟨kind,a,b,c,key,text⟩:=p;simp only at hk;have ajJ:(kind==10)=false:=by simp;omega
 obtain⟨bC,W,o1,iP,ix,mW,nj,eQ,eJ,d,sn,nZ,tm,aq,rfl,bY,wC,wb,iZ,hM,gW,aB,i_,ja⟩:=vr P h aw hn b2;obtain⟨-,-,-,-,-,c0,c1,c2,lk,l1,ek,cI,dq,-,-,-,ir,fW,ft,l5,l4⟩:=i_.o;have bR:=J hw;clear h hw i_;have bn:Hid (a7[bC]?=some d∧aI[bC]?=some eQ∧a7[bC]=d∧aI[bC]=eQ∧ak[bC]=eJ):=⟨by rw[hg (by omega),aB],by rw[hg (by omega),hM],aB,hM,gW⟩;have By:=J tn;clear aw hM gW aB tn;go_enter func54,ntmps54;go_upto_region 1 with(fail);go_cut[5] (fun v wc=>v=I bC∧Hid (ax W wc))
 case first=>
  go_region_with(go_at_call 51;refine(iZ.o _).mono ?_;rintro e w5 ⟨rfl,rfl⟩)
  all_goals
   go_wp2_with fail
   go_meet;exact⟨rfl,(cE).drew⟩
 case rest=>
  obtain⟨rfl,ao⟩:=hcut;clear c0 c1 c2 lk l1 ek cI dq ir fW ft l5 l4 bY iZ;obtain⟨bu,gl,M2,-,-,nm,ky,nn,nz,nv,nB,-,rO,-,-,-,kX,oD,oz,oF,oC⟩:=ja.o _ ao.o;have W2:=J (bR.o.da (M2.o fun _=>False) fun _ _ _ _=>id);replace M2:=J (M2.o (hq s))
  clear bR ja;obtain⟨jt,oN,px,-⟩:=W2.o.row.row.pos (by omega);subst px;have v2:=bu.o.U.U.c2;have kk:=Kq b L.length As;have xl:Hid (∀v,Calls prog 51 #[I b,I L.length] v (bx (I (lq b L.length)) fun w'=>w'=v)):=fun v=>aax b L.length v As (by omega) iQ eA
  have Py:Hid (zC b L.length=if b<0 then L.length-1-lq b L.length else lq b L.length):=rfl;generalize lq b L.length=eM at*;obtain⟨hv,R5⟩:∃hv,hv=wc:=⟨_,rfl⟩;subst R5;go_upto_region 11 with(fail);go_cut[10] (fun p wd=>∃lb,p= .pointer (some (aa lb 0))∧Hid (hv.heap.size<=lb∧aQ wd lb L[eM].cells 101∧ax hv wd))
  case first=>
   have ZK:jt<hv.heap.size:=W2.o.row.row.lt rfl;have eo:=q8 W2.o kk 0 (by omega);have aP:=q8 W2.o kk 1 (by omega);have ba:=q8 W2.o kk 2 (by omega);have ey:=q8 W2.o kk 3 (by omega);have hB:=q8 W2.o kk 4 (by omega);have gS:=q8 W2.o kk 5 (by omega);obtain⟨lt,br⟩:∃lt,L[eM]=lt:=⟨_,rfl⟩;have aen:=J br;rw[br]at eo aP ba ey hB gS;simp only[fC.cells,j3,jg,kK]at eo aP ba ey hB gS;obtain⟨js,r0,jc,-⟩:=(W2.o.lets lt (br▸eT kk)).vec.row.shape;obtain⟨BY,uZ,xM,-⟩:=(W2.o.lets lt (br▸eT kk)).frm.row.shape;obtain⟨fF,zy,het,-⟩:=(W2.o.lets lt (br▸eT kk)).A_.row.shape;rw[jc]at ey;rw[xM]at hB;rw[het]at gS;have bX:=J (⟨jc,xM,het⟩:_∧_∧_);clear br jc xM het;have aaN:¬hv.heap.size=aj:=by omega
   have aaO:¬aj=hv.heap.size:=by omega
   have SP:¬hv.heap.size=w.heap.size:=by omega
   have SQ:¬w.heap.size=hv.heap.size:=by omega
   have aaP:¬hv.heap.size=jt:=by omega
   have SR:¬jt=hv.heap.size:=by omega
   have aaR:=World.new_ne hv _ v2;have NI:=World.new_ne hv _ rO;have NJ:=World.new_ne hv _ eo;have aaS:=World.new_ne hv _ aP;have aaT:=World.new_ne hv _ ba;have SS:=World.new_ne hv _ ey;have aaU:=World.new_ne hv _ hB;have amD:=World.new_ne hv _ gS;go_region_held3(fun W=>W.cell? (aa aj 2)=some (.slice (some (aa jt 0)) L.length oN)∧W.cell? (aa (w.heap.size) 2)=some (I b)∧W.cell? (aa jt (eM*6))=some (ai lt.text)∧W.cell? (aa jt (eM*6+1))=some (.bool lt.gp)∧W.cell? (aa jt (eM*6+2))=some (I lt.cN)∧W.cell? (aa jt (eM*6+3))=some (.slice js n r0)∧W.cell? (aa jt (eM*6+4))=some (.slice BY lt.frm.length uZ)∧W.cell? (aa jt (eM*6+5))=some (.slice fF lt.upt.length zy)) (go_keep) (first|(go_at_call 51;refine(xl.o _).mono ?_;rintro e w5 ⟨rfl,rfl⟩))
   all_goals go_wp2_with fail
   all_goals go_meet
   all_goals exact⟨_,rfl,cv,by rw[aen.o];unfold fC.cells;rw[bX.o.1,bX.o.2.1,bX.o.2.2];exact cC hv _,((cj _ _)).drew⟩
  case rest=>
   obtain⟨lb,rfl,HM⟩:=hcut;have mw:Hid (BQ (qC j6 X) bk bQ w o wc (gX o1 hv.heap.size fun _=>(s+12,1,0)) s aj az n aI ak (.slice (some (aa iP 0)) aI.length ix) (.slice (some (aa jt 0)) L.length oN) aG aK aN ah ar m a7 ts L w.heap.size lb ⟨kind,a,b,c,key,text⟩ L[eM]):=by
    have nk:ct (fun _=>False) hv o1 wc (gX o1 hv.heap.size fun _=>(s+12,1,0)):=⟨Touch.dh HM.o.2.2,fun q ad=>nF ad⟩;exact⟨bu.o.off P (nk.da fun _=>id) fun _ _ _=>id,W2.o.da (nk.da fun _=>id) fun _ _ _ _=>id,M2.o.trans (nk.da fun _ e=>e.elim),gl.o.ay nk id,⟨HM.o.2.1,qj HM.o.1⟩⟩
   generalize gX o1 hv.heap.size (fun _=>(s+12,1,0))=nD at mw;have Sp:=bZ HM.o.2.2 rO;have Sq:=mw.o.op.U.lt;clear bu W2 M2 gl HM v2 rO nm ky nn nz nv nB kX oD oz oF oC ao;go_upto_if 81 with(fail)
   go_cut[] (fun wd=>Hid (BQ (qC j6 X) bk bQ w o wd nD s aj az n aI ak (.slice (some (aa iP 0)) aI.length ix) (.slice (some (aa jt 0)) L.length oN) aG aK aN ah ar m a7 ts L w.heap.size lb ⟨kind,a,b,c,key,text⟩ (L[zC b L.length]'(K1 b As))))
   case first=>
    by_cases hb:b<0
    ·obtain⟨EV,Zj⟩:∃EV,L.length-1-eM=EV:=⟨_,rfl⟩
     have n3:EV<L.length:=by omega
     have l_:(L.length:Int)-1-(eM:Int)=(EV:Int):=by omega
     have HEq:Hid (L[zC b L.length]'(K1 b As)=L[EV]):=by
      have e:zC b L.length=EV:=by rw[Py.o,if_pos hb,Zj]
      unfold Hid;congr 1
     have v2:=mw.o.law.U.U.c2;have eo:=q8 mw.o.ways n3 0 (by omega);have aP:=q8 mw.o.ways n3 1 (by omega);have ba:=q8 mw.o.ways n3 2 (by omega);have ey:=q8 mw.o.ways n3 3 (by omega);have hB:=q8 mw.o.ways n3 4 (by omega);have gS:=q8 mw.o.ways n3 5 (by omega);obtain⟨lt,br⟩:∃lt,L[EV]=lt:=⟨_,rfl⟩;rw[br]at eo aP ba ey hB gS HEq;simp only[fC.cells,j3,jg,kK]at eo aP ba ey hB gS;obtain⟨js,r0,jc,-⟩:=(mw.o.ways.lets lt (br▸eT n3)).vec.row.shape;obtain⟨BY,uZ,xM,-⟩:=(mw.o.ways.lets lt (br▸eT n3)).frm.row.shape;obtain⟨fF,zy,het,-⟩:=(mw.o.ways.lets lt (br▸eT n3)).A_.row.shape;rw[jc]at ey;rw[xM]at hB;rw[het]at gS;have bX:Hid (lt.cells=[ai lt.text,.bool lt.gp,I lt.cN,.slice js n r0,.slice BY lt.frm.length uZ,.slice fF lt.upt.length zy]):=by unfold Hid fC.cells;rw[jc,xM,het]
     clear br jc xM het Zj;have m0:=aR.cell v2;have m1:=aR.cell Sp;have m2:=aR.cell eo;have m3:=aR.cell aP;have m4:=aR.cell ba;have m5:=aR.cell ey;have m6:=aR.cell hB;have m7:=aR.cell gS;have Lw:Hid (∀f:dO (aR wc),Calls prog 51 #[I b,I L.length] f.w fun e fv=>e= .returned (I eM)∧∃g:dO (aR wc),fv=g.w):=fun f=>(xl.o f.w).mono fun e w' ⟨h1,ae⟩=>⟨h1,f,ae⟩
     have ZK:jt<wc.heap.size:=mw.o.ways.row.row.lt rfl;have ir:=mw.o.law.U.U.lt;go_wp2_with fail
     refine kd (aR wc) 21 (by kernel_rfl) (by kernel_rfl) (cE).drew ?_;simp only[jC,ju,j4,jR];repeat(go_big_quiet_step (first|(go_at_call 51;exact Lw.o _)))
     refine gG ?_;intro _ ds;obtain⟨fq,rfl⟩:=ds;obtain⟨wd,Xw⟩:=fq;try dsimp only
     have xm:=J (mw.o.below P Xw);clear mw Xw m0 m1 m2 m3 m4 m5 m6 m7 Lw v2 eo aP ba ey hB gS Sp ZK ir Sq;have z0:=xm.o.box.U.cell 0;have h0:=xm.o.box.U.cell 1;have z2:=xm.o.box.U.cell 2;have z3:=xm.o.box.U.cell 3;have z4:=xm.o.box.U.cell 4;have z5:=xm.o.box.U.cell 5;simp only[fC.cells,jg,kK]at z0 h0 z2 z3 z4 z5;have aug:=xm.o.box.U.frozen;have uE:=xm.o.box.U.lt;go_wp2_with fail
     go_meet;rw[HEq.o];refine xm.o.put P (aoX xm.o.box.tag _ _ _ _ _ _) ?_;rw[bX.o];exact(((((xm.o.box.U.set 0 _).set 1 _).set 2 _).set 3 _).set 4 _).set 5 _
    ·have HEq:Hid (L[zC b L.length]'(K1 b As)=L[eM]):=by
      have e:zC b L.length=eM:=by rw[Py.o,if_neg hb]
      unfold Hid;congr 1
     go_wp2_with fail
     go_meet;rw[HEq.o];exact mw
   case rest=>
    have iF:=hcut;have vk:L[zC b L.length]'(K1 b As)∈L:=eT _;obtain⟨l,aC⟩:∃l,L[zC b L.length]'(K1 b As)=l:=⟨_,rfl⟩;rw[aC]at iF vk;clear aC hcut mw xl Py kk Sp Sq;have sR:=J vk;obtain⟨js,r0,jc,-⟩:=(iF.o.ways.lets l vk).vec.row.shape;obtain⟨BY,uZ,xM,-⟩:=(iF.o.ways.lets l vk).frm.row.shape;obtain⟨fF,zy,het,-⟩:=(iF.o.ways.lets l vk).A_.row.shape;have uF:Hid (l.bD= .slice js n r0∧l.lh= .slice BY l.frm.length uZ∧l.aG= .slice fF l.upt.length zy):=⟨jc,xM,het⟩;have ek:=iF.o.op.U.c0;have cI:=iF.o.op.U.c1;have dq:=iF.o.op.U.c2;have eW:=iF.o.op.U.c3;have fo:=iF.o.op.U.c4;have iT:=iF.o.op.U.c5;have cQ:=iF.o.op.U.lt;have z0:=iF.o.box.U.c0;have h0:=iF.o.box.U.c1;have z2:=iF.o.box.U.c2;have z3:=jc▸iF.o.box.U.c3;have z4:=xM▸iF.o.box.U.c4;have z5:=het▸iF.o.box.U.c5;have uE:=iF.o.box.U.lt;have tS:Hid ((∀q,q<6->wc.heap[q]?=w.heap[q]?)∧∀q,q<6->nD q≠(s+1,bC,0)):=⟨fun q ad=>(iF.o.AZ.at (By.o q ad).1 (By.o q ad).2).1,fun q ad e=>by
     have a:=(iF.o.AZ.at (By.o q ad).1 (By.o q ad).2).2;refine(By.o q ad).2 ?_;rw[<-a,e];exact⟨by simp,by simp⟩⟩
    have uG:Hid (j6 (X bC) wc nD (s+1,bC,0) eQ n bC d):=bn.o.2.2.2.1▸bn.o.2.2.1▸iF.o.law.prog bC aq;clear jc xM het vk;by_cases zh:kind=11
    ·subst zh
     cases aU:l.gp
     ·rw[aU]at h0
      go_wp2_with fail
      refine(cM.o.gp bC eQ d l wc nD aq bn.o.1 bn.o.2.1 sR.o aU tS.o.1 tS.o.2 uG.o).mono ?_;rintro e w2 ⟨x,T,dx,I1,rfl,hY,aD⟩;have Vb:Hid (a7.set bC d=a7):=by
       obtain⟨h1,ae⟩:=w8.1 bn.o.1;unfold Hid;rw[<-ae];exact set_getElem_self _
      have bu:Hid (cU (qC j6 (nd X bC x)) bk bQ w2 dx s aj az n aI ak (.slice (some (aa iP 0)) aI.length ix) (.slice (some (aa jt 0)) L.length oN) aG aK aN ah ar m a7 a7 ts):=by
       have a:=iF.o.law.Te sY aq aD (bn.o.2.2.2.1.symm▸hY);rw[Vb.o]at a;exact a
      have W2:=J (iF.o.ways.da (aD.da fun _=>id) fun a b c aU e=>by simp at e;omega);have M2:=J (iF.o.AZ.trans (aD.da fun t e=>by subst e;exact⟨by simp,by simp⟩));have gl:=J (iF.o.box.ay aD (by simp));have dm:=gl.o.U.c0;have dz:=gl.o.U.c1;have ei:=gl.o.U.c2;have fG:=uF.o.1▸gl.o.U.c3;have ib:=uF.o.2.1▸gl.o.U.c4;have j2:=uF.o.2.2▸gl.o.U.c5;have zH:=gl.o.U.lt;rw[aU]at dz;have D7:kv bk bQ w2 dx s bC eJ n d:=bn.o.2.2.2.2▸bn.o.2.2.1▸bu.o.ref bC aq;obtain⟨x2,xG,tT,RK⟩:=D7;have yD:=J (⟨tT,RK⟩:_∧_);have ff:Hid (b3 w2 dx (s+14,0,0) 3 1 (.slice js n r0) n (ints l.vec)):=uF.o.1▸(W2.o.lets l sR.o).vec;have Lh:=J I1;clear tT RK I1 hY aD iF uG tS gl z0 h0 z2 z3 z4 z5 uE ek cI dq eW fo iT cQ;go_wp2_with fail
      refine(alQ x2 xG w2 dx s bC eJ n l.cN d (bk bC) (bQ bC) (s+14,0,0) (s+14,0,0) false (.slice js n r0) (.slice BY l.frm.length uZ) (.slice fF l.upt.length zy) l.vec yD.o.1 yD.o.2 ff.o (cM.o.cN l sR.o).2 (fun k e=>by simp at e) (cM.o.cN l sR.o).1 hn b2).mono ?_;rintro e bN ⟨v',nr,ed,iv,rfl,Au,Vn,Vk,Ca⟩;obtain⟨yf,yg,bB,-⟩:=Au.vec.row.shape;subst bB;obtain⟨xB,xC,IF,-⟩:=Au.frm.row.shape;subst IF;obtain⟨yc,yd,ahx,-⟩:=Au.A_.row.shape;subst ahx;have cd:Hid (cU (qC j6 (nd X bC x)) (nd bk bC (rR (bk bC) l.cN (fB (bk bC l.cN) l.vec n))) bQ bN iv s aj az n aI ak (.slice (some (aa iP 0)) aI.length ix) (.slice (some (aa jt 0)) L.length oN) aG aK aN ah ar m a7 a7 ts):=by
       have a:=bu.o.abW (sY _) aq (j:=l.cN) (Ca.mono fun _ e=>Or.inr e) (bn.o.2.2.2.2.symm▸Vn) Vk;rw[Vb.o]at a;exact a
      have ie:=J (W2.o.da (Ca.da fun _=>id) fun a b c aU e=>by simp at e;omega);have kN:=J (M2.o.trans (Ca.da fun t e=>by subst e;exact⟨by simp,by simp⟩));have yB:=J Au;clear Au Vn Vk Ca bu W2 M2 yD ff dm dz ei fG ib j2 zH;generalize iA:nd bk bC (rR (bk bC) l.cN (fB (bk bC l.cN) l.vec n))=BH at*;have aej:=J iA;clear iA;generalize wq:(qN (bQ bC) l.vec n).length=xE at*;generalize wm:d.ag.length=dl at*;have arb:=J (⟨wq,wm⟩:_∧_);clear wq wm;go_upto_region 20 with(fail);have cR:=J (cd.o.new (sY _) (.cells #[.bool true,I bC,.slice yf n yg,.slice xB xE xC,.slice yc dl yd] 99) (s+12,2,0));have mP:=J (cP.fresh bN iv [.bool true,I bC,.slice yf n yg,.slice xB xE xC,.slice yc dl yd] 99 (s+12,2,0));have z6:=tw (B:=fun _=>False) bN iv (.cells #[.bool true,I bC,.slice yf n yg,.slice xB xE xC,.slice yc dl yd] 99) (s+12,2,0);have fY:=J (ie.o.da z6 fun _ _ _ _=>id);have sV:Hid (r6 _ _ (s+14,0,0) n (.slice yf n yg) (.slice xB xE xC) (.slice yc dl yd) d.ag (qN (bQ bC) l.vec n) d.ag):=r6.fp yB.o fun q ad e=>by
       have:=z6.at ad id;exact⟨this.1,this.2.trans e⟩
      have sX:=J (kN.o.trans (z6.mono fun _ e=>e.elim));clear z6 cd ie kN yB;generalize tb:bN.alloc (.cells #[.bool true,I bC,.slice yf n yg,.slice xB xE xC,.slice yc dl yd] 99)=V at*;generalize ee iv bN.heap.size (s+12,2,0)=atK at*;generalize bN.heap.size=atw at*;clear tb;have c2:=cR.o.U.U.c2;have f2:=cR.o.U.U.frozen 2;have dY:=cR.o.U.U.lt;have dm:=mP.o.U.c0;have dz:=mP.o.U.c1;have ei:=mP.o.U.c2;have fG:=mP.o.U.c3;have ib:=mP.o.U.c4;have zH:=mP.o.U.lt;have HV:=J fY.o.row;have r4:=J cR.o.U;generalize (some ((aa jt 0):Addr))=OM at*;have Du:Hid (∀u∈([ai T,.bool true,I bC,.slice yf n yg,.slice xB xE xC,.slice yc dl yd]:List Value),u.oneCell'=true):=by
       intro u hu;simp at hu;rcases hu with rfl|rfl|rfl|rfl|rfl|rfl<;>rfl
      have U2:Hid (L.length+1<=maxLen∧(L.length+1)*104<=140737488355328):=⟨by unfold maxLen;omega,by omega⟩;have aer:Hid (Row (V.alloc (.cells #[ai T,.bool true,I bC,.slice yf n yg,.slice xB xE xC,.slice yc dl yd] 101)).drew 101 6 (.slice OM L.length oN) L.length (L.flatMap fC.cells)):=h2 HV.o.row _;have aes:=J (CP V [ai T,.bool true,I bC,.slice yf n yg,.slice xB xE xC,.slice yc dl yd] 101);go_region_law(refine q6 rfl _ _ 90 rfl 101 i0 (.agg #[ai ⟨#[]⟩,.bool false,I 0,.slice none 0 0,.slice none 0 0,.slice none 0 0]) 6 104 underlying90 cw.o.1 cw.o.2.1 cw.o.2.2.1 cw.o.2.2.2 rfl (by decide) (.slice OM L.length oN) L.length (L.flatMap fC.cells) (by simp[Act.eval]) aer.o (aa (V.heap.size) 0) 1 1 [ai T,.bool true,I bC,.slice yf n yg,.slice xB xE xC,.slice yc dl yd] (by simp[Act.eval]) rfl aes.o Du.o U2.o.1 U2.o.2 ?_;intro v6 eS xV oE D9;obtain⟨g6,agn,rfl,-,-,-,-,-⟩:=Row.pos xV (by omega);have mD:(V.alloc (.cells #[ai T,.bool true,I bC,.slice yf n yg,.slice xB xE xC,.slice yc dl yd] 101)).grownBy eS (Value.slice OM L.length oN).ownBlock:=⟨oE.os,oE.tape,oE.output,oE.size,oE.block⟩;have dT:=(r4.o.alloc _).dw mD HV.o.tag (by simp);have nc:eS.cell? (aa aj 2)=some (.slice OM L.length oN):=dT.U.cell 2;have sF:eS.frozen? (aa aj 2)=false:=dT.U.frozen 2;have CM:=dT.U.lt;have Dv:=J (⟨xV,mD,D9⟩:_∧_∧_);clear dT oE xV mD D9)
      all_goals(obtain⟨hr,bd,cc,m4⟩:=aam (sY _) cR.o fY.o ⟨T,true,bC,.slice yf n yg,.slice xB xE xC,.slice yc dl yd,d.ag,qN (bQ bC) l.vec n,d.ag⟩ sV.o Dv.o.1 Dv.o.2.1 Dv.o.2.2;have cz:=J (⟨bd,cc,sX.o.trans m4⟩:_∧_∧_);clear bd cc m4 Dv nc sF CM)
      all_goals
       go_wp2_with fail
       go_ret;exact⟨rfl,hr,_,a7,_,_,_,cz.o.1,cz.o.2.1,cz.o.2.2,Or.inr (Or.inl ⟨bC,d,l,x,T,_,_,_,aq,bn.o.1,sR.o,aU,Lh.o,rfl,rfl,aej.o.symm,rfl⟩)⟩
     ·as_aux_lemma=>
       rw[aU]at h0;go_wp2_with fail
       refine(cM.o.afr bC eQ d l wc nD aq bn.o.1 bn.o.2.1 sR.o aU tS.o.1 uG.o).mono ?_;rintro e w2 ⟨rfl,bP⟩;have bu:=J (iF.o.below (sY X) bP);have aqW:=bZ bP h0;have aq9:=bu.o.box.U.lt;clear bP iF uG tS z0 h0 z2 z3 z4 z5 uE ek cI dq eW fo iT cQ;go_wp2_with fail
       go_ret;exact⟨rfl,nD,_,a7,X,bk,L,bu.o.law,bu.o.ways,bu.o.AZ,Or.inl ⟨rfl,rfl,rfl,rfl⟩⟩
    ·have atm:(kind==11)=false:=by simp[zh]
     by_cases Z7:kind=12
     ·subst Z7
      cases aU:l.gp
      ·as_aux_lemma=>
        rw[aU]at h0;go_wp2_with fail
        refine(cM.o.an8 bC eQ d l wc nD aq bn.o.1 bn.o.2.1 sR.o aU tS.o.1 uG.o).mono ?_;rintro e w2 ⟨rfl,bP⟩;have bu:=J (iF.o.below (sY X) bP);have aqW:=bZ bP h0;have aq9:=bu.o.box.U.lt;clear bP iF uG tS z0 h0 z2 z3 z4 z5 uE ek cI dq eW fo iT cQ;go_wp2_with fail
        go_ret;exact⟨rfl,nD,_,a7,X,bk,L,bu.o.law,bu.o.ways,bu.o.AZ,Or.inl ⟨rfl,rfl,rfl,rfl⟩⟩
      ·as_aux_lemma=>
        rw[aU]at h0;go_wp2_with fail
        refine(cM.o.recv bC eQ d l wc nD aq bn.o.1 bn.o.2.1 sR.o aU tS.o.1 uG.o).mono ?_;rintro e w2 ⟨d',x,dx,I1,rfl,hY,aD⟩;have bu:Hid (cU (qC j6 (nd X bC x)) bk bQ w2 dx s aj az n aI ak (.slice (some (aa iP 0)) aI.length ix) (.slice (some (aa jt 0)) L.length oN) aG aK aN ah ar m (a7.set bC d') a7 ts):=iF.o.law.Te sY aq aD (bn.o.2.2.2.1.symm▸hY);have W2:=J (iF.o.ways.da (aD.da fun _=>id) fun a b c aU e=>by simp at e;omega);have M2:=J (iF.o.AZ.trans (aD.da fun t e=>by subst e;exact⟨by simp,by simp⟩));have gl:=J (iF.o.box.ay aD (by simp));have dm:=gl.o.U.c0;have dz:=gl.o.U.c1;have ei:=gl.o.U.c2;have fG:=uF.o.1▸gl.o.U.c3;have ib:=uF.o.2.1▸gl.o.U.c4;have j2:=uF.o.2.2▸gl.o.U.c5;have zH:=gl.o.U.lt;rw[aU]at dz;have D7:kv bk bQ w2 dx s bC eJ n d:=bn.o.2.2.2.2▸bn.o.2.2.1▸bu.o.ref bC aq;obtain⟨x2,xG,tT,RK⟩:=D7;have yD:=J (⟨tT,RK⟩:_∧_);have yB:Hid (r6 w2 dx (s+14,0,0) n (.slice js n r0) (.slice BY l.frm.length uZ) (.slice fF l.upt.length zy) l.vec l.frm l.upt):=uF.o.1▸uF.o.2.1▸uF.o.2.2▸W2.o.lets l sR.o;have Lh:=J I1;have g1:=bu.o.U.U.c1;have aih:=bu.o.U.U.lt;clear tT RK I1 hY aD iF uG tS gl z0 h0 z2 z3 z4 z5 uE ek cI dq eW fo iT cQ;go_upto_region 26 with(fail);have yC:Hid (∀W,ax w2 W->Calls prog 99 #[ptr az,ptr eJ,zj true l.cN (.slice js n r0) (.slice BY l.frm.length uZ) (.slice fF l.upt.length zy)] W (Vp W dx s bC eJ az n l.cN ak x2 xG ts d (rR (bk bC) l.cN (fB (bk bC l.cN) l.vec n)) (bQ bC) l.frm l.upt saw)):=fun W ao=>by
         have h1:lD x2 xG W dx s bC eJ n d:=by
          obtain⟨bD,v,xs,R⟩:=yD.o.1;exact⟨bD,v,xs,R.below ao⟩
         have ae:uQ W dx s az n ak ts:=by
          obtain⟨jA,de,c_,G⟩:=bu.o.hE;exact⟨jA,de,c_,G.below ao⟩
         have aH:=yD.o.2.ay (ct.dh (A:=fun _=>False) (o:=dx) ao) fun _=>id
         have bd:r6 W dx (s+14,0,0) n (.slice js n r0) (.slice BY l.frm.length uZ) (.slice fF l.upt.length zy) l.vec l.frm l.upt:=⟨yB.o.vec.below ao,yB.o.frm.below ao,yB.o.A_.below ao⟩;obtain⟨aP,ba,ey,hB,gS⟩:=cM.o.lens l sR.o aU;exact alW x2 xG W dx s bC eJ az n l.cN ak ts d (bk bC) (bQ bC) (s+14,0,0) true _ _ _ l.vec l.frm l.upt saw h1 ae aH bd (cM.o.cN l sR.o).2 aP ba ⟨by simp,fun k e=>by simp at e⟩ (cM.o.cN l sR.o).1 hn b2 (cM.o.oQ bC d bn.o.1) ey hB gS cM.o.tB
        have m0:=aR.cell g1;have m1:=aR.cell dz;have m2:=aR.cell ei;have m3:=aR.cell fG;have m4:=aR.cell ib;have m5:=aR.cell j2;refine kd (aR w2) 7 (by kernel_rfl) (by kernel_rfl) (cE).drew ?_;simp only[jC,ju,j4,jR];repeat(go_big_quiet_step (fail))
        refine gG ?_;intro _ ds;obtain⟨fq,rfl⟩:=ds;obtain⟨bN,b0⟩:=fq;try dsimp only
        have ck:=J (bu.o.below (sY _) b0);have dH:=J (W2.o.da ((ct.dh (A:=fun _=>False) (o:=dx) b0).da fun _=>id) fun _ _ _ _=>id);have kh:=J (M2.o.trans ((ct.dh (A:=hq s) (o:=dx) b0).da fun _=>id));have U7:=J (yC.o bN b0);clear yC bu W2 M2 b0 m0 m1 m2 m3 m4 m5 yB yD g1 aih dm dz ei fG ib j2 zH;go_wp2_with fail
        refine U7.o.mono ?_;rintro e cc ⟨rfl,hr,cur,PI,-,Vl,qO,uv,a1⟩;have fh:cur.length=n:=by
         obtain⟨bD,v,xs,R⟩:=PI;exact R.len
        obtain⟨q1,dy⟩:=cM.o.same bC d l d' x cur bn.o.1 sR.o Lh.o fh uv a1;have cd:=J (ck.o.abW (sY _) aq qO (bn.o.2.2.2.2.symm▸lD.congr (d':=d') PI q1 dy) Vl);have ie:=J (dH.o.da (qO.da fun _=>id) fun a b c aU e=>by rcases e with e|e<;>simp at e<;>omega);have kN:=J (kh.o.trans (qO.da fun t e=>by rcases e with rfl|rfl<;>exact⟨by simp,by simp⟩));clear PI Vl qO uv a1 fh q1 dy ck dH kh U7;go_wp2_with fail
        go_ret;exact⟨rfl,hr,_,_,_,_,_,cd.o,ie.o,kN.o,Or.inr (Or.inr ⟨bC,d,l,d',x,aq,bn.o.1,sR.o,aU,Lh.o,rfl,rfl,rfl,rfl⟩)⟩
     ·have atn:(kind==12)=false:=by simp[Z7]
      as_aux_lemma=>
       go_wp2_with fail
       have oH:=cM.o.apa bC eQ d l wc nD aq bn.o.1 bn.o.2.1 sR.o tS.o.1 uG.o;rw[uF.o.1,uF.o.2.1,uF.o.2.2]at oH;refine oH.mono ?_;rintro e w2 ⟨rfl,bP⟩;have bu:=J (iF.o.below (sY X) bP);clear bP oH iF uG tS z0 h0 z2 z3 z4 z5 uE ek cI dq eW fo iT cQ;go_wp2_with fail
       go_ret;exact⟨rfl,nD,_,a7,X,bk,L,bu.o.law,bu.o.ways,bu.o.AZ,Or.inl ⟨rfl,rfl,rfl,rfl⟩⟩
theorem aqJ (aX:World->(Nat->Tag)->Tag->Nat->Nat->Nat->aZ->Prop)(bk:Nat->Nat->List Int)(bQ:Nat->List Int)(P:gH aX)(w:World)(o:Nat->Tag)(s aj az n:Nat)(aI ak:List Nat)(a6 a8 aG aK aN ah:Value)(ar:Int)(m:iM)(a7:List aZ)(ts:List aT)(p:gw)(aw:p.Ok)(hk:11<=p.kind)
  (h:cU aX bk bQ w o s aj az n aI ak a6 a8 aG aK aN ah ar m a7 a7 ts)(hw:ru w o s n a8 [])(hn:0<n)(b2:n<=5):
  Calls prog 54 #[ptr aj,p.agg] w (bx (.bool true) fun w'=>∃o',cU aX bk bQ w' o' s aj az n aI ak a6 a8 aG aK aN ah ar m a7 a7 ts∧ru w' o' s n a8 []∧dS (hq s) w o w' o'):=by
 obtain⟨kind,a,b,c,key,text⟩:=p;simp only at hk;have ajJ:(kind==10)=false:=by simp;omega
 obtain⟨bC,W,o1,iP,ix,mW,nj,eQ,eJ,d,sn,nZ,tm,aq,rfl,bY,wC,wb,iZ,hM,gW,aB,i_,ja⟩:=vr P h aw hn b2;obtain⟨-,-,-,-,-,c0,c1,c2,lk,l1,ek,cI,dq,-,-,-,ir,fW,ft,l5,l4⟩:=i_.o;have bR:=J hw;clear h hw i_;have bn:Hid (a7[bC]?=some d∧aI[bC]?=some eQ∧a7[bC]=d∧aI[bC]=eQ∧ak[bC]=eJ):=⟨by rw[hg (by omega),aB],by rw[hg (by omega),hM],aB,hM,gW⟩;clear aw hM gW aB;go_enter func54,ntmps54;go_upto_region 1 with(fail);go_cut[5] (fun v wc=>v=I bC∧Hid (ax W wc))
 case first=>
  go_region_with(go_at_call 51;refine(iZ.o _).mono ?_;rintro e w5 ⟨rfl,rfl⟩)
  all_goals
   go_wp2_with fail
   go_meet;exact⟨rfl,(cE).drew⟩
 case rest=>
  obtain⟨rfl,ao⟩:=hcut;clear c0 c1 c2 lk l1 ek cI dq ir fW ft l5 l4 bY iZ;obtain⟨bu,gl,M2,-,-,nm,ky,nn,nz,nv,nB,-,rO,-,-,-,kX,oD,oz,oF,oC⟩:=ja.o _ ao.o;have W2:=J (bR.o.da (M2.o fun _=>False) fun _ _ _ _=>id);replace M2:=J (M2.o (hq s))
  clear bR ja;obtain⟨OJ,oN,px,-⟩:=W2.o.row.row.shape;simp only[w3]at px;subst px;have v2:=bu.o.U.U.c2;go_wp2_with fail
  go_ret;exact⟨rfl,o1,bu.o,W2.o,M2.o⟩
def Aa (full t:ByteArray):Prop:=¬t=full∧((∃k,k<full.size∧t=full.extract 0 k)∨∃u:ByteArray,u.size<=1000000000∧t=full++u)
theorem apb (w:World)(aj b:Nat)(l:fC)(bD lh aG:Value)(p:gw)(aw:p.Ok)(uj: -9223372036854775808<=p.c)(Jl:p.c<=9223372036854775807)(aC:l.text.size<=200000000000)(br:p.text.size<=1000000000)
  (Gj:∀t W,Aa l.text t->ax w W->Calls prog 40 #[ptr b,ai t] W (bx (.tuple #[ai ⟨#[]⟩,I 6]) fun w'=>ax W w'))
  (GA:∀t W,Aa l.text t->ax w W->Calls prog 41 #[ptr b,ai t] W (bx (I 6) fun w'=>ax W w')):
  Calls prog 100 #[ptr aj,ptr b,.agg #[ai l.text,.bool l.gp,I l.cN,bD,lh,aG],p.agg] w (bx (.bool true) fun w'=>ax w w'):=by
 obtain⟨kind,a,LY,c,key,text⟩:=p;simp only at uj Jl br;obtain⟨full,oW⟩:∃full,l.text=full:=⟨_,rfl⟩;rw[oW]at aC Gj GA⊢;clear oW aw;have Uz:=J Gj;have U9:=J GA;clear Gj GA;go_enter func100,ntmps100;go_upto_region 1 with(fail);generalize bY:World.alloc (World.alloc w _) _=W;have ao:ax w W:=by rw[<-bY];exact((cj _ _)).alloc (by simp) _
 have bT:aQ W w.heap.size [ai full,.bool l.gp,I l.cN,bD,lh,aG] 101:=by rw[<-bY];exact aQ.alloc (cC w _) _
 have c6:aQ W (w.heap.size+1) [I kind,I a,I LY,I c,ai key,ai text] 30:=by
  rw[<-bY];have x:=cC (w.alloc (.cells #[ai full,.bool l.gp,I l.cN,bD,lh,aG] 101)) (.cells #[I kind,I a,I LY,I c,ai key,ai text] 30);have e:(w.alloc (.cells #[ai full,.bool l.gp,I l.cN,bD,lh,aG] 101)).heap.size=w.heap.size+1:=by simp
  rw[e]at x;exact x
 have dm:=bT.c0;have zH:=bT.lt;have z3:=c6.c3;have z5:=c6.c5;have uE:=c6.lt;have bO:=J ao;clear bY ao bT c6;by_cases aA:0<=c
 ·by_cases bm:0<full.size
  ·have ajZ:0<=c%(full.size:Int)∧c%(full.size:Int)<full.size:=⟨Fi _ (by omega),Int.emod_lt_of_pos _ (by omega)⟩
   obtain⟨k,hk⟩:∃k:Nat,(full.size:Int)-1-c%(full.size:Int)=k:=⟨((full.size:Int)-1-c%(full.size:Int)).toNat,by omega⟩;have dU:k<full.size:=by omega
   obtain⟨wx,so⟩:=ajZ;have hw:wrap64 ((full.size:Int)-1-c%(full.size:Int))=k:=by rw[hk];unfold wrap64;omega
   go_upto_region 3 with(fail);go_cut[9] (fun v wd=>v=ai (full.extract 0 k)∧wd=W)
   case first=>
    go_wp2_with fail
    go_meet;exact⟨by simp,rfl⟩
   case rest=>
    obtain⟨rfl,rfl⟩:=hcut;have dG:=bO;obtain⟨t,al⟩:∃t,full.extract 0 k=t:=⟨_,rfl⟩;have oH:Aa full t:=by
     rw[<-al];have fb:(full.extract 0 k).size=k:=by simp[ByteArray.size_extract];omega
     exact⟨fun e=>by rw[e]at fb;omega,Or.inl ⟨k,dU,rfl⟩⟩
    have HW:=J oH;have he:(t.toList==full.toList)=false:=A8.2 oH.1;rw[al];clear oH al hw hk wx so;go_wp2_with fail
    refine(Uz.o t _ HW.o bO.o).mono ?_;rintro e w2 ⟨rfl,bP⟩;have jG:Hid (ax w w2):=bO.o.trans (bP.mono bO.o.size);clear bP dm zH z3 z5 uE bO dG he;go_wp2_with fail
    refine(U9.o t _ HW.o jG.o).mono ?_;rintro e bN ⟨rfl,b0⟩;have kM:Hid (ax w bN):=jG.o.trans (b0.mono jG.o.size);clear b0 jG;go_wp2_with fail
    go_ret;exact⟨rfl,kM.o⟩
  ·have cF:full.size=0:=by omega
   go_wp2_with fail
   go_ret;exact⟨rfl,bO.o⟩
 ·by_cases bm:0<text.size
  ·go_upto_region 5 with(fail)
   go_cut[9] (fun v wd=>v=ai (full++text)∧wd=W)
   case first=>
    go_wp2_with fail
    go_meet;exact⟨rfl,rfl⟩
   case rest=>
    obtain⟨rfl,rfl⟩:=hcut;have dG:=bO;obtain⟨t,al⟩:∃t,full++text=t:=⟨_,rfl⟩;have oH:Aa full t:=by
     rw[<-al];have fb:(full++text).size=full.size+text.size:=ByteArray.size_append;exact⟨fun e=>by rw[e]at fb;omega,Or.inr ⟨text,br,rfl⟩⟩
    have HW:=J oH;have he:(t.toList==full.toList)=false:=A8.2 oH.1;rw[al];clear oH al bm;go_wp2_with fail
    refine(Uz.o t _ HW.o bO.o).mono ?_;rintro e w2 ⟨rfl,bP⟩;have jG:Hid (ax w w2):=bO.o.trans (bP.mono bO.o.size);clear bP dm zH z3 z5 uE bO dG he;go_wp2_with fail
    refine(U9.o t _ HW.o jG.o).mono ?_;rintro e bN ⟨rfl,b0⟩;have kM:Hid (ax w bN):=jG.o.trans (b0.mono jG.o.size);clear b0 jG;go_wp2_with fail
    go_ret;exact⟨rfl,kM.o⟩
  ·have cF:text.size=0:=by omega
   go_wp2_with fail
   go_ret;exact⟨rfl,bO.o⟩
end Go.Proofs.YtiplgdkpnhamaaaGreatDoor.Tv
