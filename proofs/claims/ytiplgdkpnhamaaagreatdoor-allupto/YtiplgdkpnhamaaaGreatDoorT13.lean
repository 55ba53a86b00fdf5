import Derived.Test.YtiplgdkpnhamaaaGreatDoorT10
import Derived.Test.YtiplgdkpnhamaaaGreatDoorT07
import Derived.Deep.RegionWith
import Derived.Deep.DeepCutAuto
import Derived.Shelf.SlSortCmp.QuietGrown
set_option maxHeartbeats 4000000
set_option maxRecDepth 100000
namespace Go.Proofs.YtiplgdkpnhamaaaGreatDoor
open Go.Proofs.Tryz List
open Go.RowKit
variable {M N T j:Nat}{S l:List Int}{b:Bool}{hs:List aT}{key:ByteArray}{o:db}{ops:List db}{p:Place}{saw seen:aW}{sI:b5}
structure FJ (H:bG)(p:Place)(N:Nat)(st:b5):Prop where
 b:∀d v,st.bh ⟨p,d⟩=some v->∃j,j<N∧d=H.dot j∧H.hN p j=true∧v=H.gN p j (N+1)
 c:∀j,j<N->H.hN p j=true->(H.fw p j (N+1)=none∨∃s k,s∈st.bW∧s.saw.gI (H.dot j)=true∧H.fw p j (N+1)=some k∧s.saw.gI (H.dot k)=false)->st.bh ⟨p,H.dot j⟩=some (H.gN p j (N+1))
 e:∀s,s∈st.bW->∀d,(⟨p,d⟩:cn)∈s.kept->∃j,j<N∧d=H.dot j∧H.hN p j=true∧(H.fw p j (N+1)).isSome
theorem acH {H:bG}(hO:H.Ok (N+1))(iJ:∀j,j<N->H.over p N j=seen.gI (H.dot j)):∀(l:List bF) (lg:bF->Bool) (st:b5),uO H p N lg st->l.Nodup->(∀d,d∈l->(st.bh ⟨p,d⟩).isSome∧lg d=false)->
  uO H p N (fun e=>lg e||decide (e∈l)) (l.foldl (iy p seen (H.dot N)) st)
 |[],lg,st,h,_,_=>by simpa using h
 |a::l,lg,st,h,hn,aC=>by
  obtain⟨aU,sq⟩:=yt.1 hn;have h1:=h.step hO iJ (aC a (by simp)).1 (aC a (by simp)).2;have ae:=acH hO iJ l _ _ h1 sq (fun d aB=>by
   have bS:d≠a:=fun e=>aU (e▸aB)
   refine⟨?_,by simp[bS,(aC d (by simp[aB])).2]⟩;rw[NP (fun e=>bS (cn.mk.inj e).2)];exact(aC d (by simp[aB])).1)
  have e:(fun e=>(lg e||decide (e=a))||decide (e∈l))=fun e=>lg e||decide (e∈a::l):=by
   funext e;rw[Bool.or_assoc];congr 1;rw[Bool.eq_iff_iff];simp
  rw[e]at ae;exact ae
theorem aov {H:bG}{st:b5}(hO:H.Ok (N+1))(bY:st.h5)(iJ:∀j,j<N->H.over p N j=seen.gI (H.dot j))(h:nP H p N st):FJ H p N (oL st p seen (H.dot N)):=by
 have tp:∀d,d∈st.came p->(st.bh ⟨p,d⟩).isSome:=fun d aB=>(bY.here p d).1 aB
 have bI:=acH hO iJ (st.came p) (fun _=>false) st (uO.start h) (bY.once p) (fun d aB=>⟨tp d aB,rfl⟩);have dJ:=(TA bY p seen (hO.ok N (by omega)) (st.came p) (bY.once p) tp).2;have ao:=TT p seen (H.dot N) (st.came p) st;unfold oL;generalize (st.came p).foldl (iy p seen (H.dot N)) st=st2 at*;have hj:∀j,j<N->H.hN p j=true->H.dot j∉st.came p->∃k,H.fw p j N=some k∧∀s,s∈st.bW->¬(s.saw.gI (H.dot j)=true∧s.saw.gI (H.dot k)=false):=fun j af aq hn=>by
  have av:¬(st.bh ⟨p,H.dot j⟩).isSome:=fun c=>hn ((bY.here p _).2 c)
  cases e:H.fw p j N with
  |none=>exact absurd (by rw[h.c j af aq (Or.inl e)];rfl) av
  |some k=>
   refine⟨k,rfl,fun s hs c=>av ?_⟩;rw[h.c j af aq (Or.inr ⟨s,k,hs,c.1,e,c.2⟩)];rfl
 refine⟨fun d v aB=>?_,fun j af aq aA=>?_,fun s hs d aB=>?_⟩
 ·have hm:d∈st.came p:=by
   by_cases c:d∈st.came p
   ·exact c
   ·rw[dJ d c]at aB
    exact(bY.here p d).2 (by rw[aB];rfl)
  obtain⟨j,h1,ae,aH,bd⟩:=bI.b d v aB;exact⟨j,h1,ae,aH,by simpa[hm]using bd⟩
 ·by_cases c:H.dot j∈st.came p
  ·have:=bI.c j af aq
   simp only[c,decide_true,Bool.or_true,uC]at this;exact this aA
  ·obtain⟨k,hk,eV⟩:=hj j af aq c
   rw[bG.Hn hk]at aA;rcases aA with aA|⟨s,gC,h1,ae,aH,bd⟩
   ·cases aA
   ·cases aH
    obtain⟨cY,wD,aP,-,-⟩:=ao s h1;exact absurd ⟨by rw[<-aP];exact ae,by rw[<-aP];exact bd⟩ (eV cY wD)
 ·obtain⟨j,h1,ae,aH,bd⟩:=bI.e s hs d aB
  refine⟨j,h1,ae,aH,?_⟩;split at bd
  ·exact bd
  ·obtain⟨k,hk⟩:=mn.1 bd
   rw[bG.Hn hk];rfl
theorem FJ.none {H:bG}{st:b5}(h:FJ H p N st)(aq:H.hN p N=false):nP H p (N+1) st:=by
 refine⟨fun d v aB=>?_,fun j af m_ aA=>?_,fun s hs d aB=>?_⟩
 ·obtain⟨j,a,b⟩:=h.b d v aB;exact⟨j,by omega,b⟩
 ·refine h.c j ?_ m_ aA
  rcases vE j N with c|c
  ·exact c
  ·have:j=N:=by omega
   subst this;rw[aq]at m_;cases m_
 ·obtain⟨j,a,b⟩:=h.e s hs d aB;exact⟨j,by omega,b⟩
theorem FJ.put {H:bG}{st:b5}(h:FJ H p N st)(hO:H.Ok (N+1))(aq:H.hN p N=true){v:gQ}(av:v=H.gN p N (N+1)):nP H p (N+1) (vv st ⟨p,H.dot N⟩ v):=by
 subst av;have bS:∀j,j<N->(⟨p,H.dot j⟩:cn)≠⟨p,H.dot N⟩:=fun j af e=>by
  have:=hO.inj j N (by omega) (by omega) (cn.mk.inj e).2;omega
 refine⟨fun d v aB=>?_,fun j af m_ aA=>?_,fun s hs d aB=>?_⟩
 ·have jk:lv st.bh ⟨p,H.dot N⟩ (some (H.gN p N (N+1))) ⟨p,d⟩=some v:=aB
  by_cases c:d=H.dot N
  ·subst c;rw[vy]at jk;cases jk
   exact⟨N,by omega,rfl,aq,rfl⟩
  ·rw[tD (fun e=>c (cn.mk.inj e).2)]at jk
   obtain⟨j,a,b⟩:=h.b d v jk;exact⟨j,by omega,b⟩
 ·show lv st.bh ⟨p,H.dot N⟩ (some (H.gN p N (N+1))) ⟨p,H.dot j⟩=_
  rcases vE j N with c|c
  ·rw[tD (bS j c)];exact h.c j c m_ aA
  ·have:j=N:=by omega
   subst this;rw[vy]
 ·obtain⟨j,a,b⟩:=h.e s hs d aB;exact⟨j,by omega,b⟩
theorem wrap_small (a b:Int):wrap64 (wrap64 a+b)=wrap64 (a+b):=by unfold wrap64;omega
theorem bG.ac3 (H:bG)(p:Place):∀j,wrap64 (H.total p j)=H.total p j
 |0=>by simp[bG.total,wrap64]
 |j+1=>by
  have:=wrap_small (H.total p j+tV (H.wr j p)) 0;simpa[bG.total]using this
theorem bG.E4 {H:bG}:∀m,(∀k,j<=k->k<j+m->H.wr k p=none)->H.total p (j+m)=H.total p j
 |0,_=>rfl
 |m+1,h=>by
  have e:=bG.E4 m (fun k a b=>h k a (by omega));show wrap64 (H.total p (j+m)+tV (H.wr (j+m) p))=_
  rw[h (j+m) (by omega) (by omega),e];have:=H.ac3 p j;simpa[tV]using this
theorem bG.SA (H:bG)(p:Place):∀N,(∀k,k<N->H.wr k p=none)∨∃j,j<N∧(H.wr j p).isSome∧∀k,j<k->k<N->H.wr k p=none
 |0=>Or.inl fun k hk=>by omega
 |N+1=>by
  cases e:H.wr N p with
  |some x=>exact Or.inr ⟨N,by omega,by rw[e];rfl,fun k a b=>by omega⟩
  |none=>
   rcases bG.SA H p N with h|⟨j,a,b,c⟩
   ·exact Or.inl fun k hk=>by
     by_cases q:k=N
     ·subst q;exact e
     ·exact h k (by omega)
   ·exact Or.inr ⟨j,by omega,b,fun k h1 ae=>by
     by_cases q:k=N
     ·subst q;exact e
     ·exact c k h1 (by omega)⟩
theorem apd {H:bG}{st:b5}(hO:H.Ok N)(bY:st.h5)(h:nP H p N st)(hk:∀j x,j<N->H.wr j p=some x->x.kind=0):C3 st p=H.total p N:=by
 have rG:∀j,j<N->H.fw p j N=none->∀k,j<k->k<N->H.wr k p=none:=fun j _ hw k h1 ae=>by
  have:=bG.Ho hw k h1 ae;unfold bG.over at this;split at this
  ·assumption
  ·rename_i x au
   rw[hk k x ae au]at this;simp at this
 unfold C3;split
 ·rename_i d aB
  have hm:=mem_of_find?_eq_some aB;have a1:=find?_some aB;obtain⟨v,av⟩:=mn.1 ((bY.here p d).1 hm);obtain⟨j,af,rfl,aq,rfl⟩:=h.b d v av;have EC:hS st.bh ⟨p,H.dot j⟩=H.gN p j N:=by unfold hS;rw[av];rfl
  rw[EC]at a1⊢;rw[bG.He hO]at a1;have ba:=bG.E4 (H:=H) (p:=p) (j:=j+1) (N-(j+1)) (fun k a b=>rG j af a1 k (by omega) (by omega));rw[show j+1+(N-(j+1))=N by omega]at ba;rw[ba];unfold bG.hN at aq;unfold bG.gN;split
  ·rename_i au;rw[au]at aq;simp at aq
  ·rename_i x au
   rw[if_pos (hk j x af au)]
 ·rename_i JF
  rw[find?_eq_none]at JF;rcases H.SA p N with c|⟨j,af,hw,aC⟩
  ·have:=bG.E4 (H:=H) (p:=p) (j:=0) N (fun k _ b=>c k (by omega))
   rw[vF]at this;rw[this];rfl
  ·obtain⟨x,au⟩:=mn.1 hw
   have CF:H.fw p j N=none:=bG.Uf fun k a b=>by unfold bG.over;rw[aC k a b]
   have ba:=bG.E4 (H:=H) (p:=p) (j:=j+1) (N-(j+1)) (fun k a b=>aC k (by omega) (by omega));rw[show j+1+(N-(j+1))=N by omega]at ba;rw[ba];cases aq:H.hN p j with
   |true=>
    have av:=h.c j af aq (Or.inl CF);have hm:H.dot j∈st.came p:=(bY.here p _).2 (by rw[av];rfl);have:=JF _ hm;have EC:hS st.bh ⟨p,H.dot j⟩=H.gN p j N:=by unfold hS;rw[av];rfl
    rw[EC,bG.He hO]at this;exact absurd CF this
   |false=>
    unfold bG.hN at aq;rw[au]at aq;simp only[hk j x af au,uC]at aq;simp at aq;exact aq.symm
theorem apZ (w:World)(aV:Nat)(Ip own:Value)(p:Place)(x:cG)(aD:aQ w aV [Ip,I 16,own] 122):
  Calls prog 62 #[.pointer (some (aa aV 0)),p.val,x.val] w (bx (I 5) fun w'=>ax w w'):=by
 obtain⟨k,a,v⟩:=x;obtain⟨eM,jn⟩:=p;simp only[Place.val]at*;have c1:=aD.c1;have aC:=aD.lt;clear aD;go_enter func62,ntmps62;go_wp2_with fail
 go_ret;exact⟨rfl,((cj _ _)).alloc (by simp) _⟩
theorem ap0 (w:World)(aV mb n:Nat)(calls:Int)(Ip:Value)(m:Place->Option cG)(p:Place)(x:cG)(aD:aQ w aV [Ip,I calls,.map (some mb)] 122)(bK:cV w 129 mb n Place.val cG.val m)(bS:aV≠mb)
  (aS:0<=calls)(nt:calls<16)(h1:p.key.size<=maxLen)(ae:p.el.size<=maxLen)(hn:n<maxLen):
  Calls prog 62 #[.pointer (some (aa aV 0)),p.val,x.val] w fun e w'=>e= .returned (I 0)∧aQ w' aV [Ip,I (calls+1),.map (some mb)] 122∧
   cV w' 129 mb (n+1) Place.val cG.val (fun q=>if q=p then some (nb m p x)else m q)∧Touch (fun q=>q=aV∨q=mb) w w':=by
 have dp:Hid (∀W,W.heap[mb]?=w.heap[mb]?->Calls prog 102 #[.map (some mb),p.val,x.val] W (bx (.tuple #[]) fun w'=>cV w' 129 mb (n+1) Place.val cG.val (fun q=>if q=p then some (nb m p x)else m q)∧Touch (fun q=>q=mb) W w')):=fun W bY=>anI W mb n m p x (bK.move bY) h1 ae hn
 have kU:=bK.lt;have aC:=aD.lt;have Za:mb≠aV:=fun e=>bS e.symm
 obtain⟨k,a,v⟩:=x;obtain⟨eM,jn⟩:=p;simp only[Place.val]at*;have c1:=aD.c1;have c2:=aD.c2;have f1:=aD.frozen 1;have aA:=Bi (by omega);have dA:=J aD;clear aD bK;go_enter func62,ntmps62;have XX:(((w.setCell (aa aV 1) (I (calls+1))).alloc (.cells #[ai eM,ai jn] 129)).alloc (.cells #[I k,I a,ai v] 132)).heap[mb]?=w.heap[mb]?:=by
  rw[iW _ _ _ (by simp;omega),iW _ _ _ (by simp;omega),rb _ _ _ _ Za]
 have XV:aQ (((w.setCell (aa aV 1) (I (calls+1))).alloc (.cells #[ai eM,ai jn] 129)).alloc (.cells #[I k,I a,ai v] 132)) aV [Ip,I (calls+1),.map (some mb)] 122:=((dA.o.set 1 _).alloc _).alloc _;have XY:Touch (fun q=>q=aV∨q=mb) w (((w.setCell (aa aV 1) (I (calls+1))).alloc (.cells #[ai eM,ai jn] 129)).alloc (.cells #[I k,I a,ai v] 132)):=(((Touch.refl _ _).setCell (p:=(aa aV 1)) (Or.inl (Or.inl rfl)) _).alloc _).alloc _;have ew:=J (⟨XX,XV,XY⟩:_∧_∧_);clear XX XV XY;go_wp2_with fail
 go_region_with(go_at_call 102;refine(dp.o _ (by exact ew.o.1)).mono ?_;rintro e w5 ⟨rfl,XF,eO⟩;have HS:=J XF;have mw:=J eO;clear XF eO)
 all_goals go_wp2_with fail
 all_goals go_ret
 all_goals exact⟨rfl,ew.o.2.1.move (mw.o.block aV ew.o.2.1.lt bS),HS.o,ew.o.2.2.drew.then (mw.o.mono fun q _ e=>Or.inr e)⟩
def nN (st:b5):Prop:=(st.bW.flatMap ej.kept).Nodup
theorem nN.sc {st:b5}{x:cn}(h:nN st)(au:∀s,s∈st.bW->x∉s.kept):nN (gA st x):=by
 unfold gA;split
 ·rename_i m hm
  obtain⟨a,s,b,e,rfl,-,-⟩:=AU hm;unfold nN at h⊢;rw[e]at h au;have aw:((a++oJ x s::b).flatMap ej.kept).Perm (x::(a++s::b).flatMap ej.kept):=by
   simp only[r3,kf,oJ];have h1:(a.flatMap ej.kept++(s.kept++[x]++b.flatMap ej.kept))=(a.flatMap ej.kept++s.kept)++x::b.flatMap ej.kept:=by simp
   have ae:(a.flatMap ej.kept++(s.kept++b.flatMap ej.kept))=(a.flatMap ej.kept++s.kept)++b.flatMap ej.kept:=by simp
   rw[h1,ae];exact perm_middle
  show((a++oJ x s::b).flatMap ej.kept).Nodup
  rw[aw.nodup_iff,yt];refine⟨fun c=>?_,h⟩;obtain⟨t,al,aA⟩:=uD.1 c;exact au t al aA
 ·exact h
theorem nN.one {H:bG}{lg:bF->Bool}{st:b5}{d:bF}(cx:nN st)(h:uO H p N lg st)(hO:H.Ok (N+1))(aB:(st.bh ⟨p,d⟩).isSome)(hn:lg d=false):nN (iy p seen (H.dot N) st d):=by
 unfold iy;split
 ·rename_i c
  rw[qv]at c;refine nN.sc ?_ ?_
  ·exact cx
  ·exact h.fresh (hO.less (pU N)) aB hn c.1
 ·exact cx
theorem nN.steps {H:bG}(hO:H.Ok (N+1))(iJ:∀j,j<N->H.over p N j=seen.gI (H.dot j)):∀(l:List bF) (lg:bF->Bool) (st:b5),uO H p N lg st->nN st->l.Nodup->(∀d,d∈l->(st.bh ⟨p,d⟩).isSome∧lg d=false)->nN (l.foldl (iy p seen (H.dot N)) st)
 |[],_,_,_,cx,_,_=>cx
 |a::l,lg,st,h,cx,hn,aC=>by
  obtain⟨aU,sq⟩:=yt.1 hn;have h1:=h.step hO iJ (aC a (by simp)).1 (aC a (by simp)).2;refine nN.steps hO iJ l _ _ h1 (cx.one h hO (aC a (by simp)).1 (aC a (by simp)).2) sq (fun d aB=>?_);have bS:d≠a:=fun e=>aU (e▸aB)
  refine⟨?_,by simp[bS,(aC d (by simp[aB])).2]⟩;rw[NP (fun e=>bS (cn.mk.inj e).2)];exact(aC d (by simp[aB])).1
def oq (isSet:Place->Prop)(st:b5):Prop:=∀q,isSet q->st.came q≠[]->st.els q.key q.el=true
theorem aci {els:ByteArray->ByteArray->Bool}{q:Place}(h:q≠p):nI els p b q.key q.el=els q.key q.el:=by
 unfold nI;rw[if_neg];rintro ⟨a,c⟩;exact h (by cases q;cases p;simp_all)
theorem aoS {els:ByteArray->ByteArray->Bool}:nI els p b p.key p.el=b:=by simp[nI]
theorem oq.drop {isSet:Place->Prop}{st:b5}(h:oq isSet st)(x:cn):oq isSet (vZ st x):=fun q ad aA=>by
 have mY:ml st.came x.at_ (rS (st.came x.at_) x.dot) q≠[]:=aA;show(if rS (st.came x.at_) x.dot=[]then nI st.els x.at_ false else st.els) q.key q.el=true
 by_cases c:q=x.at_
 ·subst c
  rw[zt]at mY;rw[if_neg mY];refine h _ ad fun e=>mY ?_
  rw[e];rfl
 ·rw[uA c]at mY
  split
  ·rw[aci c];exact h q ad mY
  ·exact h q ad mY
theorem oq.sc {isSet:Place->Prop}{st:b5}(h:oq isSet st)(x:cn):oq isSet (gA st x):=by
 unfold gA;split
 ·exact h
 ·exact h.drop x
theorem oq.steps {isSet:Place->Prop}(p:Place)(seen:aW)(cN:bF):∀(l:List bF) (st:b5),oq isSet st->oq isSet (l.foldl (iy p seen cN) st)
 |[],_,h=>h
 |a::l,st,h=>by
  refine oq.steps p seen cN l _ ?_;unfold iy;split
  ·refine oq.sc ?_ _
   exact h
  ·exact h
theorem oq.anD {isSet:Place->Prop}{st:b5}(h:oq isSet st){x:cn}(v:gQ)(au:¬isSet x.at_):oq isSet (vv st x v):=fun q ad aA=>by
 have mY:ml st.came x.at_ (st.came x.at_++[x.dot]) q≠[]:=aA;by_cases c:q=x.at_
 ·subst c;exact absurd ad au
 ·rw[uA c]at mY;exact h q ad mY
theorem oq.anE {isSet:Place->Prop}{st:b5}(h:oq isSet st){x:cn}(v:gQ):oq isSet (GS (vv st x v) x.at_):=fun q ad aA=>by
 have mY:ml st.came x.at_ (st.came x.at_++[x.dot]) q≠[]:=aA;show nI st.els x.at_ true q.key q.el=true
 by_cases c:q=x.at_
 ·subst c;exact aoS
 ·rw[uA c]at mY;rw[aci c];exact h q ad mY
structure vN (H:bG)(isSet:Place->Prop)(N:Nat)(left:Place->Bool)(sI st:b5):Prop where
 wf:st.h5
 pl:∀p,nP H p (if left p then N else N+1) st
 els:oq isSet st
 aY:nN st
 ag:st.ag=sI.ag
 bW:∀gL,gL∈st.bW->∃s,s∈sI.bW∧gL.saw=s.saw∧gL.U=s.U
 qK:st.bW.map ej.U=sI.bW.map ej.U
theorem acF (p:Place)(seen:aW)(cN:bF):∀(l:List bF) (st:b5),(l.foldl (iy p seen cN) st).bW.map ej.U=st.bW.map ej.U
 |[],_=>rfl
 |a::l,st=>by
  rw[sO,acF p seen cN l];unfold iy;split
  ·rw[WI]
  ·rfl
structure Vv (H:bG)(isSet:Place->Prop)(N:Nat)(saw ag:aW):Prop where
 ok:H.Ok (N+1)
 kinds:∀p x,H.wr N p=some x->x.kind=0∨x.kind=1∨x.kind=2∨x.kind=3
 acm:∀p x,H.wr N p=some x->(isSet p↔(x.kind=2∨x.kind=3))
 agJ:∀p x,H.wr N p=some x->x.kind=0->∀j y,j<N->H.wr j p=some y->y.kind=0
 ag:∀j,j<N->ag.gI (H.dot j)=true
 saw:∀j,j<N->H.qn N j=saw.gI (H.dot j)
 place:∀p,(H.wr N p).isSome->p.Ok
theorem bG.aqo (H:bG)(p:Place)(j:Nat):H.fw p j (j+1)=none:=by
 cases e:H.fw p j (j+1)with
 |none=>rfl
 |some k=>have:=bG.wY e;omega
theorem aqG {H:bG}{isSet:Place->Prop}{left:Place->Bool}{st:b5}{x:cG}(h:vN H isSet N left sI st)(bY:Vv H isSet N saw sI.ag)(au:H.wr N p=some x)(aC:left p=true):
  vN H isSet N (fun q=>left q&& !decide (q=p)) sI (C_ saw (H.dot N) st p x):=by
 have hO:=bY.ok;have aw:=h.pl p;rw[aC]at aw;simp only[uC]at aw;have akM:(⟨p,H.dot N⟩:cn).Ok:=⟨bY.place p (by rw[au];rfl),hO.ok N (by omega)⟩;have tp:∀d,d∈st.came p->(st.bh ⟨p,d⟩).isSome:=fun d aB=>(h.wf.here p d).1 aB
 -- at6 is seen
 have gen:∀seen:aW,(∀j,j<N->H.over p N j=seen.gI (H.dot j))->∀st1,st1=oL st p seen (H.dot N)->
   st1.h5∧FJ H p N st1∧oq isSet st1∧nN st1∧st1.ag=sI.ag∧(∀gL,gL∈st1.bW->∃s,s∈sI.bW∧gL.saw=s.saw∧gL.U=s.U)∧st1.bW.map ej.U=sI.bW.map ej.U∧(∀q,q≠p->nP H q (if left q then N else N+1) st1)∧st1.bh ⟨p,H.dot N⟩=none:=fun seen iJ st1 e=>by
  have bI:=aov hO h.wf iJ aw;have aiV:=h.wf.aou p seen (hO.ok N (by omega));have xL:=TT p seen (H.dot N) (st.came p) st;have Er:∀y:cn,y.at_≠p->(oL st p seen (H.dot N)).bh y=st.bh y:=fun y b9=>acI p seen (H.dot N) b9 (st.came p) st
  have B4:=oq.steps p seen (H.dot N) (st.came p) st h.els;have cx:nN (oL st p seen (H.dot N)):=nN.steps hO iJ (st.came p) (fun _=>false) st (uO.start aw) h.aY (h.wf.once p) (fun d aB=>⟨tp d aB,rfl⟩);have ta:=acJ p seen (H.dot N) (st.came p) st;have aiJ:=acF p seen (H.dot N) (st.came p) st;subst e;refine⟨aiV,bI,B4,cx,ta.trans h.ag,fun gL gj=>?_,aiJ.trans h.qK,fun q ad=>(h.pl q).other (fun d=>Er ⟨q,d⟩ ad) (fun gL gj=>?_),?_⟩
  ·obtain⟨s,a,b,c,-⟩:=xL gL gj
   obtain⟨cY,a0,dc,c0⟩:=h.bW s a;exact⟨cY,a0,b.trans dc,c.trans c0⟩
  ·obtain⟨s,a,b,-,c⟩:=xL gL gj
   exact⟨s,a,b,fun d aB=>(c _ aB).elim id (fun e=>absurd e ad)⟩
  ·cases e:(oL st p seen (H.dot N)).bh ⟨p,H.dot N⟩with
   |none=>rfl
   |some v=>
    obtain⟨j,a,b,-⟩:=bI.b _ _ e;have:=hO.inj N j (by omega) (by omega) b;omega
 have YZ:∀q,(if(left q&& !decide (q=p))then N else N+1)=if q=p then N+1 else if left q then N else N+1:=fun q=>by
  by_cases c:q=p<;>simp[c]
 -- one TY leaves no version, one TY leaves one
 have WV:∀seen:aW,(∀j,j<N->H.over p N j=seen.gI (H.dot j))->H.hN p N=false->vN H isSet N (fun q=>left q&& !decide (q=p)) sI (oL st p seen (H.dot N)):=fun seen iJ aq=>by
  obtain⟨g1,g2,g3,g4,g5,g6,g7,g8,g9⟩:=gen seen iJ _ rfl;refine⟨g1,fun q=>?_,g3,g4,g5,g6,g7⟩;show nP H q (if(left q&& !decide (q=p))then N else N+1) _
  rw[YZ];split
  ·rename_i c;subst c;exact g2.none aq
  ·rename_i c;exact g8 q c
 have Qq:∀(seen:aW) (v:gQ) (NO:Bool),(∀j,j<N->H.over p N j=seen.gI (H.dot j))->H.hN p N=true->v=H.gN p N (N+1)->v.fL.Ok->(NO=false->¬isSet p)->
   vN H isSet N (fun q=>left q&& !decide (q=p)) sI (if NO then GS (vv (oL st p seen (H.dot N)) ⟨p,H.dot N⟩ v) p else vv (oL st p seen (H.dot N)) ⟨p,H.dot N⟩ v):=fun seen v NO iJ aq av akK ake=>by
  obtain⟨g1,g2,g3,g4,g5,g6,g7,g8,g9⟩:=gen seen iJ _ rfl;have an:=g1.put akM akK g9;have base:∀st2:b5,st2.bh=(vv (oL st p seen (H.dot N)) ⟨p,H.dot N⟩ v).bh->st2.bW=(oL st p seen (H.dot N)).bW->st2.ag=(oL st p seen (H.dot N)).ag->st2.h5->oq isSet st2->vN H isSet N (fun q=>left q&& !decide (q=p)) sI st2:=fun st2 aP ba ey hw he=>by
   refine⟨hw,fun q=>?_,he,by unfold nN;rw[ba];exact g4,by rw[ey];exact g5,by rw[ba];exact g6,by rw[ba];exact g7⟩;show nP H q (if(left q&& !decide (q=p))then N else N+1) _
   rw[YZ];split
   ·rename_i c
    subst c;exact(g2.put hO aq av).other (fun d=>by rw[aP]) (fun s hs=>⟨s,by rw[ba]at hs;exact hs,rfl,fun d aB=>aB⟩)
   ·rename_i c
    refine(g8 q c).other (fun d=>?_) (fun s hs=>⟨s,by rw[ba]at hs;exact hs,rfl,fun d aB=>aB⟩);rw[aP];exact tD (fun e=>c (cn.mk.inj e).1)
  cases NO with
  |true=>exact base _ rfl rfl rfl (an.list p) (g3.anE (x:=⟨p,H.dot N⟩) v)
  |false=>exact base _ rfl rfl rfl an (g3.anD v (ake rfl))
 have Ey:=H.aqo p N;have R4:H.q9 p N (N+1)=⟨0,0⟩:=by unfold bG.q9;rw[Ey]
 unfold C_;have RB:x.kind≠0->∀j,j<N->H.over p N j=saw.gI (H.dot j):=fun c j af=>by
  unfold bG.over;rw[au,<-bY.saw j af];simp[c]
 by_cases ek:x.kind=0
 ·rw[if_pos ek]
  have iJ:∀j,j<N->H.over p N j=st.ag.gI (H.dot j):=fun j af=>by
   unfold bG.over;rw[au,h.ag,bY.ag j af];simp[ek]
  have a1:=apd (hO.less (pU N)) h.wf aw (bY.agJ p x au ek);have Ni:wrap64 (C3 st p+x.cH)=H.total p (N+1):=by
   rw[a1];show _=wrap64 (H.total p N+tV (H.wr N p));rw[au];simp[tV,ek]
  unfold DM;simp only[Ni];have El:H.hN p N= !decide (H.total p (N+1)=0):=by unfold bG.hN;rw[au];simp[ek]
  split
  ·rename_i c
   exact WV st.ag iJ (by rw[El];simp[c])
  ·rename_i c
   refine Qq st.ag ⟨⟨0,0⟩,H.total p (N+1),⟨#[]⟩⟩ false iJ (by rw[El];simp[c]) ?_ SX (fun _=>?_)
   ·unfold bG.gN;rw[au];simp[ek,R4]
   ·rw[bY.acm p x au];omega
 ·rw[if_neg ek]
  by_cases cI:x.kind=1
  ·rw[if_pos cI]
   refine Qq saw ⟨⟨0,0⟩,0,x.value⟩ false (RB ek) (by unfold bG.hN;rw[au];simp[cI]) ?_ SX (fun _=>?_)
   ·unfold bG.gN;rw[au];simp[cI,R4]
   ·rw[bY.acm p x au];omega
  ·rw[if_neg cI]
   by_cases dq:x.kind=2
   ·rw[if_pos dq]
    refine Qq saw x8 true (RB ek) (by unfold bG.hN;rw[au];simp[dq]) ?_ SX (fun c=>by cases c);unfold bG.gN;rw[au];simp[dq,R4,x8]
   ·rw[if_neg dq]
    have eW:x.kind=3:=by have:=bY.kinds p x au;omega
    rw[if_pos eW];exact WV saw (RB ek) (by unfold bG.hN;rw[au];simp[eW])
structure mu (H:bG)(isSet:Place->Prop)(N:Nat)(st:b5):Prop where
 wf:st.h5
 pl:∀p,nP H p N st
 els:oq isSet st
 aY:nN st
 ag:∀j,j<N->st.ag.gI (H.dot j)=true
 bW:∀s,s∈st.bW->∃T,T<=N∧H.at s.saw T N
theorem mu.PU {H:bG}{isSet:Place->Prop}{st:b5}(h:mu H isSet N st):vN H isSet N (fun p=>(H.wr N p).isSome) st st:=by
 refine⟨h.wf,fun p=>?_,h.els,h.aY,rfl,fun s hs=>⟨s,hs,rfl,rfl⟩,rfl⟩;split
 ·exact h.pl p
 ·rename_i c
  exact(h.pl p).dead (by simpa using c)
theorem vN.end_ {H:bG}{isSet:Place->Prop}{left:Place->Bool}{st:b5}(h:vN H isSet N left sI st)(aS:mu H isSet N sI)(aC:∀p,left p=false)(hs:∀s,s∈sI.bW->s.saw.gI (H.dot N)=false){v:aW}(av:∀j,j<N+1->v.gI (H.dot j)=true):mu H isSet (N+1) {st with ag:=v}:=by
 refine⟨⟨h.wf.here,h.wf.once,h.wf.ok,h.wf.fL,h.wf.kept,h.wf.qK⟩,fun p=>?_,h.els,h.aY,av,fun gL gj=>?_⟩
 ·have:=h.pl p
  rw[aC p]at this;exact this.other (fun _=>rfl) (fun s hs=>⟨s,hs,rfl,fun _=>id⟩)
 ·obtain⟨s,a,b,-⟩:=h.bW gL gj
  obtain⟨T,aD,et⟩:=aS.bW s a;refine⟨T,by omega,fun j af=>?_⟩;rw[b];rcases vE j N with c|c
  ·exact et j c
  ·have:j=N:=by omega
   subst this;rw[hs s a];simp;omega
def wO (st:b5)(b:Nat):b5:={st with bW:=st.bW++[⟨b,st.ag,[]⟩]}
theorem mu.open_ {H:bG}{isSet:Place->Prop}{st:b5}(h:mu H isSet N st){b:Nat}(hb:b∉st.bW.map ej.U):mu H isSet N (wO st b):=by
 have ik:∀s,s∈(wO st b).bW->s∈st.bW∨s=⟨b,st.ag,[]⟩:=fun s hs=>by
  have gj:s∈st.bW++[⟨b,st.ag,[]⟩]:=hs;simpa using gj
 refine⟨⟨h.wf.here,h.wf.once,h.wf.ok,h.wf.fL,fun s hs x au=>?_,?_⟩,fun p=>⟨(h.pl p).b,fun j af aq aA=>?_,fun s hs d aB=>?_⟩,h.els,?_,h.ag,fun s hs=>?_⟩
 ·rcases ik s hs with c|rfl
  ·exact h.wf.kept s c x au
  ·simp at au
 ·show((st.bW++[(⟨b,st.ag,[]⟩:ej)]).map ej.U).Nodup
  rw[tJ,yn];exact⟨h.wf.qK,by simp,fun a aU c aA e=>hb (by simp at aA;rw[<-aA,<-e];exact aU)⟩
 ·refine(h.pl p).c j af aq (aA.imp id ?_)
  rintro ⟨s,k,h1,ae,aH,bd⟩;rcases ik s h1 with c|rfl
  ·exact⟨s,k,c,ae,aH,bd⟩
  ·have:=h.ag k (bG.wY aH).2.1
   rw[bd]at this;cases this
 ·rcases ik s hs with c|rfl
  ·exact(h.pl p).e s c d aB
  ·simp at aB
 ·show((st.bW++[(⟨b,st.ag,[]⟩:ej)]).flatMap ej.kept).Nodup
  rw[r3];have:=h.aY;unfold nN at this;simpa using this
 ·rcases ik s hs with c|rfl
  ·exact h.bW s c
  ·exact⟨N,cv,fun j af=>by rw[h.ag j af];simp[af]⟩
theorem nP.sc {H:bG}{st:b5}(h:nP H p N st)(hO:H.Ok N)(af:j<N)(aq:H.hN p j=true)(hw:(H.fw p j N).isSome):nP H p N (gA st ⟨p,H.dot j⟩):=by
 have xL:=IJ st ⟨p,H.dot j⟩;have Ey:(gA st ⟨p,H.dot j⟩).bh ⟨p,H.dot j⟩=st.bh ⟨p,H.dot j⟩∨((gA st ⟨p,H.dot j⟩).bh ⟨p,H.dot j⟩=none∧∀s,s∈st.bW->mK s.saw st.bh ⟨p,H.dot j⟩=false):=by
  unfold gA;split
  ·exact Or.inl rfl
  ·rename_i c
   exact Or.inr ⟨vy _ _ _,fun s hs=>Sk c s hs⟩
 have Er:∀d,d≠H.dot j->(gA st ⟨p,H.dot j⟩).bh ⟨p,d⟩=st.bh ⟨p,d⟩:=fun d aB=>IK (fun e=>aB (cn.mk.inj e).2)
 refine⟨fun d v aB=>?_,fun i mZ nw aA=>?_,fun s hs d aB=>?_⟩
 ·by_cases c:d=H.dot j
  ·subst c
   rcases Ey with e|⟨e,-⟩
   ·rw[e]at aB;exact h.b _ _ aB
   ·rw[e]at aB;cases aB
  ·rw[Er d c]at aB;exact h.b _ _ aB
 ·have hold:st.bh ⟨p,H.dot i⟩=some (H.gN p i N):=by
   refine h.c i mZ nw (aA.imp id ?_);rintro ⟨s,k,h1,ae,aH,bd⟩;obtain⟨cY,a,b,-⟩:=xL s h1;exact⟨cY,k,a,by rw[<-b];exact ae,aH,by rw[<-b];exact bd⟩
  by_cases c:i=j
  ·subst c
   rcases Ey with e|⟨e,eV⟩
   ·rw[e];exact hold
   ·rcases aA with aA|⟨s,k,h1,ae,aH,bd⟩
    ·rw[aA]at hw;cases hw
    ·obtain⟨cY,a,b,-⟩:=xL s h1
     have:=eV cY a;rw[(bG.Oa hO hold).2 ⟨by rw[<-b];exact ae,Or.inr ⟨k,aH,by rw[<-b];exact bd⟩⟩]at this;cases this
  ·rw[Er _ (fun e=>c (hO.inj i j mZ af e))];exact hold
 ·by_cases c:d=H.dot j
  ·subst c;exact⟨j,af,rfl,aq,hw⟩
  ·have sw:=hs
   unfold gA at sw;split at sw
   ·rename_i m hm
    obtain⟨a,cY,b,e,rfl,-,-⟩:=AU hm;have gj:s∈a++oJ ⟨p,H.dot j⟩ cY::b:=sw;rw[hT,h3]at gj;rcases gj with q|q|q
    ·exact h.e s (by rw[e];simp[q]) d aB
    ·subst q
     have oA:(⟨p,d⟩:cn)∈cY.kept++[⟨p,H.dot j⟩]:=aB;rw[hT,k4]at oA;rcases oA with q|q
     ·exact h.e cY (by rw[e];simp) d q
     ·exact absurd (cn.mk.inj q).2 c
    ·exact h.e s (by rw[e];simp[q]) d aB
   ·exact h.e s sw d aB
structure Ux (H:bG)(N:Nat)(x:cn):Prop where
 ex:∃j,j<N∧x.dot=H.dot j∧H.hN x.at_ j=true∧(H.fw x.at_ j N).isSome
theorem mu.sc {H:bG}{isSet:Place->Prop}{st:b5}{x:cn}(h:mu H isSet N st)(hO:H.Ok N)(au:Ux H N x)(hk:∀s,s∈st.bW->x∉s.kept)(qX:x.Ok):mu H isSet N (gA st x):=by
 obtain⟨j,af,aB,aq,hw⟩:=au.ex;have xL:=IJ st x;refine⟨h.wf.sc qX,fun p=>?_,h.els.sc x,h.aY.sc hk,by rw[Qm];exact h.ag,fun s hs=>?_⟩
 ·by_cases c:p=x.at_
  ·subst c
   have e:x=⟨x.at_,H.dot j⟩:=by rw[<-aB]
   rw[e];exact(h.pl x.at_).sc hO af aq hw
  ·refine(h.pl p).other (fun d=>IK (fun e=>c (by rw[<-e]))) (fun gL gj=>?_)
   obtain⟨s,a,b,-,c'⟩:=xL gL gj;exact⟨s,a,b,fun d aB=>(c' _ aB).elim id (fun e=>absurd e c)⟩
 ·obtain⟨cY,a,b,-⟩:=xL s hs
  rw[b];exact h.bW cY a
theorem ahw {st:b5}{x y:cn}(b9:∀s,s∈st.bW->y∉s.kept)(bS:y≠x):∀s,s∈(gA st x).bW->y∉s.kept:=by
 unfold gA;split
 ·rename_i m hm
  obtain⟨a,cY,b,e,rfl,-,-⟩:=AU hm;rw[e]at b9;intro s hs;have gj:s∈a++oJ x cY::b:=hs;rw[hT,h3]at gj;rcases gj with q|q|q
  ·exact b9 s (by simp[q])
  ·subst q
   intro c;have c':y∈cY.kept++[x]:=c;rw[hT,k4]at c';exact c'.elim (b9 cY (by simp)) bS
  ·exact b9 s (by simp[q])
 ·exact b9
theorem mu.BX {H:bG}{isSet:Place->Prop}(hO:H.Ok N):∀(l:List cn) (st:b5),mu H isSet N st->l.Nodup->(∀x,x∈l->Ux H N x∧x.Ok∧∀s,s∈st.bW->x∉s.kept)->mu H isSet N (l.foldl gA st)
 |[],_,h,_,_=>h
 |a::l,st,h,hn,aC=>by
  obtain⟨aU,sq⟩:=yt.1 hn;obtain⟨cO,a2,a3⟩:=aC a (by simp);refine mu.BX hO l _ (h.sc hO cO a3 a2) sq fun x au=>?_
  obtain⟨dr,en,d_⟩:=aC x (by simp[au]);exact⟨dr,en,ahw d_ (fun e=>aU (e▸au))⟩
def yO (st:b5)(s:ej):b5:=s.kept.foldl gA {st with bW:=st.bW.filter fun t=> !decide (t.U=s.U)}
theorem mu.close {H:bG}{isSet:Place->Prop}{st:b5}{s:ej}(h:mu H isSet N st)(hO:H.Ok N)(hs:s∈st.bW):mu H isSet N (yO st s):=by
 have l_:∀t,t∈st.bW.filter (fun t=> !decide (t.U=s.U))->t∈st.bW:=fun t al=>(ra.1 al).1
 have bS:∀t,t∈st.bW.filter (fun t=> !decide (t.U=s.U))->t.U≠s.U:=fun t al=>by have:=(ra.1 al).2;simpa using this
 have iA:=h.aY;unfold nN at iA;obtain⟨a,b,e⟩:=append_of_mem hs;have wk:∀t,t∈st.bW->t.U≠s.U->∀x,x∈s.kept->x∉t.kept:=fun t al hb x au c=>by
  rw[e]at al iA;rw[r3,kf,yn]at iA;obtain⟨og,fD,mh⟩:=iA;rw[yn]at fD;rw[hT,h3]at al;rcases al with q|q|q
  ·exact mh x (uD.2 ⟨t,q,c⟩) x (hT.2 (Or.inl au)) rfl
  ·subst q;exact hb rfl
  ·exact fD.2.2 x au x (uD.2 ⟨t,q,c⟩) rfl
 have M4:s.kept.Nodup:=by
  rw[e]at iA;rw[r3,kf,yn]at iA;exact(yn.1 iA.2.1).1
 refine mu.BX hO s.kept _ ⟨⟨h.wf.here,h.wf.once,h.wf.ok,h.wf.fL,fun t al=>h.wf.kept t (l_ t al),?_⟩,fun p=>(h.pl p).other (fun _=>rfl) (fun t al=>⟨t,l_ t al,rfl,fun _=>id⟩),h.els,?_,h.ag,fun t al=>h.bW t (l_ t al)⟩ M4 fun x au=>⟨?_,h.wf.kept s hs x au,fun t al=>wk t (l_ t al) (bS t al) x au⟩
 ·exact h.wf.qK.sublist (List.Sublist.map _ Ht)
 ·refine List.Nodup.sublist ?_ h.aY
  rw[flatMap_def,flatMap_def];have:∀l:List ej,((l.filter fun t=> !decide (t.U=s.U)).map ej.kept).flatten.Sublist (l.map ej.kept).flatten:=fun l=>by
   induction l with
   |nil=>simp
   |cons t l ih=>
    by_cases c:t.U=s.U
    ·simp only[filter_cons,c,decide_true,Bool.not_true,K8,if_false,map_cons,flatten_cons]
     exact ih.trans (sublist_append_right _ _)
    ·simp only[filter_cons,c,decide_false,Bool.not_false,uC,map_cons,flatten_cons]
     exact List.Sublist.append (List.Sublist.refl _) ih
  exact this _
 ·obtain⟨j,h1,ae,aH,bd⟩:=(h.pl x.at_).e s hs x.dot au
  exact⟨j,h1,ae,aH,bd⟩
def bG.cur (H:bG)(p:Place)(T j:Nat):Prop:=j<T∧H.hN p j=true∧H.fw p j T=none
theorem Hi {H:bG}{isSet:Place->Prop}{st:b5}(h:mu H isSet N st)(hO:H.Ok N){s:ej}(hs:s∈st.bW)(e:s.saw=saw)(aD:T<=N)(aU:H.at saw T N)(p:Place)(d:bF):
  d∈jq saw st p↔∃j,H.cur p T j∧d=H.dot j:=by
 unfold jq;rw[ra,h.wf.here];constructor
 ·rintro ⟨av,aJ⟩
  obtain⟨v,av⟩:=mn.1 av;obtain⟨j,af,rfl,aq,rfl⟩:=(h.pl p).b d v av;rw[bG.Oa hO av,aU j af]at aJ;refine⟨j,⟨by simpa using aJ.1,aq,(bG.adu aD).2 (aJ.2.imp id ?_)⟩,rfl⟩;rintro ⟨k,h1,ae⟩;rw[aU k (bG.wY h1).2.1]at ae;exact⟨k,h1,by simpa using ae⟩
 ·rintro ⟨j,⟨af,aq,hw⟩,rfl⟩
  have MU:j<N:=by omega
  have ds:=(bG.adu aD).1 hw;have wi:saw.gI (H.dot j)=true:=by rw[aU j MU];simpa using af
  have uu:H.fw p j N=none∨∃k,H.fw p j N=some k∧saw.gI (H.dot k)=false:=ds.imp id fun⟨k,h1,ae⟩=>⟨k,h1,by rw[aU k (bG.wY h1).2.1];simpa using ae⟩
  have av:st.bh ⟨p,H.dot j⟩=some (H.gN p j N):=(h.pl p).c j MU aq (uu.imp id fun⟨k,h1,ae⟩=>⟨s,k,hs,by rw[e];exact wi,h1,by rw[e];exact ae⟩);exact⟨by rw[av];rfl,(bG.Oa hO av).2 ⟨wi,uu⟩⟩
theorem ac2 {H:bG}{isSet:Place->Prop}{st:b5}(h:mu H isSet N st){d:bF}(aB:d∈jq saw st p):∃j,j<N∧d=H.dot j∧H.hN p j=true∧hS st.bh ⟨p,d⟩=H.gN p j N:=by
 unfold jq at aB;rw[ra,h.wf.here]at aB;obtain⟨v,av⟩:=mn.1 aB.1;obtain⟨j,af,rfl,aq,rfl⟩:=(h.pl p).b d v av;exact⟨j,af,rfl,aq,by unfold hS;rw[av];rfl⟩
theorem apK {H:bG}{isSet:Place->Prop}{st:b5}(h:mu H isSet N st)(saw:aW)(p:Place):(jq saw st p).Nodup:=(h.wf.once p).sublist Ht
theorem apq {H:bG}{isSet:Place->Prop}{st:b5}(h:mu H isSet N st)(hO:H.Ok N){s:ej}(hs:s∈st.bW)(e:s.saw=saw)(aD:T<=N)(aU:H.at saw T N)(hk:∀j x,j<N->H.wr j p=some x->x.kind=0){l:List bF}(aC:l.Perm (jq saw st p)):
  l.foldl (fun a d=>wrap64 (a+(hS st.bh ⟨p,d⟩).sum)) 0=H.total p T:=by
 have hm:∀d,d∈l↔∃j,H.cur p T j∧d=H.dot j:=fun d=>(aC.mem_iff).trans (Hi h hO hs e aD aU p d)
 have iJ:∀j k,j<N->k<N->(H.wr k p).isSome->H.over p k j=true:=fun j k _ Rk hw=>by
  obtain⟨x,au⟩:=mn.1 hw;unfold bG.over;rw[au];simp[hk k x Rk au]
 have rG:∀j,H.cur p T j->∀k,j<k->k<T->H.wr k p=none:=fun j af k h1 ae=>by
  cases c:H.wr k p with
  |none=>rfl
  |some x=>
   have:=bG.Ho af.2.2 k h1 ae;have Cm:=af.1;rw[iJ j k (by omega) (by omega) (by rw[c];rfl)]at this;cases this
 have jm:∀j,H.hN p j=true->(H.wr j p).isSome:=fun j af=>by
  unfold bG.hN at af;split at af
  ·cases af
  ·rename_i x au;rw[au];rfl
 have akG:∀j iu,H.cur p T j->H.cur p T iu->j=iu:=fun j iu af mF=>by
  have h1:=af.1;have ae:=mF.1;rcases Nat.lt_trichotomy j iu with c|c|c
  ·have a:=rG j af iu c ae
   have b:=jm iu mF.2.1;rw[a]at b;cases b
  ·exact c
  ·have a:=rG iu mF j c h1
   have b:=jm j af.2.1;rw[a]at b;cases b
 have ho:=aC.nodup_iff.2 (apK h saw p);match l,hm,ho with
 |[],hm,_=>
  show 0=H.total p T
  rcases H.SA p T with c|⟨j,af,hw,kj⟩
  ·have:=bG.E4 (H:=H) (p:=p) (j:=0) T (fun k _ b=>c k (by omega))
   rw[vF]at this;rw[this];rfl
  ·have ba:=bG.E4 (H:=H) (p:=p) (j:=j+1) (T-(j+1)) (fun k a b=>kj k (by omega) (by omega))
   rw[show j+1+(T-(j+1))=T by omega]at ba;rw[ba];obtain⟨x,au⟩:=mn.1 hw;cases aq:H.hN p j with
   |true=>
    have:H.cur p T j:=⟨af,aq,bG.Uf fun k a b=>by unfold bG.over;rw[kj k a b]⟩;have:=(hm (H.dot j)).2 ⟨j,this,rfl⟩;simp at this
   |false=>
    unfold bG.hN at aq;rw[au]at aq;simp only[hk j x (by omega) au,uC]at aq;simp at aq;exact aq.symm
 |[d],hm,_=>
  obtain⟨j,af,rfl⟩:=(hm d).1 (by simp);have jk:H.dot j∈jq saw st p:=(Hi h hO hs e aD aU p _).2 ⟨j,af,rfl⟩;obtain⟨i,mZ,nw,Js,YN⟩:=ac2 h jk;have Cm:=af.1;have:i=j:=(hO.inj j i (by omega) mZ nw).symm;subst this;have ba:=bG.E4 (H:=H) (p:=p) (j:=i+1) (T-(i+1)) (fun k a b=>rG i af k (by omega) (by omega));rw[show i+1+(T-(i+1))=T by omega]at ba;show wrap64 (0+(hS st.bh ⟨p,H.dot i⟩).sum)=_
  rw[YN,ba];obtain⟨x,au⟩:=mn.1 (jm i Js);have:(H.gN p i N).sum=H.total p (i+1):=by unfold bG.gN;rw[au];simp[hk i x mZ au]
  rw[this,Int.zero_add];exact H.ac3 p (i+1)
 |d::d'::l,hm,ho=>
  obtain⟨j,af,rfl⟩:=(hm d).1 (by simp);obtain⟨iu,mF,rfl⟩:=(hm d').1 (by simp);have:=akG j iu af mF;subst this;simp at ho
theorem ya {α:Type}{P:List α->Prop}(aS:P [])(h1:∀l a,P l->P (l++[a]))(l:List α):P l:=by
 rw[<-l.reverse_reverse];induction l.reverse with
 |nil=>exact aS
 |cons a l ih=>rw[reverse_cons];exact h1 _ _ ih
def ht (o:db):Place:=if o.kind=1∨o.kind=2 then⟨o.key,cK⟩else⟨o.key,o.value⟩
def iL (o:db):cG:=if o.kind=1 then⟨0,o.cH,cK⟩else if o.kind=2 then⟨1,0,o.value⟩else if o.kind=3 then⟨2,0,cK⟩else⟨3,0,cK⟩
def A5 (m:Place->Option cG)(p:Place)(x:cG):Place->Option cG:=fun q=>if q=p then some (nb m p x)else m q
def gz (ops:List db):Place->Option cG:=ops.foldl (fun m o=>A5 m (ht o) (iL o)) (fun _=>none)
theorem CU (ops:List db)(o:db):gz (ops++[o])=A5 (gz ops) (ht o) (iL o):=by simp[gz]
structure mx (o:db):Prop where
 kind:o.kind=1∨o.kind=2∨o.kind=3∨o.kind=4
 key:kindOf o.key=kF o.kind
theorem mx.ar (h:mx o)(hk:kindOf o.key=99):o.kind=1:=by
 have:=h.key;rw[hk]at this;unfold kF at this;split at this
 ·assumption
 ·split at this<;>omega
theorem mx.aoj (h:mx o)(hk:kindOf o.key=114):o.kind=2:=by
 have:=h.key;rw[hk]at this;unfold kF at this;split at this
 ·omega
 ·split at this
  ·assumption
  ·omega
theorem mx.set (h:mx o)(hk:kindOf o.key=115):o.kind=3∨o.kind=4:=by
 have:=h.key;have dQ:=h.kind;rw[hk]at this;unfold kF at this;split at this
 ·omega
 ·split at this
  ·omega
  ·omega
theorem Sz (key el:ByteArray)(ops:List db)(o:db):dR key el (ops++[o])=if l7 key el o=true then some o else dR key el ops:=by
 unfold dR;rw[reverse_append,reverse_singleton,singleton_append,find?_cons];cases l7 key el o<;>simp
theorem S1 (hk:kindOf key=99)(ops:List db):(∀o,o∈ops->mx o)->tV (gz ops ⟨key,cK⟩)=sumOf key ops∧∀x,gz ops ⟨key,cK⟩=some x->x.kind=0:=by
 induction ops using ya with
 |aS=>intro _;exact⟨rfl,fun x au=>by simp[gz]at au⟩
 |h1 ops o ih=>
  intro h;obtain⟨i1,i2⟩:=ih (fun o cu=>h o (by simp[cu]));have cu:=h o (by simp);rw[CU,acM];unfold A5;by_cases c:o.key=key
  ·have cI:o.kind=1:=cu.ar (by rw[c];exact hk)
   have aw:ht o=⟨key,cK⟩:=by unfold ht;rw[if_pos (Or.inl cI),c]
   rw[aw,if_pos rfl,if_pos ⟨cI,c⟩];have hw:iL o=⟨0,o.cH,cK⟩:=by unfold iL;rw[if_pos cI]
   have aU:(k3 (gz ops) ⟨key,cK⟩).cH=sumOf key ops:=by
    rw[<-i1];unfold k3 tV;cases e:gz ops ⟨key,cK⟩with
    |none=>rfl
    |some x=>simp[i2 x e]
   rw[hw];unfold nb;rw[if_pos rfl];refine⟨?_,fun x au=>by cases au;rfl⟩;simp only[tV,uC,aU];rw[Int.add_comm]
  ·have bS:¬(⟨key,cK⟩:Place)=ht o:=fun e=>c (by unfold ht at e;split at e<;>(injection e with aP;exact aP.symm))
   rw[if_neg bS,if_neg (fun e=>c e.2)];exact⟨i1,i2⟩
theorem S2 (hk:kindOf key=114)(ops:List db):(∀o,o∈ops->mx o)->gz ops ⟨key,cK⟩=(dR key cK ops).map fun o=>⟨1,0,o.value⟩:=by
 induction ops using ya with
 |aS=>intro _;rfl
 |h1 ops o ih=>
  intro h;have i1:=ih (fun o cu=>h o (by simp[cu]));have cu:=h o (by simp);rw[CU,Sz];unfold A5;by_cases c:o.key=key
  ·have dq:o.kind=2:=cu.aoj (by rw[c];exact hk)
   have aw:ht o=⟨key,cK⟩:=by unfold ht;rw[if_pos (Or.inr dq),c]
   have dQ:l7 key cK o=true:=by unfold l7;simp[c,dq]
   rw[aw,if_pos rfl,if_pos dQ];have hw:iL o=⟨1,0,o.value⟩:=by unfold iL;rw[if_neg (by omega),if_pos dq]
   rw[hw];unfold nb;rw[if_neg (by simp)];rfl
  ·have bS:¬(⟨key,cK⟩:Place)=ht o:=fun e=>c (by unfold ht at e;split at e<;>(injection e with aP;exact aP.symm))
   have dQ:¬l7 key cK o=true:=by unfold l7;simp[c]
   rw[if_neg bS,if_neg dQ,i1]
theorem S3 (hk:kindOf key=115)(el:ByteArray)(ops:List db):(∀o,o∈ops->mx o)->gz ops ⟨key,el⟩=(dR key el ops).map iL∧∀o,dR key el ops=some o->o.kind=3∨o.kind=4:=by
 induction ops using ya with
 |aS=>intro _;exact⟨rfl,fun o cu=>by simp[dR]at cu⟩
 |h1 ops o ih=>
  intro h;obtain⟨i1,i2⟩:=ih (fun o cu=>h o (by simp[cu]));have cu:=h o (by simp);rw[CU,Sz];unfold A5;by_cases c:o.key=key
  ·have eW:=cu.set (by rw[c];exact hk)
   have aw:ht o=⟨key,o.value⟩:=by unfold ht;rw[if_neg (by omega),c]
   by_cases ce:o.value=el
   ·have dQ:l7 key el o=true:=by unfold l7;simp[c,ce]
    rw[aw,ce,if_pos rfl,if_pos dQ];refine⟨?_,fun o' e=>by cases e;exact eW⟩;unfold nb;have:¬(iL o).kind=0:=by
     unfold iL;rw[if_neg (by omega),if_neg (by omega)];split<;>simp
    rw[if_neg this];rfl
   ·have dQ:¬l7 key el o=true:=by unfold l7;simp[c,ce];omega
    rw[aw,if_neg (fun e=>ce (by injection e with _ ba;exact ba.symm)),if_neg dQ];exact⟨i1,i2⟩
  ·have bS:¬(⟨key,el⟩:Place)=ht o:=fun e=>c (by unfold ht at e;split at e<;>(injection e with aP;exact aP.symm))
   have dQ:¬l7 key el o=true:=by unfold l7;simp[c]
   rw[if_neg bS,if_neg dQ];exact⟨i1,i2⟩
theorem aaF {el:ByteArray}(hk:kindOf key=115)(h:∀o,o∈ops->mx o):el∈lG key ops↔(dR key el ops).isSome:=by
 induction ops using ya with
 |aS=>simp[lG,dR]
 |h1 ops o ih=>
  have i1:=ih (fun o cu=>h o (by simp[cu]));have cu:=h o (by simp);rw[WD,Sz,hT,i1];by_cases c:o.key=key
  ·have eW:=cu.set (by rw[c];exact hk)
   rw[if_pos c];by_cases ce:o.value=el
   ·have dQ:l7 key el o=true:=by unfold l7;simp[c,ce]
    rw[if_pos dQ];simp[ce]
   ·have dQ:¬l7 key el o=true:=by unfold l7;simp[c,ce];omega
    rw[if_neg dQ];simp[Ne.symm ce]
  ·have dQ:¬l7 key el o=true:=by unfold l7;simp[c]
   rw[if_neg c,if_neg dQ];simp
def e9 (hs:List aT)(j:Nat):aT:=hs.getD j ⟨0,0,[],[]⟩
theorem jf (h:j<hs.length):e9 hs j=hs[j]:=by simp[e9,h]
def eR (hs:List aT):bG:=⟨fun j=>⟨(e9 hs j).rep,(e9 hs j).seq⟩,fun j p=>gz (e9 hs j).ops p,fun k j=>fc (e9 hs k).saw (e9 hs j).rep (e9 hs j).seq⟩
def Ie (hs:List aT)(S:List Int)(T:Nat):Prop:=∀j,j<hs.length->fc S (e9 hs j).rep (e9 hs j).seq=decide (j<T)
theorem agS (hk:kindOf key=99)(oG:∀t,t∈hs->∀o,o∈t.ops->mx o)(dJ:Ie hs S T)(aD:T<=hs.length):nV S key hs=(eR hs).total ⟨key,cK⟩ T:=by
 have:∀m,m<=hs.length->nV S key (hs.take m)=(eR hs).total ⟨key,cK⟩ (min m T):=by
  intro m;induction m with
  |zero=>intro _;simp[nV,bG.total]
  |succ m ih=>
   intro hm;have kU:m<hs.length:=by omega
   rw[kr kU,Wd,ih (by omega)];have jX:=dJ m kU;rw[jf kU]at jX;rw[jX];by_cases c:m<T
   ·rw[if_pos (by simpa using c),show min m T=m by omega,show min (m+1) T=m+1 by omega]
    show _=wrap64 ((eR hs).total ⟨key,cK⟩ m+tV (gz (e9 hs m).ops ⟨key,cK⟩))
    rw[jf kU,(S1 hk _ (oG _ (eT kU))).1]
   ·rw[if_neg (by simpa using c),show min m T=T by omega,show min (m+1) T=T by omega]
 have h:=this hs.length cv;rw[tI,show min hs.length T=T by omega]at h;exact h
def lW (a b:bF):Prop:=a.rep<b.rep∨(a.rep=b.rep∧a.seq<b.seq)
theorem Mk (a:bF):¬lW a a:=by unfold lW;omega
theorem Ws {a b c:bF}(h:lW a b)(k:lW b c):lW a c:=by unfold lW at*;omega
theorem Wy:∀{l m:List bF},l.Pairwise lW->m.Pairwise lW->(∀a,a∈l↔a∈m)->l=m
 |[],[],_,_,_=>rfl
 |[],b::m,_,_,h=>by have:=(h b).2 (by simp);simp at this
 |a::l,[],_,_,h=>by have:=(h a).1 (by simp);simp at this
 |a::l,b::m,aC,hm,h=>by
  obtain⟨aU,Cr⟩:=xa.1 aC;obtain⟨hb,qa⟩:=xa.1 hm;have e:a=b:=by
   rcases h3.1 ((h a).1 (by simp))with c|c
   ·exact c
   ·rcases h3.1 ((h b).2 (by simp))with c'|c'
    ·exact c'.symm
    ·exact absurd (Ws (aU b c') (hb a c)) (Mk a)
  subst e;congr 1;refine Wy Cr qa fun x=>⟨fun au=>?_,fun au=>?_⟩
  ·rcases h3.1 ((h x).1 (by simp[au]))with c|c
   ·subst c;exact absurd (aU x au) (Mk x)
   ·exact c
  ·rcases h3.1 ((h x).2 (by simp[au]))with c|c
   ·subst c;exact absurd (hb x au) (Mk x)
   ·exact c
def yR (S:List Int)(n:Nat):List bF:=(List.range n).flatMap fun r=>(List.range (S.getD r 0).toNat).map fun(s:Nat)=>⟨(r:Int),(s:Int)+1⟩
theorem SJ {n:Nat}{d:bF}:d∈yR S n↔∃r s:Nat,r<n∧(s:Int)+1<=S.getD r 0∧d=⟨r,(s:Int)+1⟩:=by
 unfold yR;rw[uD];constructor
 ·rintro ⟨r,aJ,aB⟩
  rw[gF]at aB;obtain⟨s,hs,rfl⟩:=aB;rw[mem_range]at aJ hs;exact⟨r,s,aJ,by omega,rfl⟩
 ·rintro ⟨r,s,aJ,hs,rfl⟩
  exact⟨r,mem_range.2 aJ,gF.2 ⟨s,mem_range.2 (by omega),rfl⟩⟩
theorem Wx (S:List Int):∀n,(yR S n).Pairwise lW
 |0=>by simp[yR]
 |n+1=>by
  have e:yR S (n+1)=yR S n++(List.range (S.getD n 0).toNat).map fun(s:Nat)=>⟨(n:Int),(s:Int)+1⟩:=by simp[yR,range_succ]
  rw[e,pairwise_append];refine⟨Wx S n,?_,fun a aU b hb=>?_⟩
  ·rw[zL]
   exact List.Pairwise.imp (fun h=>Or.inr ⟨rfl,by simpa using h⟩) pairwise_lt_range
  ·obtain⟨r,s,aJ,-,rfl⟩:=SJ.1 aU
   rw[gF]at hb;obtain⟨gL,-,rfl⟩:=hb;exact Or.inl (by simpa using aJ)
structure PA (hs:List aT):Prop where
 ops:∀t,t∈hs->∀o,o∈t.ops->mx o
 inj:∀j k,j<hs.length->k<hs.length->(eR hs).dot j=(eR hs).dot k->j=k
 back:∀j k,j<hs.length->k<hs.length->(eR hs).qn k j=true->j<k
 trans:∀i j k,i<hs.length->j<hs.length->k<hs.length->(eR hs).qn k j=true->(eR hs).qn j i=true->(eR hs).qn k i=true
theorem aom {n:Nat}(hk:kindOf key=114)(hH:PA hs)(dJ:Ie hs S T)(aD:T<=hs.length)(oW:∀r s:Nat,r<n->(s:Int)+1<=S.getD r 0->∃j,j<hs.length∧(eR hs).dot j=⟨r,(s:Int)+1⟩)
  (hj:∀j,j<T->∃r s:Nat,r<n∧(eR hs).dot j=⟨r,(s:Int)+1⟩){l:List bF}(aC:l.Pairwise lW)(hm:∀d,d∈l↔∃j,(eR hs).cur ⟨key,cK⟩ T j∧d=(eR hs).dot j){f:bF->ByteArray}
  (bm:∀j x,(eR hs).cur ⟨key,cK⟩ T j->(eR hs).wr j ⟨key,cK⟩=some x->f ((eR hs).dot j)=x.value):l.map f=lr S key hs n:=by
 have jm:∀j,j<hs.length->(eR hs).wr j ⟨key,cK⟩=(dR key cK (e9 hs j).ops).map fun o=>⟨1,0,o.value⟩:=fun j af=>S2 hk _ (hH.ops _ (by rw[jf af];exact eT af))
 have ML:∀j,j<hs.length->u4 hs ((eR hs).dot j).rep ((eR hs).dot j).seq=e9 hs j:=fun j af=>by
  obtain⟨i,aq,h1,-,aH⟩:=Qr (ts:=hs) (r:=((eR hs).dot j).rep) (s:=((eR hs).dot j).seq) ⟨hs[j],eT af,by simp[kY,eR,jf af]⟩;rw[aH];unfold kY at h1;rw[mo]at h1;have:i=j:=hH.inj i j aq af (by simp only[eR,jf aq,bF.mk.injEq];simpa[eR]using h1);subst this;exact(jf aq).symm
 -- a at0 of E2 first T counts atl if nothing TY atM it came
 have RC:∀j,j<T->((dR key cK (e9 hs j).ops).isSome=true∧sD S key (e9 hs j) hs=false↔(eR hs).cur ⟨key,cK⟩ T j):=fun j af=>by
  have hl:j<hs.length:=by omega
  have El:(eR hs).hN ⟨key,cK⟩ j=true↔(dR key cK (e9 hs j).ops).isSome=true:=by
   unfold bG.hN;rw[jm j hl];cases dR key cK (e9 hs j).ops<;>simp
  rw[<-El];unfold bG.cur;constructor
  ·rintro ⟨h1,ae⟩
   refine⟨af,h1,bG.Uf fun k e7 tj=>?_⟩;have dU:k<hs.length:=by omega
   cases c:(eR hs).over ⟨key,cK⟩ k j
   ·rfl
   ·unfold bG.over at c
    split at c
    ·cases c
    ·rename_i x au
     have CG:=au;rw[jm k dU,Option.map_eq_some_iff]at CG;obtain⟨o,cu,rfl⟩:=CG;rw[NU,any_eq_false]at ae;have aH:=ae hs[k] (eT dU);have aP:=dJ k dU;rw[jf dU]at aP cu;have ba:fc hs[k].saw (e9 hs j).rep (e9 hs j).seq=true:=by simpa[eR,jf dU]using c
     rw[aP,ba,cu]at aH;simp[tj]at aH
  ·rintro ⟨_,h1,ae⟩
   refine⟨h1,?_⟩;rw[NU,any_eq_false];intro u hu aA;obtain⟨k,e7,rfl⟩:=fQ.1 hu;simp only[qv]at aA;obtain⟨⟨c1,c2⟩,c3⟩:=aA;have aP:=dJ k e7;rw[jf e7,c1]at aP;have Rl:k<T:=by simpa using aP.symm
   have wE:(eR hs).qn k j=true:=by simp only[eR,jf e7];exact c2
   have sk:=hH.back j k hl e7 wE;have:=bG.Ho ae k sk Rl;unfold bG.over at this;rw[jm k e7,jf e7]at this;obtain⟨o,cu⟩:=mn.1 c3;rw[cu]at this;simp[wE]at this
 have br:∀r s:Nat,r<n->(s:Int)+1<=S.getD r 0->∃j,j<T∧(eR hs).dot j=⟨r,(s:Int)+1⟩:=fun r s aJ gj=>by
  obtain⟨j,af,e⟩:=oW r s aJ gj;refine⟨j,?_,e⟩;have:=dJ j af;have dI:(e9 hs j).rep=r∧(e9 hs j).seq=(s:Int)+1:=by simpa[eR]using e
  rw[dI.1,dI.2]at this;unfold fc at this;rw[kL,yu gj]at this;simpa using this.symm
 have akq:lr S key hs n=(yR S n).flatMap fun d=>tA S key hs (u4 hs d.rep d.seq):=by
  unfold lr yR pQ;rw[flatMap_assoc];congr 1;funext r;rw[flatMap_map]
 -- aqp each dot gives
 have akf:∀d,d∈yR S n->tA S key hs (u4 hs d.rep d.seq)=if d∈l then[f d]else[]:=fun d aB=>by
  obtain⟨r,s,aJ,gj,rfl⟩:=SJ.1 aB;obtain⟨j,af,e⟩:=br r s aJ gj;rw[<-e];have hl:j<hs.length:=by omega
  rw[ML j hl];have Ek:(eR hs).dot j∈l↔(eR hs).cur ⟨key,cK⟩ T j:=by
   rw[hm];constructor
   ·rintro ⟨i,aq,ahl⟩
    have:=hH.inj j i hl (by have:=aq.1;omega) ahl;subst this;exact aq
   ·exact fun h=>⟨j,h,rfl⟩
  unfold tA;cases kj:dR key cK (e9 hs j).ops with
  |none=>
   rw[if_neg];rw[Ek,<-RC j af,kj];simp
  |some o=>
   by_cases c:sD S key (e9 hs j) hs=true
   ·rw[if_neg (by rw[Ek,<-RC j af,c];simp)]
    simp[c]
   ·have aA:(eR hs).cur ⟨key,cK⟩ T j:=(RC j af).1 ⟨by rw[kj];rfl,by simpa using c⟩
    rw[if_pos (Ek.2 aA),bm j ⟨1,0,o.value⟩ aA (by rw[jm j hl,kj];rfl)];simp[c]
 rw[akq];have ajp:∀a7:List bF,(∀d,d∈a7->tA S key hs (u4 hs d.rep d.seq)=if d∈l then[f d]else[])->(a7.flatMap fun d=>tA S key hs (u4 hs d.rep d.seq))=(a7.filter fun d=>decide (d∈l)).map f:=fun a7=>by
  induction a7 with
  |nil=>intro _;rfl
  |cons d a7 ih=>
   intro h;rw[kf,h d (by simp),ih (fun e he=>h e (by simp[he])),filter_cons];by_cases c:d∈l<;>simp[c]
 rw[ajp _ akf];congr 1;refine Wy aC ((Wx S n).sublist Ht) fun d=>?_
 rw[ra,mo];refine⟨fun h=>⟨?_,h⟩,fun h=>h.2⟩;obtain⟨j,af,rfl⟩:=(hm d).1 h;obtain⟨r,s,aJ,e⟩:=hj j af.1;rw[e];refine SJ.2 ⟨r,s,aJ,?_,rfl⟩;have Cm:=af.1;have:=dJ j (by omega);have dI:(e9 hs j).rep=r∧(e9 hs j).seq=(s:Int)+1:=by simpa[eR]using e
 rw[dI.1,dI.2,yu Cm]at this;unfold fc at this;rw[kL]at this;simpa using this
theorem aoW (hk:kindOf key=115)(hH:PA hs)(dJ:Ie hs S T)(aD:T<=hs.length)(a:ByteArray):a∈setOf S key hs↔∃j,(eR hs).cur ⟨key,a⟩ T j:=by
 have eI:∀j,j<hs.length->∀o,o∈(e9 hs j).ops->mx o:=fun j af=>hH.ops _ (by rw[jf af];exact eT af)
 have jm:∀j,j<hs.length->(eR hs).wr j ⟨key,a⟩=(dR key a (e9 hs j).ops).map iL:=fun j af=>(S3 hk a _ (eI j af)).1
 have fj:∀j,j<hs.length->∀o,dR key a (e9 hs j).ops=some o->o.kind=3∨o.kind=4:=fun j af=>(S3 hk a _ (eI j af)).2
 have rH:∀o:db,o.kind=3->(iL o).kind=2:=fun o h=>by unfold iL;rw[if_neg (by omega),if_neg (by omega),if_pos h]
 have Co:∀o:db,o.kind=4->(iL o).kind=3:=fun o h=>by unfold iL;rw[if_neg (by omega),if_neg (by omega),if_neg (by omega)]
 have El:∀j,j<hs.length->((eR hs).hN ⟨key,a⟩ j=true↔hZ (dR key a (e9 hs j).ops)=3):=fun j af=>by
  unfold bG.hN hZ;rw[jm j af];cases e:dR key a (e9 hs j).ops with
  |none=>simp[db.none]
  |some o=>
   rcases fj j af o e with c|c
   ·simp[rH o c,c]
   ·simp[Co o c,c]
 have iJ:∀k j,k<hs.length->((eR hs).over ⟨key,a⟩ k j=true↔(dR key a (e9 hs k).ops).isSome=true∧(eR hs).qn k j=true):=fun k j gi=>by
  unfold bG.over;rw[jm k gi];cases e:dR key a (e9 hs k).ops with
  |none=>simp
  |some o=>
   rcases fj k gi o e with c|c
   ·simp[rH o c]
   ·simp[Co o c]
 -- atO by one of E2 first T TY saw it
 have MR:∀j,j<hs.length->(mB S key a (e9 hs j) hs=true↔∃k,k<T∧(eR hs).qn k j=true∧hZ (dR key a (e9 hs k).ops)=4):=fun j af=>by
  rw[Qx,zJ];constructor
  ·rintro ⟨u,hu,aA⟩
   obtain⟨k,e7,rfl⟩:=fQ.1 hu;simp only[qv,mo]at aA;obtain⟨⟨⟨c1,c2⟩,c3⟩,c4⟩:=aA;have aP:=dJ k e7;rw[jf e7,c1]at aP;exact⟨k,by simpa using aP.symm,by simp only[eR,jf e7];exact c2,by rw[jf e7];exact c4⟩
  ·rintro ⟨k,Rl,jX,aC⟩
   have e7:k<hs.length:=by omega
   refine⟨hs[k],eT e7,?_⟩;have aP:=dJ k e7;rw[jf e7]at aP aC;have ba:fc hs[k].saw (e9 hs j).rep (e9 hs j).seq=true:=by simpa[eR,jf e7]using jX
   rw[aP,ba];have ey:(dR key a hs[k].ops).isSome=true:=by
    unfold hZ at aC;cases e:dR key a hs[k].ops with
    |none=>rw[e]at aC;simp[db.none]at aC
    |some o=>rfl
   simp[Rl,ey,aC]
 have ik:=(Ow S key hs hs [] List.Pairwise.nil).2 a;have ajY:a∈setOf S key hs↔∃j,j<T∧hZ (dR key a (e9 hs j).ops)=3∧mB S key a (e9 hs j) hs=false:=by
  refine ik.trans ?_;constructor
  ·rintro (c|⟨t,al,c1,c2,c3,c4⟩)
   ·simp at c
   ·obtain⟨j,af,rfl⟩:=fQ.1 al
    have aP:=dJ j af;rw[jf af,c1]at aP;exact⟨j,by simpa using aP.symm,by rw[jf af];exact c3,by rw[jf af];exact c4⟩
  ·rintro ⟨j,af,c3,c4⟩
   have hl:j<hs.length:=by omega
   rw[jf hl]at c3 c4;refine Or.inr ⟨hs[j],eT hl,?_,?_,c3,c4⟩
   ·have aP:=dJ j hl
    rw[jf hl]at aP;rw[aP];simpa using af
   ·rw[aaF hk (by have:=eI j hl;rwa [jf hl]at this)]
    unfold hZ at c3;cases e:dR key a hs[j].ops with
    |none=>rw[e]at c3;simp[db.none]at c3
    |some o=>rfl
 rw[ajY];constructor
 ·rintro ⟨j,af,c3,c4⟩
  have:∀m j,T-j<=m->j<T->hZ (dR key a (e9 hs j).ops)=3->mB S key a (e9 hs j) hs=false->∃j,(eR hs).cur ⟨key,a⟩ T j:=by
   intro m;induction m with
   |zero=>intro j h1 ae;omega
   |succ m ih=>
    intro j h1 ae aH bd;have hl:j<hs.length:=by omega
    cases e:(eR hs).fw ⟨key,a⟩ j T with
    |none=>exact⟨j,ae,(El j hl).2 aH,e⟩
    |some k=>
     obtain⟨q1,dy,fE⟩:=bG.wY e;have dU:k<hs.length:=by omega
     rw[iJ k j dU]at fE;obtain⟨o,cu⟩:=mn.1 fE.1;have Ri:hZ (dR key a (e9 hs k).ops)=3:=by
      rcases fj k dU o cu with c|c
      ·unfold hZ;rw[cu];exact c
      ·have:mB S key a (e9 hs j) hs=true:=(MR j hl).2 ⟨k,dy,fE.2,by unfold hZ;rw[cu];exact c⟩
       rw[bd]at this;cases this
     refine ih k (by omega) dy Ri ?_;cases g:mB S key a (e9 hs k) hs
     ·rfl
     ·obtain⟨i,i1,i2,i3⟩:=(MR k dU).1 g
      have:mB S key a (e9 hs j) hs=true:=(MR j hl).2 ⟨i,i1,hH.trans j k i hl dU (by omega) i2 fE.2,i3⟩;rw[bd]at this;cases this
  exact this T j (by omega) af c3 c4
 ·rintro ⟨j,af,aq,hw⟩
  have hl:j<hs.length:=by omega
  refine⟨j,af,(El j hl).1 aq,?_⟩;cases g:mB S key a (e9 hs j) hs
  ·rfl
  ·obtain⟨k,cI,dq,eW⟩:=(MR j hl).1 g
   have dU:k<hs.length:=by omega
   have:=bG.Ho hw k (hH.back j k hl dU dq) cI;rw[(iJ k j dU).2 ⟨by
    unfold hZ at eW;cases e:dR key a (e9 hs k).ops with
    |none=>rw[e]at eW;simp[db.none]at eW
    |some o=>rfl,dq⟩]at this
   cases this
abbrev wQ (b:Nat):List Value:=[bl b]
theorem ak6 (w:World)(v:Value)(l:List Nat)(bf:Row w 117 1 v l.length (l.flatMap wQ))(g:Nat)(lb:Array Value)(p:Nat->Bool)(v7:∀args w,(callFunc g args).run prog w= .ok (.enter g args) w)
  (fh:∀W,ax w W->∀d:Nat,d∈l->Calls prog g (#[bl d]++lb) W (bx (.bool (p d)) fun w'=>ax W w')):
  Calls prog 175 #[v,.func (.func g) #[] lb] w (bx (I (ze p l)) fun w'=>ax w w'):=by
 obtain⟨cA,cap,rfl,gg,hm,eb⟩:=bf.shape;unfold maxLen at hm;have dj:=J fh;have dn:=J eb;clear bf fh eb;go_enter func175,ntmps175;go_wp2_with fail
 go_loopw[8] (fun i wr=>∃k:Nat,k<=l.length∧i=I k∧Hid (∀j (af:j<l.length),j<k->p l[j]=false)∧ax w wr) (fun i _=>l.length-(intOf i).toNat)
 case atStart=>exact⟨0,ch,rfl,fun j _ h=>absurd h (De _),cE⟩
 case round=>
  obtain⟨k,hk,rfl,eV,ao⟩:=hrel;by_cases cW:k<l.length
  ·obtain⟨g0,eo,aS⟩:=dn.o (k*1+0) (by omega)
   subst eo;rw[hC _ 1 (fun _=>rfl) _ _ _ cW (by omega)]at aS;simp only[wQ,jg,j3,zM]at aS;have c0:=bZ ao aS;clear aS;have gU:=dj.o wr ao l[k] (eT cW);obtain⟨d,aB⟩:∃d,l[k]=d:=⟨_,rfl⟩;have bn:=J aB;rw[aB]at gU c0;clear aB;cases aw:p d
   ·rw[aw]at gU
    have hy:=J gU;have dp:=J aw;clear gU aw;go_wp2_with fail
    refine hy.o.mono ?_;rintro e an ⟨rfl,aF⟩;go_wp2_with fail
    exact⟨⟨k+1,by omega,by go_num,fun j af sk=>by
     by_cases c:j=k
     ·subst c;rw[bn.o];exact dp.o
     ·exact eV.o j af (by omega),ao.trans (aF.mono ao.size)⟩,by simp[intOf];omega⟩
   ·rw[aw]at gU
    have hy:=J gU;have dp:=J aw;clear gU aw;go_wp2_with fail
    refine hy.o.mono ?_;rintro e an ⟨rfl,aF⟩;go_wp2_with fail
    go_ret;exact⟨om (Sc cW (by rw[bn.o];exact dp.o) eV.o).symm,ao.trans (aF.mono ao.size)⟩
  ·go_wp2_with fail
   go_ret;exact⟨om (Sb fun j af=>eV.o j af (by omega)).symm,ao⟩
theorem ag2 (w:World)(v:Value)(l:List Nat)(bf:Row w 117 1 v l.length (l.flatMap wQ))(g:Nat)(lb:Array Value)(p:Nat->Bool)(v7:∀args w,(callFunc g args).run prog w= .ok (.enter g args) w)
  (fh:∀W,Touch (fun q=>v.ownBlock=some q) w W->∀d:Nat,d∈l->Calls prog g (#[bl d]++lb) W (bx (.bool (p d)) fun w'=>ax W w')):
  Calls prog 145 #[v,.func (.func g) #[] lb] w fun e w'=>∃v',e= .returned v'∧Row w' 117 1 v' (l.filter fun x=> !p x).length ((l.filter fun x=> !p x).flatMap wQ)∧v'.ownBlock=v.ownBlock∧Touch (fun q=>v.ownBlock=some q) w w':=by
 have ez:=ak6 w v l bf g lb p v7 (fun W ao=>fh W (Touch.dh ao));rcases Sa p l with⟨aP,ba⟩|⟨ek,vi,aP,pE,ba⟩
 ·rw[aP]at ez
  have cw:=J ez;have bc:=J bf;clear ez fh bf;go_enter func145,ntmps145;go_wp2_with fail
  refine cw.o.mono ?_;rintro e an ⟨rfl,aF⟩;go_wp2_with fail
  go_ret;refine⟨v,rfl,?_,rfl,Touch.dh aF⟩;rw[ba];exact Row.below bc.o aF
 ·rw[aP]at ez
  obtain⟨g0,cap,rfl,gg,hm,xN,-,-⟩:=bf.pos (by omega);unfold maxLen at hm;have Ct:((ek:Int)== -1)=false:=Bg.2 (by omega);have aL:=J (r8.start vi pE ba);have cw:=J ez;have bc:=J bf;have dj:=J fh;clear ez fh bf aP ba pE;go_enter func145,ntmps145;go_wp2_with fail
  refine cw.o.mono ?_;rintro e an ⟨rfl,aF⟩;go_wp2_with fail
  go_loopw[5,6] (fun i j wr=>∃(ii h9:Nat) (xs:List Nat),h9<=l.length∧ii<h9∧i=I ii∧j=I h9∧Hid (r8 p l xs ii h9∧Row wr 117 1 (bo g0 l.length cap) l.length (xs.flatMap wQ)∧Touch (fun q=>(bo g0 l.length cap).ownBlock=some q) w wr)) (fun _ j _=>l.length-(intOf j).toNat)
  case atStart=>exact⟨ek,ek+1,l,by omega,by omega,rfl,by go_num,aL.o,Row.below bc.o aF,Touch.dh aF⟩
  case round=>
   obtain⟨ii,h9,xs,hl,l6,rfl,rfl,a1⟩:=hrel;have hlen:=a1.o.1.len;by_cases pD:h9<l.length
   ·obtain⟨_,_,e,-,-,fW,eb,tg⟩:=Row.pos a1.o.2.1 (by omega)
    cases e;have c0:=eb (h9*1+0) (by omega);rw[hC _ 1 (fun _=>rfl) _ _ _ (by omega) (by omega)]at c0;have au:=a1.o.1.high h9 pD cv;rw[hg (by omega)]at au;rw[kt au]at c0;simp only[wQ,jg,j3,zM]at c0;clear eb tg au;obtain⟨d,aB⟩:∃d,l[h9]=d:=⟨_,rfl⟩;have bn:=J aB;rw[aB]at c0;clear aB;have hy:=J (dj.o wr a1.o.2.2 d (by rw[<-bn.o];exact eT pD));cases aw:p d
    ·unfold Hid at hy
     rw[aw]at hy;have dp:=J aw;have xg:=J hy;clear aw hy;go_wp2_with fail
     refine xg.o.mono ?_;rintro e w2 ⟨rfl,bP⟩;have p8:=Row.below a1.o.2.1 bP;obtain⟨_,_,e,-,-,YF,eb,tg⟩:=Row.pos p8 (by omega);cases e;have i0:=eb (ii*1+0) (by omega);have f0:=tg ii;rw[hC _ 1 (fun _=>rfl) _ _ _ (by omega) (by omega)]at i0;simp only[wQ,jg,j3,zM]at i0;have mv:=J p8;have jG:=J bP;clear eb tg p8 bP c0;generalize xs[ii]'(by omega)=zm at i0;go_wp2_with fail
     refine⟨⟨ii+1,h9+1,xs.set ii d,by omega,by omega,by go_num,by go_num,?_,?_,?_⟩,by simp[intOf];omega⟩
     ·have:=a1.o.1.rQ pD (by rw[bn.o];exact dp.o)
      rwa [bn.o]at this
     ·have a:=(ly mv.o ii (bl d)).1
      have aP:=uc wQ 1 (fun _=>rfl) xs ii 0 (by omega) (bl d) d (by omega) rfl;rw[j3,zM]at aP;rw[aP]at a;exact a
     ·have a:=a1.o.2.2.then ((Touch.dh jG.o))
      exact a.setCell (p:=(aa g0 ii)) (Or.inl rfl) _
    ·unfold Hid at hy
     rw[aw]at hy;have dp:=J aw;have xg:=J hy;clear aw hy;go_wp2_with fail
     refine xg.o.mono ?_;rintro e w2 ⟨rfl,b0⟩;clear c0;go_wp2_with fail
     exact⟨⟨ii,h9+1,xs,by omega,by omega,rfl,by go_num,a1.o.1.skip pD (by rw[bn.o];exact dp.o),Row.below a1.o.2.1 b0,a1.o.2.2.then (Touch.dh b0)⟩,by simp[intOf];omega⟩
   ·have Jv:h9=l.length:=by omega
    subst Jv;obtain⟨q1,dy,fE⟩:=a1.o.1.done;obtain⟨cc,hd,va,xO⟩:=P7 (P:=prog) (size:=1) (t:=181) (ty:=0) (z:= .pointer none) (i:=ii) underlying181 (fun _=>by kernel_rfl) rfl (by intro u hu;simp[Value.cells]at hu;subst hu;rfl) a1.o.2.1 fE;simp only[zM]at hd;have HU:=J va;have Fw:=J xO;have fs:=J (⟨q1,dy⟩:_∧_);clear va xO q1 dy;go_wp2_with fail
    go_ret;refine⟨_,rfl,?_,rfl,a1.o.2.2.grown Fw.o (fun k e=>by cases e;exact Or.inl rfl)⟩;have:=HU.o;rw[IP _ 1 (fun _=>rfl),fs.o.1]at this;rw[<-fs.o.2];exact this
theorem Kl {α:Type}[DecidableEq α]:∀{l m:List α},l.Nodup->(∀x,x∈l->x∈m)->l.length<=m.length
 |[],_,_,_=>ch
 |a::l,m,hn,h=>by
  obtain⟨aU,sq⟩:=yt.1 hn;have hm:=h a (by simp);have h1:=Kl (l:=l) (m:=m.erase a) sq (fun x au=>by
   have bS:x≠a:=fun e=>aU (e▸au)
   exact(mem_erase_of_ne bS).2 (h x (by simp[au])))
  have ae:=length_erase_of_mem hm;have aH:0<m.length:=length_pos_of_mem hm;rw[lP];omega
theorem VZ {H:bG}{st:b5}(bY:st.h5)(h:nP H p M st)(bK:M<=N):(st.came p).length<=N:=by
 have:=Kl (bY.once p) (m:=(List.range N).map H.dot) (fun d aB=>by
  obtain⟨v,av⟩:=mn.1 ((bY.here p d).1 aB);obtain⟨j,af,e,-⟩:=h.b d v av;exact gF.2 ⟨j,mem_range.2 (by omega),e.symm⟩)
 simpa using this
theorem alA {H:bG}(h:H.hN p j=true):(H.wr j p).isSome:=by
 unfold bG.hN at h;split at h
 ·cases h
 ·rename_i x au;rw[au];rfl
theorem aac {H:bG}{st:b5}(hk:nN st)(h:∀p,∃M,M<=N∧nP H p M st){pl:Nat->List Place}(aC:∀j,(pl j).length<=16)(aw:∀j p,j<N->(H.wr j p).isSome->p∈pl j):∀s,s∈st.bW->s.kept.length<=16*N:=fun s hs=>by
 have hlen:∀N,((List.range N).flatMap fun j=>(pl j).map fun p=>(⟨p,H.dot j⟩:cn)).length<=16*N:=fun N=>by
  induction N with
  |zero=>simp
  |succ N ih=>
   rw[range_succ,r3,eN];have:=aC N;simp only[kf,Bl,qu,mO];omega
 refine fx (Kl ?_ ?_) (hlen N)
 ·obtain⟨a,b,e⟩:=append_of_mem hs
  unfold nN at hk;rw[e,r3,kf,yn]at hk;exact(yn.1 hk.2.1).1
 ·intro x au
  obtain⟨M,bK,ha⟩:=h x.at_;obtain⟨j,h1,ae,aH,-⟩:=ha.e s hs x.dot au;exact uD.2 ⟨j,mem_range.2 (by omega),gF.2 ⟨x.at_,aw j x.at_ (by omega) (alA aH),by rw[<-ae]⟩⟩
theorem aaa (key:ByteArray)(ops:List db):∀(l acc:List ByteArray),my acc->my (l.foldl (qZ key ops) acc)∧∀a,a∈l.foldl (qZ key ops) acc↔a∈acc∨(a∈l∧((dR key a ops).isSome=false∨hZ (dR key a ops)=3))
 |[],acc,h=>⟨h,fun a=>by simp⟩
 |e::l,acc,h=>by
  have step:my (qZ key ops acc e)∧∀a,a∈qZ key ops acc e↔a∈acc∨(a=e∧((dR key e ops).isSome=false∨hZ (dR key e ops)=3)):=by
   unfold qZ;split
   ·rename_i c
    obtain⟨r,m⟩:=Ug h e;exact⟨r,fun a=>(m a).trans ⟨fun q=>q.imp id fun q=>⟨q,c⟩,fun q=>q.imp id fun q=>q.1⟩⟩
   ·rename_i c
    exact⟨h,fun a=>⟨Or.inl,fun q=>q.elim id fun q=>absurd q.2 c⟩⟩
  obtain⟨r,m⟩:=aaa key ops l _ step.1;refine⟨r,fun a=>?_⟩;rw[sO,m,step.2,h3];constructor
  ·rintro ((c|⟨rfl,c⟩)|⟨c1,c2⟩)
   ·exact Or.inl c
   ·exact Or.inr ⟨Or.inl rfl,c⟩
   ·exact Or.inr ⟨Or.inr c1,c2⟩
  ·rintro (c|⟨c1|c1,c2⟩)
   ·exact Or.inl (Or.inl c)
   ·subst c1;exact Or.inl (Or.inr ⟨rfl,c2⟩)
   ·exact Or.inr ⟨c1,c2⟩
theorem Z2 (key:ByteArray)(ops:List db):∀(l acc:List ByteArray),my acc->my (l.foldl (rN key ops) acc)∧∀a,a∈l.foldl (rN key ops) acc↔a∈acc∨(a∈l∧hZ (dR key a ops)=3)
 |[],acc,h=>⟨h,fun a=>by simp⟩
 |e::l,acc,h=>by
  have step:my (rN key ops acc e)∧∀a,a∈rN key ops acc e↔a∈acc∨(a=e∧hZ (dR key e ops)=3):=by
   unfold rN;split
   ·rename_i c
    obtain⟨r,m⟩:=Ug h e;exact⟨r,fun a=>by rw[m];simp[c]⟩
   ·rename_i c
    exact⟨h,fun a=>by simp[c]⟩
  obtain⟨r,m⟩:=Z2 key ops l _ step.1;refine⟨r,fun a=>?_⟩;rw[sO,m,step.2,h3];constructor
  ·rintro ((c|⟨rfl,c⟩)|⟨c1,c2⟩)
   ·exact Or.inl c
   ·exact Or.inr ⟨Or.inl rfl,c⟩
   ·exact Or.inr ⟨Or.inr c1,c2⟩
  ·rintro (c|⟨c1|c1,c2⟩)
   ·exact Or.inl (Or.inl c)
   ·subst c1;exact Or.inl (Or.inr ⟨rfl,c2⟩)
   ·exact Or.inr ⟨c1,c2⟩
theorem an2 {told l:List ByteArray}(hk:kindOf key=115)(oG:∀o,o∈ops->mx o)(aC:my l)(hm:∀a,a∈l↔(a∈told∧gz ops ⟨key,a⟩=none)∨∃x,gz ops ⟨key,a⟩=some x∧x.kind=2):l=uy key ops told:=by
 obtain⟨cB,m1⟩:=aaa key ops told [] List.Pairwise.nil;obtain⟨b_,m2⟩:=Z2 key ops (lG key ops) _ cB;refine TC aC b_ fun a=>?_
 refine(hm a).trans (Iff.trans ?_ (m2 a).symm);rw[m1,aaF hk oG];obtain⟨h1,ae⟩:=S3 hk a ops oG;rw[h1];cases e:dR key a ops with
 |none=>simp[hZ,db.none]
 |some o=>
  rcases ae o e with c|c
  ·have:(iL o).kind=2:=by unfold iL;rw[if_neg (by omega),if_neg (by omega),if_pos c]
   simp[hZ,c,this]
  ·have:(iL o).kind=3:=by unfold iL;rw[if_neg (by omega),if_neg (by omega),if_neg (by omega)]
   simp[hZ,c,this]
structure bG.rp (H eg:bG)(N:Nat):Prop where
 dot:∀j,j<N->eg.dot j=H.dot j
 wr:∀j,j<N->eg.wr j=H.wr j
 qn:∀k j,k<N->j<N->eg.qn k j=H.qn k j
section
theorem bG.rp.total {H eg:bG}(h:bG.rp H eg N)(p:Place):∀j,j<=N->eg.total p j=H.total p j
 |0,_=>rfl
 |j+1,af=>by
  show wrap64 (eg.total p j+tV (eg.wr j p))=wrap64 (H.total p j+tV (H.wr j p))
  rw[bG.rp.total h p j (by omega),h.wr j (by omega)]
theorem bG.rp.hN {H eg:bG}(h:bG.rp H eg N)(p:Place)(af:j<N):eg.hN p j=H.hN p j:=by
 unfold bG.hN;rw[h.wr j af,h.total p (j+1) (by omega)]
theorem bG.rp.over {H eg:bG}(h:bG.rp H eg N)(p:Place){k:Nat}(hk:k<N)(af:j<N):eg.over p k j=H.over p k j:=by
 unfold bG.over;rw[h.wr k hk,h.qn k j hk af]
theorem bG.rp.fw {H eg:bG}(h:bG.rp H eg N)(p:Place)(af:j<N):∀M,M<=N->eg.fw p j M=H.fw p j M
 |0,_=>rfl
 |M+1,bK=>by
  unfold bG.fw;rw[bG.rp.fw h p af M (by omega),h.over p (by omega) af]
theorem bG.rp.gN {H eg:bG}(h:bG.rp H eg N)(p:Place)(af:j<N)(bK:M<=N):eg.gN p j M=H.gN p j M:=by
 have hw:eg.q9 p j M=H.q9 p j M:=by
  unfold bG.q9;rw[h.fw p af M bK];split
  ·rename_i k e;exact h.dot k (by have:=bG.wY e;omega)
  ·rfl
 unfold bG.gN;rw[h.wr j af,hw,h.total p (j+1) (by omega)]
theorem bG.rp.anl {H eg:bG}(h:bG.rp H eg N){st:b5}(k:nP H p N st):nP eg p N st:=by
 refine⟨fun d v aB=>?_,fun j af aq aA=>?_,fun s hs d aB=>?_⟩
 ·obtain⟨j,a,b,c,e⟩:=k.b d v aB
  exact⟨j,a,by rw[h.dot j a];exact b,by rw[h.hN p a];exact c,by rw[h.gN p a cv];exact e⟩
 ·rw[h.dot j af,h.gN p af cv]
  refine k.c j af (by rw[<-h.hN p af];exact aq) ?_;rw[h.fw p af N cv,h.dot j af]at aA;refine aA.imp id ?_;rintro ⟨s,q,h1,ae,aH,bd⟩;exact⟨s,q,h1,ae,aH,by rw[<-h.dot q (bG.wY aH).2.1];exact bd⟩
 ·obtain⟨j,a,b,c,e⟩:=k.e s hs d aB
  exact⟨j,a,by rw[h.dot j a];exact b,by rw[h.hN p a];exact c,by rw[h.fw p a N cv];exact e⟩
theorem bG.rp.ns {H eg:bG}(h:bG.rp H eg N){isSet:Place->Prop}{st:b5}(k:mu H isSet N st):mu eg isSet N st:=
 ⟨k.wf,fun p=>h.anl (k.pl p),k.els,k.aY,fun j af=>by rw[h.dot j af];exact k.ag j af,fun s hs=>by
  obtain⟨T,aD,aU⟩:=k.bW s hs;exact⟨T,aD,fun j af=>by rw[h.dot j af];exact aU j af⟩⟩
end
theorem yT {m:Nat}(h:l.length<=m):l.getD m 0=0:=by simp[getD,yr h]
def bJ (l:List Int):aW:=⟨l.getD 0 0,l.getD 1 0,l.getD 2 0,l.getD 3 0,l.getD 4 0⟩
theorem pS (h:l.length<=5)(r:Int):(bJ l).get r=l.getD r.toNat 0:=by
 unfold aW.get bJ aW.list;generalize r.toNat=m;match m with
 |0=>rfl
 |1=>rfl
 |2=>rfl
 |3=>rfl
 |4=>rfl
 |m+5=>simp only[getD_cons_succ,getD_nil];rw[yT (by omega)]
theorem OG (h:l.length<=5)(d:bF):(bJ l).gI d=fc l d.rep d.seq:=by
 unfold aW.gI fc;rw[pS h]
def C2 (p:Place):Prop:=kindOf p.key=115
theorem ach {s:Int}(aS:0<=s)(h1:s<=3000000):(Lit.int .i64 s).wf=true:=by
 have aP:IntKind.i64.min= -9223372036854775808:=by decide
 have ba:IntKind.i64.max=9223372036854775807:=by decide
 simp only[Lit.wf,aP,ba,qv,mo];omega
theorem Ju (hs:List aT)(t:aT):bG.rp (eR hs) (eR (hs++[t])) hs.length:=by
 have e:∀j,j<hs.length->e9 (hs++[t]) j=e9 hs j:=fun j af=>by
  rw[jf (by simp;omega),jf af,Dg af]
 exact⟨fun j af=>by simp only[eR,e j af],fun j af=>by simp only[eR,e j af],fun k j hk af=>by simp only[eR,e j af,e k hk]⟩
theorem anb (ops:List db):(gz ops p).isSome->p∈ops.map ht:=by
 induction ops using ya with
 |aS=>intro h;cases h
 |h1 ops o ih=>
  intro h;rw[CU]at h;unfold A5 at h;rw[tJ,hT];split at h
  ·rename_i c;exact Or.inr (by simp[c])
  ·exact Or.inl (ih h)
theorem anH (m:Place->Option cG)(p:Place)(x:cG):(nb m p x).kind=x.kind:=by unfold nb;split<;>rfl
theorem NX (ops:List db):(∀o,o∈ops->mx o∧(¬o.kind=1->o.value.size<=maxLen))->∀x,gz ops p=some x->((x.kind=0∧kindOf p.key=99)∨(x.kind=1∧kindOf p.key=114)∨((x.kind=2∨x.kind=3)∧kindOf p.key=115))∧p.Ok:=by
 induction ops using ya with
 |aS=>intro _ x au;cases au
 |h1 ops o ih=>
  intro h x au;rw[CU]at au;unfold A5 at au;split at au
  ·rename_i c
   subst c;cases au;obtain⟨cu,av⟩:=h o (by simp);have eC:=cu.key;have ajO:kindOf o.key≠0:=by
    rw[eC];unfold kF;split
    ·omega
    ·split<;>omega
   have fb:o.key.size<=8:=by
    by_cases c:1<=o.key.size∧o.key.size<=8
    ·exact c.2
    ·exact absurd (J_ c) ajO
   have wA:(ht o).key=o.key:=by unfold ht;split<;>rfl
   have fK:(ht o).Ok:=by
    refine⟨by rw[wA];unfold maxLen;omega,?_⟩;unfold ht;split
    ·show(⟨#[]⟩:ByteArray).size<=_;exact ch
    ·rename_i c;exact av (fun e=>c (Or.inl e))
   refine⟨?_,fK⟩;rw[wA,eC];rw[anH];rcases cu.kind with k|k|k|k
   ·left;unfold iL;rw[if_pos k];exact⟨rfl,by rw[k];rfl⟩
   ·right;left;unfold iL;rw[if_neg (by omega),if_pos k];exact⟨rfl,by rw[k];rfl⟩
   ·right;right;unfold iL;rw[if_neg (by omega),if_neg (by omega),if_pos k];exact⟨Or.inl rfl,by rw[k];rfl⟩
   ·right;right;unfold iL;rw[if_neg (by omega),if_neg (by omega),if_neg (by omega)];exact⟨Or.inr rfl,by rw[k];rfl⟩
  ·exact ih (fun o cu=>h o (by simp[cu])) x au
def pI:b5:=⟨⟨0,0,0,0,0⟩,fun _=>none,fun _=>[],fun _ _=>false,[]⟩
section
variable {n i:Nat}{d:aZ}{st:b5}{b8:Nat->Nat}
theorem Qn:∀(l:List cn) (st:b5),(∀gL,gL∈(l.foldl gA st).bW->∃s,s∈st.bW∧gL.saw=s.saw∧gL.U=s.U)∧(l.foldl gA st).bW.map ej.U=st.bW.map ej.U∧(l.foldl gA st).ag=st.ag
 |[],st=>⟨fun s hs=>⟨s,hs,rfl,rfl⟩,rfl,rfl⟩
 |x::l,st=>by
  obtain⟨a,b,c⟩:=Qn l (gA st x);refine⟨fun gL gj=>?_,by rw[sO,b,WI],by rw[sO,c,Qm]⟩;obtain⟨s,h1,ae,aH⟩:=a gL gj;obtain⟨cY,g1,g2,g3,-⟩:=IJ st x s h1;exact⟨cY,g1,ae.trans g2,aH.trans g3⟩
theorem VS {l:List ej}(h:(l.map ej.U).Nodup){s gL:ej}(hs:s∈l)(gj:gL∈l)(e:s.U=gL.U):s=gL:=by
 induction l with
 |nil=>simp at hs
 |cons a l ih=>
  rw[map_cons,yt]at h;rcases h3.1 hs with c|c<;>rcases h3.1 gj with c'|c'
  ·rw[c,c']
  ·exact absurd (gF.2 ⟨gL,c',by rw[<-e,c]⟩) h.1
  ·exact absurd (gF.2 ⟨s,c,by rw[e,c']⟩) h.1
  ·exact ih h.2 c c'
theorem adD (hs:List aT)(j:Nat)(p:Place)(hw:((eR hs).wr j p).isSome):p∈(e9 hs j).ops.map ht:=anb _ hw
end
end Go.Proofs.YtiplgdkpnhamaaaGreatDoor
namespace Go.Proofs.YtiplgdkpnhamaaaGreatDoor.Tv
open Go.Proofs.Tryz List
open Go.RowKit
variable {T b j k r:Nat}{key:ByteArray}{l:List bF}{t u:aT}
def e1 (hs:List aT)(r:Nat):Nat:=(hs.filter fun u=>decide (u.rep=(r:Int))).length
def cb (n:Nat)(hs:List aT):List Int:=(List.range n).map fun r=>(e1 hs r:Int)
theorem kH (n:Nat)(hs:List aT):(cb n hs).length=n:=by simp[cb]
theorem k2 {n:Nat}{hs:List aT}(aJ:r<n):(cb n hs).getD r 0=e1 hs r:=by simp[cb,aJ]
theorem uB {n:Nat}{hs:List aT}(aJ:n<=r):(cb n hs).getD r 0=0:=yT (by rw[kH];exact aJ)
theorem DP (hs:List aT)(u:aT)(r:Nat):e1 (hs++[u]) r=e1 hs r+if u.rep=(r:Int)then 1 else 0:=by
 unfold e1;rw[filter_append,eN];by_cases c:u.rep=(r:Int)<;>simp[c]
theorem P_ {hs:List aT}(af:j<hs.length)(r:Nat):e1 (hs.take (j+1)) r=e1 (hs.take j) r+if hs[j].rep=(r:Int)then 1 else 0:=by
 rw[kr af,DP]
theorem L7 (hs:List aT){a:Nat}(h:a<=b)(r:Nat):e1 (hs.take a) r<=e1 (hs.take b) r:=by
 obtain⟨k,rfl⟩:=Nat.exists_eq_add_of_le h;clear h;induction k with
 |zero=>exact cv
 |succ k ih=>
  refine fx ih ?_;by_cases c:a+k<hs.length
  ·rw[show a+(k+1)=a+k+1 by omega,P_ c];omega
  ·rw[lQ (i:=a+(k+1)) (by omega),lQ (i:=a+k) (by omega)];exact cv
theorem qL (hs:List aT)(r:Nat):e1 hs r<=hs.length:=Ff _ _
theorem IA (hs:List aT)(r:Nat):e1 (hs.take T) r<=e1 hs r:=by
 have:=L7 hs (a:=T) (b:=max T hs.length) (by omega) r;rwa [lQ (i:=max T hs.length) (by omega)]at this
structure PJ (n:Nat)(hs:List aT)(saw:List Int):Prop where
 len:saw.length=n
 pos:∀r,0<=saw.getD r 0
 le:∀r,saw.getD r 0<=e1 hs r
 L5:∀u,u∈hs->fc saw u.rep u.seq=true->∀r,u.saw.getD r 0<=saw.getD r 0
structure DH (l:List db):Prop where
 ops:∀o,o∈l->mx o∧(¬o.kind=1->o.value.size<=8)∧(o.kind=1-> -1000000<=o.cH∧o.cH<=1000000)
 ea:l.length<=16
theorem DH.zm {l:List db}(h:DH l):∀o,o∈l->mx o∧(¬o.kind=1->o.value.size<=maxLen):=fun o cu=>
 ⟨(h.ops o cu).1,fun c=>fx ((h.ops o cu).2.1 c) (by unfold maxLen;omega)⟩
structure oO (n:Nat)(hs:List aT)(u:aT):Prop where
 eE:0<=u.rep
 hQ:u.rep<n
 seq:u.seq=(e1 hs u.rep.toNat:Int)+1
 saw:PJ n hs u.saw
 ops:DH u.ops
 one:1<=u.ops.length
structure dB (n:Nat)(hs:List aT):Prop where
 n5:n<=5
 tx:∀j (h:j<hs.length),oO n (hs.take j) hs[j]
theorem oO.G_ {n:Nat}{hs:List aT}(h:oO n hs u):((u.rep.toNat:Nat):Int)=u.rep:=by have:=h.eE;omega
theorem oO.vw {n:Nat}{hs:List aT}(h:oO n hs u):u.rep.toNat<n:=by have:=h.eE;have:=h.hQ;omega
section
variable {n:Nat}{hs:List aT}
theorem dB.snoc (h:dB n hs)(hu:oO n hs u):dB n (hs++[u]):=by
 refine⟨h.n5,fun j af=>?_⟩;by_cases c:j<hs.length
 ·rw[Dg c,take_append_of_le_length (by omega)];exact h.tx j c
 ·have e:j=hs.length:=by simp at af;omega
  subst e;rw[Fj cv,take_left']
  ·simpa using hu
  ·rfl
theorem dB.KL (h:dB n hs)(af:j<hs.length):(hs[j].seq<=(e1 (hs.take T) hs[j].rep.toNat:Int))↔j<T:=by
 have hu:=h.tx j af;rw[hu.seq];constructor
 ·intro aA
  by_cases c:j<T
  ·exact c
  ·have:=L7 hs (a:=T) (b:=j) (by omega) hs[j].rep.toNat;omega
 ·intro aA
  have:=L7 hs (a:=j+1) (b:=T) (by omega) hs[j].rep.toNat;rw[P_ af,if_pos hu.G_.symm]at this;omega
theorem dB.KI (h:dB n hs)(T:Nat):Ie hs (cb n (hs.take T)) T:=fun j af=>by
 have hu:=h.tx j af;rw[jf af];unfold fc;rw[k2 hu.vw,Bool.eq_iff_iff,mo,mo];exact h.KL af
theorem dB.Am (_:dB n hs)(af:j<hs.length):(eR hs).dot j=⟨hs[j].rep,hs[j].seq⟩:=by simp only[eR,jf af]
theorem dB.inj (h:dB n hs)(af:j<hs.length)(hk:k<hs.length)(aP:hs[j].rep=hs[k].rep)(ba:hs[j].seq=hs[k].seq):j=k:=by
 have acp:=(h.tx j af).seq;have atU:=(h.tx k hk).seq;rw[aP,ba]at acp;have dk:¬j<k:=fun c=>by
  have:=(h.KL (T:=k) af).2 c;rw[aP,ba]at this;omega
 have eu:¬k<j:=fun c=>by
  have:=(h.KL (T:=j) hk).2 c;omega
 omega
theorem dB.qn (_:dB n hs)(hk:k<hs.length)(af:j<hs.length):(eR hs).qn k j=fc hs[k].saw hs[j].rep hs[j].seq:=by
 show fc (e9 hs k).saw (e9 hs j).rep (e9 hs j).seq=_
 rw[jf hk,jf af]
theorem Hb {v:List Int}{r s:Int}:fc v r s=true↔s<=v.getD r.toNat 0:=by unfold fc;rw[mo]
theorem dB.back (h:dB n hs)(hk:k<hs.length)(af:j<hs.length)(gj:fc hs[k].saw hs[j].rep hs[j].seq=true):j<k:=by
 have:=(h.tx k hk).saw.le hs[j].rep.toNat;exact(h.KL af).1 (vC (Hb.1 gj) this)
theorem dB.ok (h:dB n hs):PA hs:=by
 refine⟨fun t al o cu=>?_,fun j k af hk e=>?_,fun j k af hk gj=>?_,fun a b c aU hb aA h1 ae=>?_⟩
 ·obtain⟨j,af,rfl⟩:=fQ.1 al
  exact((h.tx j af).ops.ops o cu).1
 ·rw[h.Am af,h.Am hk]at e
  injection e with aP ba
  exact h.inj af hk aP ba
 ·rw[h.qn hk af]at gj;exact h.back hk af gj
 ·rw[h.qn aA hb]at h1
  rw[h.qn hb aU]at ae;rw[h.qn aA aU];have ar7:=h.back aA hb h1;have:=(h.tx c aA).saw.L5 hs[b] (fQ.2 ⟨b,by simp;omega,by simp⟩) h1 hs[a].rep.toNat;exact Hb.2 (vC (Hb.1 ae) this)
theorem dB.fK (h:dB n hs)(fa:hs.length<=2000000):(eR hs).Ok hs.length:=by
 refine⟨h.ok.inj,fun j af=>?_,fun j af=>?_⟩
 ·rw[h.Am af];show hs[j].seq≠0;rw[(h.tx j af).seq];omega
 ·rw[h.Am af]
  have hu:=h.tx j af;have ae:=h.n5;have aH:=qL (hs.take j) hs[j].rep.toNat;have bd:(hs.take j).length<=2000000:=by rw[ng];omega
  have cS:=hu.hQ;exact⟨hu.eE,by show hs[j].rep<5;omega,ach (s:=hs[j].seq) (by rw[hu.seq];omega) (by rw[hu.seq];omega)⟩
theorem dB.aqi (h:dB n hs)(T:Nat):PJ n hs (cb n (hs.take T)):=by
 refine⟨kH _ _,fun r=>?_,fun r=>?_,fun u hu aA r=>?_⟩
 ·by_cases c:r<n
  ·rw[k2 c];omega
  ·rw[uB (by omega)];omega
 ·by_cases c:r<n
  ·rw[k2 c];have:=IA hs (T:=T) r;omega
  ·rw[uB (by omega)];omega
 ·obtain⟨j,af,rfl⟩:=fQ.1 hu
  have a:=h.KI T j af;rw[jf af,aA]at a;have asG:=sM a.symm;have b:=(h.tx j af).saw;by_cases c:r<n
  ·rw[k2 c]
   have:=b.le r;have:=L7 hs (a:=j) (b:=T) (by omega) r;omega
  ·rw[uB (by omega),yT (by rw[b.len];omega)];exact re _
theorem adm (aS:0<=u.rep)(hn:u.rep<n):cb n (hs++[u])=(cb n hs).set u.rep.toNat ((cb n hs).getD u.rep.toNat 0+1):=by
 rw[k2 (by omega)];apply ext_getElem?;intro r;rw[Bm];unfold cb;by_cases c:r<n
 ·by_cases e:u.rep.toNat=r
  ·subst e;simp only[zK,mO,length_range,c,uC,getElem?_range,Bo,DP];rw[if_pos (by omega)];rfl
  ·simp only[zK,c,getElem?_range,Bo,DP,e,if_false];rw[if_neg (by omega)];rfl
 ·have:u.rep.toNat≠r:=by omega
  simp[c,this]
end
structure xu (n:Nat)(hs:List aT)(t:aT):Prop where
 saw:∃T,T<=hs.length∧t.saw=cb n (hs.take T)
 ops:DH t.ops
structure jw (n i:Nat)(d:aZ)(st:b5)(b8:Nat->Nat):Prop where
 aq:i<n
 df:dB n d.hs
 ag:d.ag=cb n d.hs
 zx:st.ag=bJ d.ag
 ns:mu (eR d.hs) C2 d.hs.length st
 KP:∀s,s∈st.bW->∃T,T<=d.hs.length∧s.saw=bJ (cb n (d.hs.take T))
 KM:∀k,6<=k->d.bH k=none
 bH:∀k t,d.bH k=some t->xu n d.hs t∧∃s,s∈st.bW∧s.U=b8 k∧s.saw=bJ t.saw
 KN:∀k gC,(d.bH k).isSome->(d.bH gC).isSome->b8 k=b8 gC->k=gC
theorem aqg (n:Nat):cb n []=replicate n 0:=by
 unfold cb;apply ext_getElem?;intro r;by_cases h:r<n<;>simp[h,e1]
theorem xu.new {n i:Nat}{d:aZ}(aB:dB n d.hs)(av:d.ag=cb n d.hs)(aq:i<n)(h:xu n d.hs t)(h1:1<=t.ops.length):oO n d.hs (done i d t):=by
 obtain⟨T,aD,e⟩:=h.saw;refine⟨by show(0:Int)<=(i:Int);omega,by show(i:Int)<n;omega,?_,?_,h.ops,h1⟩
 ·show d.ag.getD i 0+1=_
  rw[av,k2 aq];rfl
 ·show PJ n d.hs t.saw
  rw[e];exact aB.aqi T
theorem jw.new {n i:Nat}(aq:i<n)(hn:n<=5)(b8:Nat->Nat):jw n i ⟨[],replicate n 0,fun _=>none⟩ pI b8:=by
 refine⟨aq,⟨hn,fun j af=>by simp at af⟩,(aqg n).symm,?_,⟨⟨fun p d=>by simp[pI],fun p=>by simp[pI],fun p d aB=>by simp[pI]at aB,fun x v av=>by simp[pI]at av,fun s hs=>by simp[pI]at hs,by simp[pI]⟩,fun p=>⟨fun d v av=>by simp[pI]at av,fun j af=>by simp at af,fun s hs=>by simp[pI]at hs⟩,fun q _ aA=>by simp[pI]at aA,by simp[nN,pI],fun j af=>by simp at af,fun s hs=>by simp[pI]at hs⟩,fun s hs=>by simp[pI]at hs,fun _ _=>rfl,fun k t al=>by simp at al,fun k gC hk=>by simp at hk⟩;show(⟨0,0,0,0,0⟩:aW)=bJ (replicate n 0)
 have:∀m,(replicate n (0:Int)).getD m 0=0:=fun m=>by
  by_cases h:m<n<;>simp[getD,h]
 simp only[bJ,this]
theorem dB.full {n:Nat}{hs:List aT}(h:dB n hs){s:Nat}(gj:s+1<=e1 hs r):∃j,∃af:j<hs.length,hs[j].rep=(r:Int)∧hs[j].seq=(s:Int)+1:=by
 have au:∀m,m<=hs.length->s+1<=e1 (hs.take m) r->∃j,∃af:j<hs.length,hs[j].rep=(r:Int)∧hs[j].seq=(s:Int)+1:=by
  intro m;induction m with
  |zero=>intro _ c;simp[e1]at c
  |succ m ih=>
   intro hm c;by_cases c2:s+1<=e1 (hs.take m) r
   ·exact ih (by omega) c2
   ·have kU:m<hs.length:=by omega
    rw[P_ kU]at c;have e:hs[m].rep=(r:Int):=by
     by_cases e:hs[m].rep=(r:Int)
     ·exact e
     ·rw[if_neg e]at c;omega
    rw[if_pos e]at c;refine⟨m,kU,e,?_⟩;rw[(h.tx m kU).seq,e,kL];omega
 exact au hs.length cv (by rw[tI];exact gj)
section
variable {n i:Nat}{d:aZ}{st:b5}{b8:Nat->Nat}
theorem jw.PU (h:jw n i d st b8)(hk:k<6)(bm:d.bH k=none)(hb:b∉st.bW.map ej.U):jw n i {d with bH:=fP d.bH k (some ⟨0,0,d.ag,[]⟩)} (wO st b) (fun q=>if q=k then b else b8 q):=by
 refine⟨h.aq,h.df,h.ag,h.zx,h.ns.open_ hb,fun s hs=>?_,fun q ad=>?_,fun q t al=>?_,fun q x_ ad iB e=>?_⟩
 ·have gj:s∈st.bW++[(⟨b,st.ag,[]⟩:ej)]:=hs
  rw[mem_append,mem_singleton]at gj;rcases gj with c|rfl
  ·exact h.KP s c
  ·exact⟨d.hs.length,Nat.le_refl _,by rw[take_length,<-h.ag];exact h.zx⟩
 ·show fP d.bH k _ q=none
  rw[nJ (by omega)];exact h.KM q ad
 ·have ma:fP d.bH k (some ⟨0,0,d.ag,[]⟩) q=some t:=al
  by_cases c:q=k
  ·subst c
   rw[qp]at ma;cases ma;refine⟨⟨⟨d.hs.length,Nat.le_refl _,by rw[take_length];exact h.ag⟩,⟨fun o cu=>by simp at cu,by simp⟩⟩,⟨b,st.ag,[]⟩,?_,by simp,h.zx⟩;show _∈st.bW++[(⟨b,st.ag,[]⟩:ej)]
   simp
  ·rw[nJ c]at ma
   obtain⟨cO,s,a2,a3,a4⟩:=h.bH q t ma;refine⟨cO,s,?_,by simp[c,a3],a4⟩;show s∈st.bW++[(⟨b,st.ag,[]⟩:ej)]
   simp[a2]
 ·have hj:∀q,q≠k->(fP d.bH k (some ⟨0,0,d.ag,[]⟩) q).isSome->b8 q∈st.bW.map ej.U∧(d.bH q).isSome:=fun q M7 ad=>by
   rw[nJ M7]at ad;obtain⟨t,al⟩:=Option.isSome_iff_exists.1 ad;obtain⟨-,s,a2,a3,-⟩:=h.bH q t al;exact⟨mem_map.2 ⟨s,a2,a3⟩,ad⟩
  by_cases c:q=k<;>by_cases c':x_=k
  ·rw[c,c']
  ·simp only[c,c',if_true,if_false]at e
   exact absurd (by rw[e];exact(hj x_ c' iB).1) hb
  ·simp only[c,c',if_true,if_false]at e
   exact absurd (by rw[<-e];exact(hj q c ad).1) hb
  ·simp only[c,c',if_false]at e
   exact h.KN q x_ (hj q c ad).2 (hj x_ c' iB).2 e
theorem jw.ag4 (h:jw n i d st b8)(al:d.bH k=some t){o:db}(cu:mx o)(av:¬o.kind=1->o.value.size<=8)(aU:o.kind=1-> -1000000<=o.cH∧o.cH<=1000000)(aC:t.ops.length<16):jw n i {d with bH:=fP d.bH k (some {t with ops:=t.ops++[o]})} st b8:=by
 have Ek:∀q,(fP d.bH k (some {t with ops:=t.ops++[o]}) q).isSome=(d.bH q).isSome:=fun q=>by
  by_cases c:q=k
  ·subst c;rw[qp,al];rfl
  ·rw[nJ c]
 refine⟨h.aq,h.df,h.ag,h.zx,h.ns,h.KP,fun q ad=>?_,fun q u hu=>?_,fun q x_ ad iB e=>h.KN q x_ (by rw[<-Ek];exact ad) (by rw[<-Ek];exact iB) e⟩
 ·have:=Ek q
  rw[h.KM q ad]at this;simpa using this
 ·have iS:fP d.bH k (some {t with ops:=t.ops++[o]}) q=some u:=hu
  by_cases c:q=k
  ·subst c
   rw[qp]at iS;cases iS;obtain⟨cO,a2⟩:=h.bH q t al;refine⟨⟨cO.saw,⟨fun p aw=>?_,by simp only[length_append,length_cons,length_nil];omega⟩⟩,a2⟩;have uo:p∈t.ops++[o]:=aw;rw[mem_append,mem_singleton]at uo;rcases uo with c|rfl
   ·exact cO.ops.ops p c
   ·exact⟨cu,av,aU⟩
  ·rw[nJ c]at iS
   exact h.bH q u iS
theorem jw.close (h:jw n i d st b8)(fa:d.hs.length<=2000000)(al:d.bH k=some t){s:ej}(hs:s∈st.bW)(hb:s.U=b8 k):jw n i {d with bH:=fP d.bH k none} (yO st s) b8:=by
 obtain⟨aP,ba,ey⟩:=Qn s.kept {st with bW:=st.bW.filter fun t=> !decide (t.U=s.U)};have X2:∀gL,gL∈(yO st s).bW->∃cY,cY∈st.bW∧gL.saw=cY.saw∧gL.U=cY.U:=fun gL gj=>by
  obtain⟨cY,a,b,c⟩:=aP gL gj;exact⟨cY,(mem_filter.1 a).1,b,c⟩
 have tp:∀q,(fP d.bH k none q).isSome->q≠k∧(d.bH q).isSome:=fun q ad=>by
  by_cases c:q=k
  ·subst c;rw[qp]at ad;cases ad
  ·rw[nJ c]at ad;exact⟨c,ad⟩
 refine⟨h.aq,h.df,h.ag,ey.trans h.zx,h.ns.close (h.df.fK fa) hs,fun gL gj=>?_,fun q ad=>?_,fun q u hu=>?_,fun q x_ ad iB e=>h.KN q x_ (tp q ad).2 (tp x_ iB).2 e⟩
 ·obtain⟨cY,a,b,-⟩:=X2 gL gj
  rw[b];exact h.KP cY a
 ·show fP d.bH k none q=none
  unfold fP;split
  ·rfl
  ·exact h.KM q ad
 ·have iS:fP d.bH k none q=some u:=hu
  obtain⟨M7,RH⟩:=tp q (by rw[iS];rfl);rw[nJ M7]at iS;obtain⟨cO,s1,a2,a3,a4⟩:=h.bH q u iS;refine⟨cO,?_⟩;have bS:s1.U≠s.U:=fun e=>M7 (h.KN q k RH (by rw[al];rfl) (by rw[<-a3,<-hb];exact e))
  have hm:s1.U∈(yO st s).bW.map ej.U:=by
   unfold yO;rw[ba];exact mem_map.2 ⟨s1,mem_filter.2 ⟨a2,by simpa using bS⟩,rfl⟩
  obtain⟨s2,g1,g2⟩:=mem_map.1 hm;obtain⟨cY,f1,f2,f3⟩:=X2 s2 g1;have:cY=s1:=VS h.ns.wf.qK f1 a2 (f3.symm.trans g2);subst this;exact⟨s2,g1,g2.trans a3,f2.trans a4⟩
theorem jw.agk (h:jw n i d st b8)(p:Place):(st.came p).length<=d.hs.length:=VZ h.ns.wf (h.ns.pl p) cv
theorem jw.aad (h:jw n i d st b8):∀s,s∈st.bW->s.kept.length<=16*d.hs.length:=by
 refine aac (H:=eR d.hs) h.ns.aY (fun p=>⟨_,cv,h.ns.pl p⟩) (pl:=fun j=>(e9 d.hs j).ops.map ht) (fun j=>?_) (fun j p _ hw=>adD d.hs j p hw);rw[mO];by_cases c:j<d.hs.length
 ·rw[jf c];exact(h.df.tx j c).ops.ea
 ·simp[e9,c]
theorem jw.aqt (h:jw n i d st b8)(fa:d.hs.length<=1500000)(hu:oO n d.hs u):Vv (eR (d.hs++[u])) C2 d.hs.length (bJ u.saw) st.ag:=by
 have hH:dB n (d.hs++[u]):=h.df.snoc hu;have hlen:(d.hs++[u]).length=d.hs.length+1:=by simp
 have kj:e9 (d.hs++[u]) d.hs.length=u:=by simp[e9]
 have jm:∀p,(eR (d.hs++[u])).wr d.hs.length p=gz u.ops p:=fun p=>by
  show gz (e9 _ _).ops p=_
  rw[kj]
 have fj:=fun p=>NX (p:=p) u.ops hu.ops.zm
 refine⟨by have:=hH.fK (by rw[hlen];omega);rwa [hlen]at this,fun p x au=>?_,fun p x au=>?_,fun p x au hk j y af b9=>?_,fun j af=>?_,fun j af=>?_,fun p aw=>?_⟩
 ·rw[jm]at au
  have:=(fj p x au).1;omega
 ·rw[jm]at au
  have:=(fj p x au).1;unfold C2;omega
 ·rw[jm]at au
  have h1:=(fj p x au).1;rw[(Ju d.hs u).wr j af]at b9;have CH:gz (e9 d.hs j).ops p=some y:=b9;rw[jf af]at CH;have ae:=(NX (p:=p) d.hs[j].ops (h.df.tx j af).ops.zm y CH).1;omega
 ·rw[(Ju d.hs u).dot j af,h.df.Am af,h.zx,h.ag,OG (by rw[kH];exact h.df.n5)]
  have:=h.df.KI d.hs.length j af;rw[jf af,take_length]at this;rw[this];simpa using af
 ·rw[(Ju d.hs u).dot j af,h.df.Am af,OG (by rw[hu.saw.len];exact h.df.n5)]
  show fc (e9 _ _).saw (e9 _ j).rep (e9 _ j).seq=_
  rw[kj,jf (hs:=d.hs++[u]) (by omega),getElem_append_left af]
 ·rw[jm]at aw
  obtain⟨x,au⟩:=Option.isSome_iff_exists.1 aw;exact(fj p x au).2
theorem jw.start (h:jw n i d st b8)(u:aT):vN (eR (d.hs++[u])) C2 d.hs.length (fun p=>(gz u.ops p).isSome) st st:=by
 have:=((Ju d.hs u).ns h.ns).PU;have e:(fun p=>((eR (d.hs++[u])).wr d.hs.length p).isSome)=fun p=>(gz u.ops p).isSome:=by
  funext p;show(gz (e9 _ _).ops p).isSome=_
  have kj:e9 (d.hs++[u]) d.hs.length=u:=by simp[e9]
  rw[kj]
 rw[e]at this;exact this
def zu (d:aZ)(u:aT):aZ:=⟨d.hs++[u],d.ag.set u.rep.toNat (d.ag.getD u.rep.toNat 0+1),d.bH⟩
theorem jw.finish (h:jw n i d st b8)(hu:oO n d.hs u){left:Place->Bool}{jP:b5}(bK:vN (eR (d.hs++[u])) C2 d.hs.length left st jP)(aC:∀p,left p=false):
  jw n i (zu d u) {jP with ag:=bJ (cb n (d.hs++[u]))} b8:=by
 have hH:=h.df.snoc hu;have hlen:(d.hs++[u]).length=d.hs.length+1:=by simp
 have hp:d.ag.set u.rep.toNat (d.ag.getD u.rep.toNat 0+1)=cb n (d.hs++[u]):=by rw[adm hu.eE hu.hQ,<-h.ag]
 have rK:∀T,T<=d.hs.length->(d.hs++[u]).take T=d.hs.take T:=fun T aD=>take_append_of_le_length aD
 have wi:∀T j,j<d.hs.length+1->(bJ (cb n ((d.hs++[u]).take T))).gI ((eR (d.hs++[u])).dot j)=decide (j<T):=fun T j af=>by
  rw[OG (by rw[kH];exact h.df.n5)];exact hH.KI T j (by omega)
 have kB:=(Ju d.hs u).ns h.ns;have gn:(d.hs++[u]).take (d.hs.length+1)=d.hs++[u]:=lQ (by omega);have B4:=bK.end_ kB aC (fun s hs=>by
  obtain⟨T,aD,e⟩:=h.KP s hs;rw[e,<-rK T aD,wi T _ (by omega)];simp;omega) (v:=bJ (cb n (d.hs++[u]))) (fun j af=>by
  have:=wi (d.hs.length+1) j af;rw[gn]at this;rw[this];simpa using af)
 refine⟨h.aq,hH,by show d.ag.set _ _=cb n (d.hs++[u]);exact hp,by show bJ _=bJ (d.ag.set _ _);rw[hp],by show mu (eR (d.hs++[u])) C2 (d.hs++[u]).length _;rw[hlen];exact B4,fun s hs=>?_,h.KM,fun k t al=>?_,h.KN⟩
 ·obtain⟨cY,a,b,-⟩:=bK.bW s hs
  obtain⟨T,aD,e⟩:=h.KP cY a;exact⟨T,by show T<=(d.hs++[u]).length;rw[hlen];omega,by show s.saw=bJ (cb n ((d.hs++[u]).take T));rw[b,rK T aD];exact e⟩
 ·obtain⟨cO,s1,a2,a3,a4⟩:=h.bH k t al
  obtain⟨T,aD,e⟩:=cO.saw;refine⟨⟨⟨T,by show T<=(d.hs++[u]).length;rw[hlen];omega,by show t.saw=cb n ((d.hs++[u]).take T);rw[rK T aD];exact e⟩,cO.ops⟩,?_⟩;have hm:s1.U∈jP.bW.map ej.U:=by rw[bK.qK];exact gF.2 ⟨s1,a2,rfl⟩
  obtain⟨s2,g1,g2⟩:=gF.1 hm;obtain⟨cY,f1,f2,f3⟩:=bK.bW s2 g1;have:cY=s1:=VS h.ns.wf.qK f1 a2 (f3.symm.trans g2);subst this;exact⟨s2,g1,g2.trans a3,f2.trans a4⟩
theorem jw.at_ (h:jw n i d st b8)(al:xu n d.hs t):∃T,T<=d.hs.length∧Ie d.hs t.saw T∧(eR d.hs).at (bJ t.saw) T d.hs.length∧t.saw=cb n (d.hs.take T):=by
 obtain⟨T,aD,e⟩:=al.saw;refine⟨T,aD,by rw[e];exact h.df.KI T,fun j af=>?_,e⟩;rw[e,OG (by rw[kH];exact h.df.n5)];exact h.df.KI T j af
theorem jw.apC (h:jw n i d st b8)(fa:d.hs.length<=2000000)(al:xu n d.hs t){s:ej}(hs:s∈st.bW)(e:s.saw=bJ t.saw)(hk:kindOf key=99)(aC:l.Perm (jq (bJ t.saw) st ⟨key,cK⟩)):
  l.foldl (fun a x=>wrap64 (a+(hS st.bh ⟨⟨key,cK⟩,x⟩).sum)) 0=nV t.saw key d.hs:=by
 obtain⟨T,aD,dJ,aU,-⟩:=h.at_ al;rw[agS hk h.df.ok.ops dJ aD];refine apq h.ns (h.df.fK fa) hs e aD aU (fun j x af au=>?_) aC;have CG:gz (e9 d.hs j).ops ⟨key,cK⟩=some x:=au;rw[jf af]at CG;exact(S1 hk _ (h.df.ok.ops _ (getElem_mem af))).2 x CG
theorem jw.apA (h:jw n i d st b8)(fa:d.hs.length<=2000000)(al:xu n d.hs t){s:ej}(hs:s∈st.bW)(e:s.saw=bJ t.saw)(hk:kindOf key=114)(aC:l.Perm (jq (bJ t.saw) st ⟨key,cK⟩))(qe:l.Pairwise lW):
  (l.map fun x=>(hS st.bh ⟨⟨key,cK⟩,x⟩).value)=lr t.saw key d.hs n:=by
 obtain⟨T,aD,dJ,aU,eo⟩:=h.at_ al;have hO:=h.df.fK fa;refine aom hk h.df.ok dJ aD (fun r q aJ ad=>?_) (fun j af=>?_) qe (fun x=>(aC.mem_iff).trans (Hi h.ns hO hs e aD aU _ x)) (fun j x af au=>?_)
 ·rw[eo,k2 aJ]at ad
  have:=IA d.hs (T:=T) r;obtain⟨j,af,h1,ae⟩:=h.df.full (r:=r) (s:=q) (by omega);exact⟨j,af,by rw[h.df.Am af,h1,ae]⟩
 ·have mF:j<d.hs.length:=by omega
  have hu:=h.df.tx j mF;exact⟨d.hs[j].rep.toNat,e1 (d.hs.take j) d.hs[j].rep.toNat,hu.vw,by rw[h.df.Am mF,hu.seq,hu.G_]⟩
 ·have Cm:=af.1
  have aB:(eR d.hs).dot j∈jq (bJ t.saw) st ⟨key,cK⟩:=(Hi h.ns hO hs e aD aU _ _).2 ⟨j,af,rfl⟩;obtain⟨q,l9,jW,wB,jK⟩:=ac2 h.ns aB;have:j=q:=hO.inj j q (by omega) l9 jW;subst this;rw[jK];have CG:=au;have:(eR d.hs).wr j ⟨key,cK⟩=(dR key cK (e9 d.hs j).ops).map fun o=>⟨1,0,o.value⟩:=S2 hk _ (h.df.ok.ops _ (by rw[jf l9];exact eT l9))
  rw[this,Option.map_eq_some_iff]at CG;obtain⟨o,-,rfl⟩:=CG;unfold bG.gN;rw[au];rfl
theorem jw.apB (h:jw n i d st b8)(fa:d.hs.length<=2000000)(al:xu n d.hs t){s:ej}(hs:s∈st.bW)(e:s.saw=bJ t.saw)(hk:kindOf key=115)(a:ByteArray):
  (jq (bJ t.saw) st ⟨key,a⟩≠[]↔a∈setOf t.saw key d.hs)∧(jq (bJ t.saw) st ⟨key,a⟩≠[]->st.els key a=true):=by
 obtain⟨T,aD,dJ,aU,eo⟩:=h.at_ al;have hO:=h.df.fK fa;refine⟨?_,fun aA=>h.ns.els ⟨key,a⟩ hk fun c=>aA ?_⟩
 ·rw[aoW hk h.df.ok dJ aD a]
  constructor
  ·intro aA
   cases aC:jq (bJ t.saw) st ⟨key,a⟩with
   |nil=>exact absurd aC aA
   |cons x l=>
    obtain⟨j,af,-⟩:=(Hi h.ns hO hs e aD aU ⟨key,a⟩ x).1 (by rw[aC];simp);exact⟨j,af⟩
  ·rintro ⟨j,af⟩ aA
   have:=(Hi h.ns hO hs e aD aU ⟨key,a⟩ _).2 ⟨j,af,rfl⟩;rw[aA]at this;simp at this
 ·unfold jq;rw[c];rfl
end
end Go.Proofs.YtiplgdkpnhamaaaGreatDoor.Tv
namespace Go.Proofs.YtiplgdkpnhamaaaGreatDoor
open Go.Proofs.Tryz List
open Go.RowKit Go.Sort
variable {W w:World}
def CT (a b:Int):Int:=if a=0 then b else a
theorem abj (w:World)(g:Nat)(a b:Int)(c0:eh w g 0 (I a))(c1:eh w g 1 (I b)):
  Calls prog 202 #[bo g 2 2] w (bx (I (CT a b)) fun w'=>w'=w):=by
 have cM:Hid (a=0∨a≠0):=by unfold Hid;omega
 have bO:Hid (b=0∨b≠0):=by unfold Hid;omega
 go_enter func202,ntmps202;go_wp2_with fail
 go_loop [8] (fun i=>i=I 0∨(i=I 1∧Hid (a=0))∨(i=I 2∧Hid (a=0∧b=0))) (fun i=>2-(intOf i).toNat)
 case atStart=>exact Or.inl rfl
 case round=>
  rcases hrel with rfl|⟨rfl,h1⟩|⟨rfl,h1⟩
  ·rcases cM.o with h|h
   ·have e5:(a==0)=true:=by simp[h]
    have aO:=J h;clear h;go_wp2_with fail
    exact⟨Or.inr (Or.inl ⟨rfl,aO.o⟩),by simp[intOf]⟩
   ·have e5:(a==0)=false:=by simp[h]
    have aO:=J h;clear h;go_wp2_with fail
    go_ret;exact⟨om (by unfold CT;rw[if_neg aO.o]),rfl⟩
  ·rcases bO.o with h|h
   ·have e5:(b==0)=true:=by simp[h]
    have aO:=J h;clear h;go_wp2_with fail
    exact⟨Or.inr (Or.inr ⟨rfl,h1.o,aO.o⟩),by simp[intOf]⟩
   ·have e5:(b==0)=false:=by simp[h]
    clear h;go_wp2_with fail
    go_ret;exact⟨om (by unfold CT;rw[if_pos h1.o]),rfl⟩
  ·go_wp2_with fail
   go_ret;exact⟨om (by unfold CT;rw[if_pos h1.o.1,h1.o.2]),rfl⟩
abbrev hx (w:World):World->Prop:=fun W=>∃(q:Nat) (os:Array Obj),W=grow (w.drewN q) os
instance (w:World):Nonempty (dO (hx w)):=⟨⟨w,0,#[],by simp[World.drewN]⟩⟩
theorem hx.cell {p:Addr}{v:Value}(h:w.cell? p=some v)(f:dO (hx w)):f.w.cell? p=some v:=by
 obtain⟨q,os,e⟩:=f.ok;rw[e];exact cell_grown (hU w p h) h q os
theorem hx.of {dP:World}(h:hx w W)(e5:hx W dP):hx w dP:=by
 obtain⟨q,os,rfl⟩:=h;obtain⟨x_,am3,rfl⟩:=e5;refine⟨q+x_,os++am3,?_⟩;unfold grow World.drewN;simp[Array.append_assoc,Fl]
theorem hx.alloc (w:World)(o:Obj):hx w (w.alloc o):=⟨0,#[o],by rw[alloc_eq_grow];rfl⟩
theorem hx.drew (h:hx w W):hx w W.drew:=h.of ⟨1,#[],by rw[grow_empty];rfl⟩
theorem hx.refl (w:World):hx w w:=⟨0,#[],by simp[World.drewN]⟩
def yP (a b:bF):Int:=CT (Af a.rep b.rep) (Af a.seq b.seq)
theorem ZZ (a b:bF)(W:World):Calls prog 182 #[a.val,b.val] W (bx (I (yP a b)) fun w'=>hx W w'):=by
 obtain⟨rz,ry⟩:=a;obtain⟨g_,gR⟩:=b;generalize bj:(W.alloc (.cells #[I rz,I ry] 62)).alloc (.cells #[I g_,I gR] 62)=W0;have kB:hx W W0:=by rw[<-bj];exact(hx.alloc _ _).of (hx.alloc _ _)
 have bT:aQ W0 W.heap.size [I rz,I ry] 62:=by rw[<-bj];exact aQ.first W _ _ _
 have c6:aQ W0 (W.heap.size+1) [I g_,I gR] 62:=by rw[<-bj];exact aQ.second W _ _ _
 have c8:=hx.cell (show W0.cell? (aa (W.heap.size) 0)=some (I rz)from bT.cell 0);have dr:=hx.cell (show W0.cell? (aa (W.heap.size) 1)=some (I ry)from bT.cell 1);have dm:=hx.cell (show W0.cell? (aa (W.heap.size+1) 0)=some (I g_)from c6.cell 0);have dz:=hx.cell (show W0.cell? (aa (W.heap.size+1) 1)=some (I gR)from c6.cell 1);unfold yP;simp only;have cI:∀f:dO (hx W0),Calls prog 209 #[I rz,I g_] f.w fun e fv=>e= .returned (I (Af rz g_))∧∃g:dO (hx W0),fv=g.w:=fun f=>(V8 rz g_ f.w).mono fun e fv ⟨h1,ae⟩=>⟨h1,f,ae⟩
 have dq:∀f:dO (hx W0),Calls prog 209 #[I ry,I gR] f.w fun e fv=>e= .returned (I (Af ry gR))∧∃g:dO (hx W0),fv=g.w:=fun f=>(V8 ry gR f.w).mono fun e fv ⟨h1,ae⟩=>⟨h1,f,ae⟩
 obtain⟨p,aw⟩:∃p,Af rz g_=p:=⟨_,rfl⟩;obtain⟨q,ad⟩:∃q,Af ry gR=q:=⟨_,rfl⟩;rw[aw]at cI⊢;rw[ad]at dq⊢;have vM:=J cI;have PB:=J dq;have gO:=J kB;have di:=J bj;clear aw ad cI dq kB bT c6 bj;go_enter func182,ntmps182;go_wp2_with fail
 rw[di.o];refine kd (hx W0) 10 (by kernel_rfl) (by kernel_rfl) ((hx.refl _).drew) ?_;simp only[jC,ju,j4,jR];repeat(go_big_quiet_step (first|(go_at_call_of 209 (I rz);exact vM.o _)|(go_at_call_of 209 (I ry);exact PB.o _)))
 refine gG ?_;intro _ ds;obtain⟨fq,rfl⟩:=ds;obtain⟨bR,QH⟩:=fq;try dsimp only
 clear c8 dr dm dz;have o1:aQ (bR.alloc (.cells #[I p,I q] 3)) bR.heap.size [I p,I q] 3:=cC bR _;have y5:=abj (bR.alloc (.cells #[I p,I q] 3)) bR.heap.size p q (o1.cell 0) (o1.cell 1);have Pj:=J y5;clear y5 o1;go_wp2_with fail
 refine Pj.o.mono ?_;rintro e w2 ⟨rfl,rfl⟩;go_wp2_with fail
 go_ret;exact⟨rfl,(gO.o.of QH).of (hx.alloc _ _)⟩
end Go.Proofs.YtiplgdkpnhamaaaGreatDoor
