import Derived.Test.YtiplgdkpnhamaaaGreatDoorT17
import Derived.Test.YtiplgdkpnhamaaaGreatDoorT15
set_option maxHeartbeats 2000000
set_option maxRecDepth 100000
namespace Go.Proofs.YtiplgdkpnhamaaaGreatDoor
open Go.Proofs.Tryz List
open Go.RowKit
variable {N:Nat}{o:db}{op:List Value}
structure DL (w:World)(p:Nat->Own)(k e8 aV mb:Nat)(t:aT):Prop where
 U:fS w p (.tx k) aV [bl e8,I t.ops.length,.map (some mb)] 122
 oj:p mb= .own k
 own:cV w 129 mb t.ops.length Place.val cG.val (gz t.ops)
def lO (d:aZ)(tbs:Nat->Nat)(k:Nat):Value:=if(d.bH k).isSome then bl (tbs k)else .pointer none
def ux (d:aZ)(tbs:Nat->Nat):List Value:=[lO d tbs 0,lO d tbs 1,lO d tbs 2,lO d tbs 3,lO d tbs 4,lO d tbs 5]
section
variable {w w':World}{p p':Nat->Own}{b n i k:Nat}{d:aZ}{aE:Nat}{st:b5}{b8 tbs cX:Nat->Nat}{av aY:List Value}{t:aT}{e8 aV mb:Nat}
theorem DL.move (h:DL w p k e8 aV mb t)(hm:∀q,q<w.heap.size->p q≠.other->w'.heap[q]?=w.heap[q]?∧p' q=p q):DL w' p' k e8 aV mb t:=by
 have:=hm mb h.own.lt (by rw[h.oj];simp);exact⟨h.U.fp (fun q ad e=>by have:=hm q ad (by rw[e];simp);exact⟨this.1,this.2.trans e⟩),this.2.trans h.oj,h.own.move this.1⟩
theorem NS {d:aZ}{tbs:Nat->Nat}(hk:k<6):(ux d tbs)[k]?=some (lO d tbs k):=by
 have:k=0∨k=1∨k=2∨k=3∨k=4∨k=5:=by omega
 rcases this with rfl|rfl|rfl|rfl|rfl|rfl<;>rfl
end
def kn (u:Own):Prop:=u≠.other
theorem Ox {u:Own}(h:dN u):kn u:=fun e=>by rw[e]at h;exact h
theorem ab4 {i n:Int}{aE:Nat}{av aY:List Value}(h1:av.length=5)(ae:aY.length=25)(k:Nat)(x:Value):(nH i n aE av aY op).set (33+k) x=nH i n aE av aY (op.set k x):=by
 unfold nH;rw[set_append_right _ _ (by simp;omega)];congr 2;simp;omega
theorem am2 {d:aZ}{tbs:Nat->Nat}{k:Nat}{tE:Option aT}(hk:k<6)(aV:Nat):(ux d tbs).set k (if tE.isSome then bl aV else .pointer none)=ux {d with bH:=fP d.bH k tE} (fun q=>if q=k then aV else tbs q):=by
 have:k=0∨k=1∨k=2∨k=3∨k=4∨k=5:=by omega
 rcases this with rfl|rfl|rfl|rfl|rfl|rfl<;>simp[ux,lO,fP]
theorem am0 {d:aZ}{tbs:Nat->Nat}{k:Nat}(hk:k<6):(ux d tbs).set k (.pointer none)=ux {d with bH:=fP d.bH k none} tbs:=by
 have:k=0∨k=1∨k=2∨k=3∨k=4∨k=5:=by omega
 rcases this with rfl|rfl|rfl|rfl|rfl|rfl<;>simp[ux,lO,fP]
structure OZ (w:World)(p:Nat->Own)(k aE N e8 aV mb:Nat)(st:b5)(W:World)(eL:Nat->Own):Prop where
 hR:fR W eL aE N (wO st e8)
 G6:bA dN w p W eL
 tx:fS W eL (.tx k) aV [bl e8,I 0,.map (some mb)] 122
 oj:eL mb= .own k
 own:cV W 129 mb 0 Place.val cG.val (fun _=>none)
 fresh:w.heap.size<=e8
theorem FT {w an:World}{p dk:Nat->Own}{k aE:Nat}{st:b5}(dJ:fR an dk aE N (wO st w.heap.size))(ad:bA dN w p an dk):
  OZ w p k aE N w.heap.size (an.heap.size+1) an.heap.size st ((an.alloc (.map #[] 0)).alloc (.cells #[bl w.heap.size,I 0,.map (some an.heap.size)] 122)) (jQ (jQ dk an.heap.size (.own k)) (an.heap.size+1) (.tx k)):=by
 have cF:(an.alloc (.map #[] 0)).heap.size=an.heap.size+1:=by simp
 have ao:ax an ((an.alloc (.map #[] 0)).alloc (.cells #[bl w.heap.size,I 0,.map (some an.heap.size)] 122)):=((cj _ _)).alloc (by simp) _;have nA:∀q,q<an.heap.size->jQ (jQ dk an.heap.size (.own k)) (an.heap.size+1) (.tx k) q=dk q:=fun q ad=>by rw[qq (by omega),qq (by omega)]
 obtain⟨cg,bM,b6,bU,b4,bB,ah,h⟩:=dJ;refine⟨⟨cg,bM,b6,bU,b4,bB,ah,h.move fun q ad _=>⟨ao.block q ad,nA q ad⟩⟩,⟨ad.ay.then (Touch.dh ao),fun q iB=>(nA q (hV iB ad.size)).trans (ad.same q iB)⟩,⟨aQ.second an _ _ _,Bc _ _ _⟩,?_,?_,cv⟩
 ·rw[qq (by omega),Bc]
 ·exact(cV.made an 129 Place.val cG.val).move (iW _ _ _ (by simp))
theorem FR {w w2:World}{p eu:Nat->Own}{k aE:Nat}{st:b5}(dJ:fR w2 eu aE N (wO st (w.heap.size+1)))(ad:bA dN (w.alloc (.map #[] 0)) (jQ p w.heap.size (.own k)) w2 eu):
  OZ w p k aE N (w.heap.size+1) w2.heap.size w.heap.size st (w2.alloc (.cells #[bl (w.heap.size+1),I 0,.map (some w.heap.size)] 122)) (jQ eu w2.heap.size (.tx k)):=by
 have cF:(w.alloc (.map #[] 0)).heap.size=w.heap.size+1:=by simp
 have hle:=ad.size;have ao:ax w2 (w2.alloc (.cells #[bl (w.heap.size+1),I 0,.map (some w.heap.size)] 122)):=cj _ _;have nA:∀q,q<w2.heap.size->jQ eu w2.heap.size (.tx k) q=eu q:=fun q ad=>qq (by omega)
 have hm:eu w.heap.size= .own k:=by rw[ad.same _ (by omega),Bc]
 obtain⟨cg,bM,b6,bU,b4,bB,ah,h⟩:=dJ;have bK:cV w2 129 w.heap.size 0 Place.val cG.val (fun _=>none):=(cV.made w 129 Place.val cG.val).hP ad (by rw[Bc];simp[dN]);have eY:bA dN w p w2 eu:=⟨(Touch.dh ((cj _ _))).trans (ad.ay.mono fun q iB e=>by
   by_cases c:q<w.heap.size
   ·rw[qq (by omega)]at e;exact Or.inl e
   ·exact Or.inr (by omega)),fun q iB=>by rw[ad.same q (by omega),qq (by omega)]⟩
 exact⟨⟨cg,bM,b6,bU,b4,bB,ah,h.move fun q ad _=>⟨ao.block q ad,nA q ad⟩⟩,⟨eY.ay.then (Touch.dh ao),fun q iB=>(nA q (hV iB eY.size)).trans (eY.same q iB)⟩,⟨cC w2 _,Bc _ _ _⟩,by rw[qq (by omega)];exact hm,bK.move (iW _ _ _ bK.lt),by omega⟩
theorem akU (v0 v1 v2 v3 v4 v5:Value)(W:World):(Instr.index 112 (.agg #[v0,v1,v2,v3,v4,v5]) (I 0)).run prog W= .ok v0 W:=by kernel_rfl
theorem akV (v0 v1 v2 v3 v4 v5:Value)(W:World):(Instr.index 112 (.agg #[v0,v1,v2,v3,v4,v5]) (I 1)).run prog W= .ok v1 W:=by kernel_rfl
theorem akW (v0 v1 v2 v3 v4 v5:Value)(W:World):(Instr.index 112 (.agg #[v0,v1,v2,v3,v4,v5]) (I 2)).run prog W= .ok v2 W:=by kernel_rfl
theorem akX (v0 v1 v2 v3 v4 v5:Value)(W:World):(Instr.index 112 (.agg #[v0,v1,v2,v3,v4,v5]) (I 3)).run prog W= .ok v3 W:=by kernel_rfl
theorem akY (v0 v1 v2 v3 v4 v5:Value)(W:World):(Instr.index 112 (.agg #[v0,v1,v2,v3,v4,v5]) (I 4)).run prog W= .ok v4 W:=by kernel_rfl
theorem akZ (v0 v1 v2 v3 v4 v5:Value)(W:World):(Instr.index 112 (.agg #[v0,v1,v2,v3,v4,v5]) (I 5)).run prog W= .ok v5 W:=by kernel_rfl
theorem bA.OF {A:Own->Prop}{w w':World}{p p':Nat->Own}(h:bA A w.drew p w' p'):bA A w p w' p':=⟨⟨h.ay.os,h.ay.tape,h.ay.output,h.ay.size,h.ay.block⟩,h.same⟩
theorem afZ {d:aZ}(h:∀j,j<6->(d.bH j).isSome=true):tX d= .tuple #[I 0,I 5]∧pt d=d:=by
 have:¬ud d.bH<6:=by
  unfold ud;intro c;have:=findIdx_getElem (w:=by simpa using c) (xs:=List.range 6) (p:=fun k=>(d.bH k).isNone);simp only[getElem_range]at this;have ae:=h _ c;unfold ud at ae;cases e:d.bH (findIdx (fun k=>(d.bH k).isNone) (List.range 6))with
  |none=>rw[e]at ae;cases ae
  |some t=>rw[e]at this;cases this
 unfold tX pt;rw[if_neg this,if_neg this];exact⟨rfl,rfl⟩
theorem FU {d:aZ}{k:Nat}(hk:k<6)(h:∀j,j<k->(d.bH j).isSome=true)(bm:d.bH k=none):tX d= .tuple #[I k,I 0]∧pt d={d with bH:=fP d.bH k (some ⟨0,0,d.ag,[]⟩)}:=by
 have e:=Qw hk h bm;unfold tX pt;rw[if_pos (by omega),if_pos (by omega),e];exact⟨rfl,rfl⟩
theorem Tryz.Sf:(prog.info? 139).map (fun i=>(i.zero,i.size,i.bytes))=some (some (.agg #[I 0,I 0,I 0,I 0,I 0,I 0,I 0,.map none]),8,64):=by kernel_rfl
theorem am1 {d:aZ}{tbs:Nat->Nat}{k:Nat}{t ed:aT}(h:d.bH k=some t):ux {d with bH:=fP d.bH k (some ed)} tbs=ux d tbs:=by
 have e:∀j,lO {d with bH:=fP d.bH k (some ed)} tbs j=lO d tbs j:=fun j=>by
  unfold lO;by_cases c:j=k
  ·subst c;simp[fP,h]
  ·simp[fP,c]
 simp[ux,e]
theorem anm (h1:o.key.size<=maxLen)(ae:¬o.kind=1->o.value.size<=maxLen):(ht o).key.size<=maxLen∧(ht o).el.size<=maxLen:=by
 unfold ht;split
 ·exact⟨h1,NM⟩
 ·rename_i c;exact⟨h1,ae (fun e=>c (Or.inl e))⟩
theorem Nv (h:mx o):o.key.size<=8:=by
 by_cases c:1<=o.key.size∧o.key.size<=8
 ·exact c.2
 ·have:=h.key;rw[J_ c]at this;unfold kF at this;split at this
  ·omega
  ·split at this<;>omega
theorem acq {n:Nat}(h:n<=8):n<=maxLen:=by unfold maxLen;omega
def zF (d:aZ)(k:Nat)(t:aT)(o:db):aZ:=if 16<=t.ops.length then d else{d with bH:=fP d.bH k (some {t with ops:=t.ops++[o]})}
def pg (tE:Option aT)(tF:Int)(key val:ByteArray):Int:=
 match tE with
 |none=>4
 |some _=>if ¬kindOf key=tF then 2 else if 8<val.size then 3 else 0
theorem Wq {tE:Option aT}(hk:¬o.kind=1):h6 tE o=if pg tE (kF o.kind) o.key o.value=0 then(match tE with|none=>0|some t=>if 16<=t.ops.length then 5 else 0)else pg tE (kF o.kind) o.key o.value:=by
 cases tE with
 |none=>rfl
 |some t=>
  unfold h6 pg;simp only[hk,false_and,not_false_eq_true,true_and,false_or];by_cases c1:kindOf o.key=kF o.kind
  ·by_cases c2:8<o.value.size
   ·simp[c1,c2]
   ·simp[c1,c2]
  ·simp[c1]
theorem Wr {d:aZ}{k:Nat}{t:aT}(cu:du d k=some t)(hk:¬o.kind=1)(aM:pg (du d k) (kF o.kind) o.key o.value=0):h6 (du d k) o=(if 16<=t.ops.length then 5 else 0)∧jx d k o=zF d k t o:=by
 have eH:h6 (some t) o=if 16<=t.ops.length then 5 else 0:=by
  rw[Wq hk,if_pos (by rw[<-cu];exact aM)]
 refine⟨by rw[cu];exact eH,?_⟩;unfold jx zF;rw[cu];simp only;rw[eH];by_cases c:16<=t.ops.length
 ·rw[if_pos c,if_pos c,if_neg (by omega)]
 ·rw[if_neg c,if_neg c,if_pos rfl];rfl
theorem Wp {d:aZ}{tx:Int}(hk:¬o.kind=1)(hb:¬pg (du d tx) (kF o.kind) o.key o.value=0):h6 (du d tx) o=pg (du d tx) (kF o.kind) o.key o.value∧jx d tx o=d:=by
 have eH:h6 (du d tx) o=pg (du d tx) (kF o.kind) o.key o.value:=by rw[Wq hk,if_neg hb]
 refine⟨eH,?_⟩;unfold jx;cases cu:du d tx with
 |none=>rfl
 |some t=>
  rw[cu]at eH hb;simp only;rw[eH,if_neg hb]
theorem aqu {m:Place->Option cG}{q:Place}(h:∀x,m q=some x->x.kind=0):(k3 m q).cH=tV (m q):=by
 unfold k3 tV;cases e:m q with
 |none=>rfl
 |some x=>simp[h x e]
theorem amJ (w:World)(i n:Int)(h:py i n=false):Calls prog 48 #[I i,I n] w (bx (.tuple #[.pointer none,I 1]) fun w'=>ax w w'):=by
 have bm:=of_decide_eq_false h;clear h;by_cases c1:n<1
 ·clear bm
  go_enter func48,ntmps48;go_wp2_with fail
  go_ret2
  exact⟨rfl,cE⟩
 ·by_cases c2:5<n
  ·clear bm
   go_enter func48,ntmps48;go_wp2_with fail
   go_ret2
   exact⟨rfl,cE⟩
  ·by_cases c3:i<0
   ·clear bm
    go_enter func48,ntmps48;go_wp2_with fail
    go_ret2
    exact⟨rfl,cE⟩
   ·have c4:n<=i:=by omega
    clear bm;go_enter func48,ntmps48;go_wp2_with fail
    go_ret2
    exact⟨rfl,cE⟩
theorem Tryz.alb:(prog.info? 3).map (fun i=>(i.zero,i.size,i.bytes))=some (some (I 0),1,8):=by kernel_rfl
theorem agA (w:World)(g cap n:Nat)(xs:List Value)(hlen:xs.length=n*1)(Cb:∀j u,xs[j]?=some u->w.cell? (((aa g 0):Addr).add j)=some u)(h1:∀u∈xs,u.oneCell'=true)(aC:n<=1000000000):
  Calls prog 58 #[bo g n cap] w fun e w'=>∃v',e= .returned v'∧w'.ownsRow w.heap.size 3 1 v' n xs∧ax w w':=by
 have wy:=fun w a n c=>Lib.run_eql_slice_nil (P:=prog) w 44 3 a n c 0 0 underlying44
 obtain⟨i0,aq,dC,dM,dK⟩:=iV Tryz.alb;have dn:=J hlen;have Dp:Hid (∀j u,xs[j]?=some u->(w.alloc (.cells #[] 3)).cell? (((aa g 0):Addr).add j)=some u):=fun j u hu=>by
  have:=Cb j u hu;rw[Bj]at this⊢;rw[xb _ _ _ (hU w _ this)];exact this
 have bX:Hid ((w.alloc (.cells #[] 3)).ownsRow w.heap.size 3 1 (bo (w.heap.size) 0 0) 0 []):=⟨rfl,.inr ⟨w.heap.size,0,#[],rfl,cv,cC w _,cv,ch,rfl,rfl⟩⟩;clear hlen Cb;go_enter func58,ntmps58;go_wp2_with(at_builtin;refine tK _ rfl _ _ 44 rfl w.heap.size 3 i0 (I 0) 1 8 underlying44 aq dC dM dK rfl (by decide) _ 0 [] rfl bX.o (aa g 0) n cap xs rfl dn.o Dp.o h1 (by unfold maxLen;omega) (by omega) (by simp) ?_;intro v1 an hc iI qT kQ)
 go_ret;refine⟨v1,rfl,by simpa using hc,((cj _ _)).grown iI (by simp) (fun j af=>?_)⟩;cases af;exact cv
theorem aqd {l:List Int}{n:Nat}(aC:l.length=n)(hn:n<=5):[I (bJ l).a,I (bJ l).b,I (bJ l).c,I (bJ l).d,I (bJ l).e].take n=ints l:=by
 subst aC;match l,hn with
 |[],_=>rfl
 |[a],_=>rfl
 |[a,b],_=>rfl
 |[a,b,c],_=>rfl
 |[a,b,c,d],_=>rfl
 |[a,b,c,d,e],_=>rfl
 |a::b::c::d::e::f::l,h=>simp at h
theorem aqw (hs:List aT)(t:aT)(q:Place):(eR (hs++[t])).wr hs.length q=gz t.ops q:=by
 show gz (e9 (hs++[t]) hs.length).ops q=_
 rw[jf (by simp)];simp
theorem ab5 {i n:Int}{aE:Nat}{av aY:List Value}(h1:av.length=5)(r:Nat)(aJ:r<5)(x:Value):(nH i n aE av aY op).set (3+r) x=nH i n aE (av.set r x) aY op:=by
 unfold nH;rw[set_append_left _ _ (by simp;omega),set_append_left _ _ (by simp;omega),set_append_right _ _ (by simp)];congr 3;simp
end Go.Proofs.YtiplgdkpnhamaaaGreatDoor
