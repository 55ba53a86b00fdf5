import Derived.Test.YtiplgdkpnhamaaaGreatDoorT01
import Derived.Deep.RegionLaw
import Derived.Deep.DeepCutAuto
import Derived.Maps.AppendAt
import Derived.Test.YtiplgdkpnhamaaaGreatDoorProg
import Derived.Maps.OwnSet
import Derived.Maps.RangeWalk
import Derived.Laws.CopyRow
import Derived.BigRegion
set_option maxHeartbeats 10000000
set_option maxRecDepth 100000
namespace Go.Proofs.YtiplgdkpnhamaaaGreatDoor
open Go.Proofs.Tryz List
open Go.RowKit
variable {W an w2:World}{a id:Int}{cap lV g g2 gs k q s mL:Nat}{bw ah bD:Value}{ag:List Int}
theorem q6 {P:Program}{ops:Array Oper}{o:Oper}{a:Act}{w:World}{K:Act->World->Prop}{Q:Exit->Act->World->Prop}{E:Prop}
  (aM:o.guard=none)(s x:Operand)(t:TypeId)(eI:o.op=Op.call {callee:=Callee.builtin Builtin.append,args:= #[s,x],argTypes:= #[t,t]})
  (e:TypeId)(i:TypeInfo)(z:Value)(size bytes:Nat)(al:P.underlying t=some (.slice e))(aq:P.info? e=some i)(cF:i.zero=some z)
  (Ez:i.size=size)(Ec:i.bytes=bytes)(CI:z.cells.size=size)(fb:0<size)
  (v:Value)(n:Nat)(xs:List Value)(hs:a.eval s=v)(dd:w.ownsRow 0 e size v n xs)
  (BS:Addr)(m c:Nat)(news:List Value)(au:a.eval x= .slice (some BS) m c)(aC:news.length=m*size)(Cu:∀j u,news[j]?=some u->w.cell? (BS.add j)=some u)(h1:∀u∈news,u.oneCell'=true)
  (DZ:n+m<=maxLen)(Ed:(n+m)*bytes<=140737488355328)
  (cx:∀v' w',w'.ownsRow 0 e size v' (n+m) (xs++news)->w.grownBy w' v.ownBlock->(v'.ownBlock=v.ownBlock∨v'.ownBlock=some w.heap.size)->K (a.put o.dst v') w'):
  if Region.wanted o (yielded ops a.tmps)=true then Oper.wp P o a w K Q else E:=by
 have hw:Region.wanted o (yielded ops a.tmps)=true:=by simp[Region.wanted,aM]
 rw[if_pos hw];obtain⟨v',w',hd,cB,b_,-,iw⟩:=run_append_own_at (P:=P) w 0 t o.type e i z size bytes al aq cF Ez Ec CI fb v n xs dd BS m c news aC Cu h1 DZ Ed ch;unfold Oper.wp;simp[execOp,eI,resolve,invoke,builtin,hs,au,hd,Result.andThen];exact cx v' w' cB b_ iw
abbrev aQ (w:World)(b:Nat)(cs:List Value)(t:TypeId):Prop:=w.heap[b]?=some (.cells cs.toArray t (0,0))
theorem aQ.cell {w:World}{b:Nat}{cs:List Value}{t:TypeId}(h:aQ w b cs t)(j:Nat):w.cell? (aa b j)=cs[j]?:=by
 simp[World.cell?,h]
theorem aQ.c0 {w:World}{b:Nat}{t:TypeId}{x:Value}{l:List Value}(h:aQ w b (x::l) t):w.cell? ⟨b,0,none⟩=some x:=h.cell 0
theorem aQ.c1 {w:World}{b:Nat}{t:TypeId}{x c8:Value}{l:List Value}(h:aQ w b (c8::x::l) t):w.cell? ⟨b,1,none⟩=some x:=h.cell 1
theorem aQ.c2 {w:World}{b:Nat}{t:TypeId}{x c8 dr:Value}{l:List Value}(h:aQ w b (c8::dr::x::l) t):w.cell? ⟨b,2,none⟩=some x:=h.cell 2
theorem aQ.c3 {w:World}{b:Nat}{t:TypeId}{x c8 dr en:Value}{l:List Value}(h:aQ w b (c8::dr::en::x::l) t):w.cell? ⟨b,3,none⟩=some x:=h.cell 3
theorem aQ.c4 {w:World}{b:Nat}{t:TypeId}{x c8 dr en d_:Value}{l:List Value}(h:aQ w b (c8::dr::en::d_::x::l) t):w.cell? ⟨b,4,none⟩=some x:=h.cell 4
theorem aQ.c5 {w:World}{b:Nat}{t:TypeId}{x c8 dr en d_ ev:Value}{l:List Value}(h:aQ w b (c8::dr::en::d_::ev::x::l) t):w.cell? ⟨b,5,none⟩=some x:=h.cell 5
theorem aQ.iG {w:World}{b:Nat}{t:TypeId}{x c8 dr en d_ ev gv:Value}{l:List Value}(h:aQ w b (c8::dr::en::d_::ev::gv::x::l) t):w.cell? ⟨b,6,none⟩=some x:=h.cell 6
theorem aQ.hA {w:World}{b:Nat}{t:TypeId}{x c8 dr en d_ ev gv nf:Value}{l:List Value}(h:aQ w b (c8::dr::en::d_::ev::gv::nf::x::l) t):w.cell? ⟨b,7,none⟩=some x:=h.cell 7
theorem aQ.yN {w:World}{b:Nat}{t:TypeId}{x c8 dr en d_ ev gv nf wZ:Value}{l:List Value}(h:aQ w b (c8::dr::en::d_::ev::gv::nf::wZ::x::l) t):w.cell? ⟨b,8,none⟩=some x:=h.cell 8
theorem aQ.frozen {w:World}{b:Nat}{cs:List Value}{t:TypeId}(h:aQ w b cs t)(j:Nat):w.frozen? (aa b j)=false:=by
 simp[World.frozen?,h]
theorem aQ.lt {w:World}{b:Nat}{cs:List Value}{t:TypeId}(h:aQ w b cs t):b<w.heap.size:=(w6.1 h).1
theorem aQ.move {w w':World}{b:Nat}{cs:List Value}{t:TypeId}(h:aQ w b cs t)(e:w'.heap[b]?=w.heap[b]?):aQ w' b cs t:=e.trans h
theorem aQ.below {w w':World}{b:Nat}{cs:List Value}{t:TypeId}(h:aQ w b cs t)(hb:ax w w'):aQ w' b cs t:=h.move (hb.block b h.lt)
theorem aQ.ay {S:Nat->Prop}{w w':World}{b:Nat}{cs:List Value}{t:TypeId}(h:aQ w b cs t)(al:Touch S w w')(hs:¬S b):aQ w' b cs t:=h.move (al.block b h.lt hs)
theorem aQ.set {w:World}{b:Nat}{cs:List Value}{t:TypeId}(h:aQ w b cs t)(j:Nat)(v:Value):aQ (w.setCell (aa b j) v) b (cs.set j v) t:=by
 have:=heap_setCell_same w b j cs.toArray t v h;rw[aQ,this];simp
theorem aQ.alloc {w:World}{b:Nat}{cs:List Value}{t:TypeId}(h:aQ w b cs t)(o:Obj):aQ (w.alloc o) b cs t:=h.move (iW w o b h.lt)
theorem aQ.other {w:World}{b:Nat}{cs:List Value}{t:TypeId}(h:aQ w b cs t){p:Addr}(aw:b≠p.block)(v:Value):aQ (w.setCell p v) b cs t:=h.move (rb _ _ _ _ aw)
theorem Row.other {w:World}{e:TypeId}{size:Nat}{v:Value}{n:Nat}{xs:List Value}(h:Row w e size v n xs){p:Addr}(aw:¬v.ownBlock=some p.block)(u:Value):Row (w.setCell p u) e size v n xs:=
 Row.move h fun k hk=>rb _ _ _ _ (fun e=>aw (by rw[hk,e]))
theorem A0 {b:Nat}{cs:List Value}{t:TypeId}(h:aQ W b cs t):∀j u,cs[j]?=some u->W.cell? (((aa b 0):Addr).add j)=some u:=by
 intro j u hu;rw[Bj,vF,h.cell j,hu]
theorem SV (w:World)(o:Obj)(cs:List Value)(t:TypeId):∀j u,cs[j]?=some u->((w.alloc o).alloc (.cells cs.toArray t)).drew.cell? (((aa (w.heap.size+1) 0):Addr).add j)=some u:=by
 have h:aQ ((w.alloc o).alloc (.cells cs.toArray t)).drew (w.heap.size+1) cs t:=by
  have e:w.heap.size+1=(w.alloc o).heap.size:=by simp
  rw[e];exact cC (w.alloc o) (.cells cs.toArray t)
 exact A0 h
theorem Xl {w':World}{row:Option Nat}(aM:W.grownBy w' row){b j:Nat}{u:Value}(h:eh W b j u)(bm:W.frozen? (aa b j)=false)(bS:¬row=some b):
  w'.cell? (aa b j)=some u∧w'.frozen? (aa b j)=false:=by
 have hb:=aM.block b (hU W _ h) (fun e=>bS e.symm);exact⟨(xc hb).trans h,(World.frozen?_of_block hb).trans bm⟩
def putAt {α:Type}(l:List α)(k:Nat)(x:α):List α:=if k<l.length then l.set k x else l++[x]
def lX (xs:List cq):Nat:=xs.findIdx fun x=> !x.fA
theorem Mo {xs:List cq}(hk:k<=xs.length)(h:∀j (af:j<xs.length),j<k->xs[j].fA=true)(ae:∀(hk:k<xs.length),xs[k].fA=false):lX xs=k:=by
 unfold lX;by_cases aC:k<xs.length
 ·rw[findIdx_eq aC]
  exact⟨by simp[ae aC],fun j af=>by simp[h j (by omega) af]⟩
 ·have:k=xs.length:=by omega
  subst this;rw[findIdx_eq_length];intro x au;obtain⟨j,af,rfl⟩:=fQ.1 au;simp[h j af af]
theorem Qu {α:Type}(f:α->List Value)(l:List α)(a:α):(l++[a]).flatMap f=l.flatMap f++f a:=by simp
theorem uc {α:Type}(f:α->List Value)(s:Nat)(bm:∀a,(f a).length=s):∀(l:List α) (k j:Nat) (hk:k<l.length) (v:Value) (x:α),j<s->f x=(f l[k]).set j v->
  (l.flatMap f).set (k*s+j) v=(l.set k x).flatMap f
 |[],_,_,hk,_,_,_,_=>by simp at hk
 |a::l,0,j,_,v,x,af,au=>by
  rw[set_cons_zero,kf,kf,set_append_left _ _ (by rw[bm];omega),au];simp
 |a::l,k+1,j,hk,v,x,af,au=>by
  have ih:=uc f s bm l k j (by simpa using hk) v x af (by simpa using au);rw[set_cons_succ,kf,kf,set_append_right _ _ (by rw[bm,w4];omega),<-ih,bm];congr 2;rw[w4];omega
structure Lb (w w':World)(b:Nat)(id:Int)(bD v ah bw:Value)(ag:List Int)(xs:List cq)(k:Nat)(sv v':Value):Prop where
 U:aQ w' b [I id,bD,v',ah,bw] 165
 saw:w'.ownsRow w.heap.size 3 1 sv ag.length (ints ag)
 row:Row w' 217 5 v' (putAt xs k ⟨true,0,0,sv,.slice none 0 0⟩).length ((putAt xs k ⟨true,0,0,sv,.slice none 0 0⟩).flatMap cq.cells)
 own:∀q,v'.ownBlock=some q->v.ownBlock=some q∨w.heap.size<=q
 IE:∀q,v'.ownBlock=some q->¬sv.ownBlock=some q
 ay:Touch (fun q=>q=b∨v.ownBlock=some q) w w'
theorem abm {w w':World}{b:Nat}{e:TypeId}{size:Nat}{v:Value}{n:Nat}{xs:List Value}(h:w.ownsRow b e size v n xs)
  (hb:∀k,v.ownBlock=some k->w'.heap[k]?=w.heap[k]?):w'.ownsRow b e size v n xs:=by
 refine⟨h.1,?_⟩;rcases h.2 with hn|⟨g,cap,cur,rfl,aS,aM,rest⟩
 ·exact .inl hn
 ·exact .inr ⟨g,cap,cur,rfl,aS,by rw[hb g rfl];exact aM,rest⟩
theorem afW {w:World}{b:Nat}{v:Value}{xs:List cq}{o1 dx:Obj}
  (hb:aQ w b [I id,bD,v,ah,bw] 165)(p9:¬v.ownBlock=some b)(bf:Row w 217 5 v xs.length (xs.flatMap cq.cells))
  (aF:ax w an)(jl:an.ownsRow w.heap.size 3 1 (bo gs ag.length mL) ag.length (ints ag))
  (dd:w2.ownsRow 0 217 5 (bo g2 (xs.length+1) lV) (xs.length+1) (xs.flatMap cq.cells++[.bool true,I 0,I 0,bo gs ag.length mL,.slice none 0 0]))
  (ka:((an.alloc o1).alloc dx).drew.grownBy w2 v.ownBlock)
  (et:(bo g2 (xs.length+1) lV).ownBlock=v.ownBlock∨(bo g2 (xs.length+1) lV).ownBlock=some ((an.alloc o1).alloc dx).drew.heap.size):
  Lb w (w2.setCell (aa b 2) (bo g2 (xs.length+1) lV)) b id bD v ah bw ag xs xs.length (bo gs ag.length mL) (bo g2 (xs.length+1) lV):=by
 have bY:((an.alloc o1).alloc dx).drew.heap.size=an.heap.size+2:=by show((an.alloc o1).alloc dx).heap.size=_;simp
 have fi:v.ownBlock=some g2∨g2=an.heap.size+2:=by
  rcases et with h|h
  ·exact Or.inl h.symm
  ·rw[bY]at h;exact Or.inr (by simpa[Value.ownBlock]using h)
 have tn:∀q,v.ownBlock=some q->q<w.heap.size:=fun q ad=>Row.lt bf ad
 have MS:=jl.lt gs rfl;have ft:=hb.lt;have jX:=aF.size;have hold:∀q,q<an.heap.size->¬v.ownBlock=some q->w2.heap[q]?=an.heap[q]?:=fun q ad hn=>by
  rw[ka.block q (by rw[bY];omega) (fun e=>hn e.symm)];show((an.alloc o1).alloc dx).heap[q]?=_
  rw[iW _ _ _ (by simp;omega),iW _ _ _ ad]
 have e6:=(hb.below aF).move (hold b (by omega) p9);have n1:putAt xs xs.length (⟨true,0,0,bo gs ag.length mL,.slice none 0 0⟩:cq)=xs++[⟨true,0,0,bo gs ag.length mL,.slice none 0 0⟩]:=by simp[putAt]
 have um:¬g2=b:=by
  rcases fi with h|h
  ·intro e;exact p9 (e▸h)
  ·omega
 refine⟨e6.set 2 _,?_,?_,?_,?_,?_⟩
 ·refine abm jl fun q ad=>?_
  have Cw:q=gs:=by simpa[Value.ownBlock]using ad.symm
  subst Cw;rw[rb _ _ _ _ (by show q≠b;omega)];exact hold q MS.2 (fun h=>by have:=tn q h;omega)
 ·rw[n1,Qu]
  refine Row.other (w:=w2) ?_ (by simpa[Value.ownBlock]using um) _;rw[eN];exact dd
 ·intro q ad
  have Cw:q=g2:=by simpa[Value.ownBlock]using ad.symm
  subst Cw;rcases fi with h|h
  ·exact Or.inl h
  ·exact Or.inr (by omega)
 ·intro q ad hs
  have Cw:q=g2:=by simpa[Value.ownBlock]using ad.symm
  have RH:q=gs:=by simpa[Value.ownBlock]using hs.symm
  subst Cw;rcases fi with h|h
  ·have:=tn _ h;omega
  ·omega
 ·refine Touch.setCell (p:=(aa b 2)) ?_ (Or.inl (Or.inl rfl)) _
  refine Touch.grown (w:=((an.alloc o1).alloc dx).drew) ?_ ka (fun q ad=>Or.inl (Or.inr ad));exact(((Touch.dh aF).alloc o1).alloc dx).drew
theorem af1 {w:World}{b:Nat}{xs:List cq}{o:Obj}
  (hb:aQ w b [I id,bD,bo g xs.length cap,ah,bw] 165)(p9:¬(bo g xs.length cap).ownBlock=some b)
  (bf:Row w 217 5 (bo g xs.length cap) xs.length (xs.flatMap cq.cells))(hk:k<xs.length)
  (aF:ax w an)(jl:an.ownsRow w.heap.size 3 1 (bo gs ag.length mL) ag.length (ints ag)):
  Lb w ((((((an.setCell (aa g (k*5)) (.bool true)).setCell (aa g (k*5+1)) (I 0)).setCell (aa g (k*5+2)) (I 0)).setCell (aa g (k*5+3)) (bo gs ag.length mL)).setCell (aa g (k*5+4)) (.slice none 0 0)).alloc o).drew
   b id bD (bo g xs.length cap) ah bw ag xs k (bo gs ag.length mL) (bo g xs.length cap):=by
 have fW:g<w.heap.size:=Row.lt bf rfl;have MS:=jl.lt gs rfl;have um:¬g=b:=fun e=>p9 (by simp[Value.ownBlock,e])
 have n1:putAt xs k (⟨true,0,0,bo gs ag.length mL,.slice none 0 0⟩:cq)=xs.set k ⟨true,0,0,bo gs ag.length mL,.slice none 0 0⟩:=by simp[putAt,hk]
 have cB:=Row.below bf aF;have a0:=(ly cB (k*5+0) (.bool true)).1;rw[uc cq.cells 5 cq.k_ xs k 0 hk (.bool true) {xs[k]with fA:=true} (by omega) rfl]at a0;have cO:=(ly a0 (k*5+1) (I 0)).1;rw[uc cq.cells 5 cq.k_ _ k 1 (by simpa using hk) (I 0) {xs[k]with fA:=true,rep:=0} (by omega) (by simp[cq.cells])]at cO;have a2:=(ly cO (k*5+2) (I 0)).1;rw[uc cq.cells 5 cq.k_ _ k 2 (by simpa using hk) (I 0) {xs[k]with fA:=true,rep:=0,seq:=0} (by omega) (by simp[cq.cells])]at a2;have a3:=(ly a2 (k*5+3) (bo gs ag.length mL)).1;rw[uc cq.cells 5 cq.k_ _ k 3 (by simpa using hk) _ {xs[k]with fA:=true,rep:=0,seq:=0,sv:=bo gs ag.length mL} (by omega) (by simp[cq.cells])]at a3;have a4:=(ly a3 (k*5+4) (.slice none 0 0)).1;rw[uc cq.cells 5 cq.k_ _ k 4 (by simpa using hk) _ ⟨true,0,0,bo gs ag.length mL,.slice none 0 0⟩ (by omega) (by simp[cq.cells])]at a4;simp only[set_set]at a4;refine⟨?_,?_,?_,?_,?_,?_⟩
 ·refine aQ.alloc (w:=(((((an.setCell (aa g (k*5)) (.bool true)).setCell (aa g (k*5+1)) (I 0)).setCell (aa g (k*5+2)) (I 0)).setCell (aa g (k*5+3)) (bo gs ag.length mL)).setCell (aa g (k*5+4)) (.slice none 0 0))) ?_ o
  have bS:∀j,b≠((aa g j):Addr).block:=fun j e=>um e.symm
  exact((((((hb.below aF).other (bS _) _).other (bS _) _).other (bS _) _).other (bS _) _).other (bS _) _)
 ·refine abm (w:=an) jl fun q ad=>?_
  have Cw:q=gs:=by simpa[Value.ownBlock]using ad.symm
  subst Cw;show(World.alloc _ _).heap[q]?=_
  rw[iW _ _ _ (by simp;omega)];have bS:∀j,q≠((aa g j):Addr).block:=fun j e=>by have:q=g:=e;omega
  rw[rb _ _ _ _ (bS _),rb _ _ _ _ (bS _),rb _ _ _ _ (bS _),rb _ _ _ _ (bS _),rb _ _ _ _ (bS _)]
 ·rw[n1,k5]
  exact h2 a4 o
 ·exact fun q ad=>Or.inl ad
 ·intro q ad hs
  have Cw:q=g:=by simpa[Value.ownBlock]using ad.symm
  have RH:q=gs:=by simpa[Value.ownBlock]using hs.symm
  omega
 ·refine Touch.drew (Touch.alloc ?_ o)
  have aw:∀j,(fun q=>q=b∨(bo g xs.length cap).ownBlock=some q) ((aa g j):Addr).block∨w.heap.size<=((aa g j):Addr).block:=fun j=>Or.inl (Or.inr rfl)
  exact((((((Touch.dh aF).setCell (aw _) _).setCell (aw _) _).setCell (aw _) _).setCell (aw _) _).setCell (aw _) _)
structure Le (w w':World)(v:Value)(xs:List cq)(k:Nat)(ops:List db)(o:db)(pJ:Value):Prop where
 row:∀x,xs[k]?=some x->Row w' 217 5 v xs.length ((xs.set k {x with bU:=pJ}).flatMap cq.cells)
 ops:Row w' 171 4 pJ (ops++[o]).length ((ops++[o]).flatMap db.cells)
 own:∀x,xs[k]?=some x->∀q,pJ.ownBlock=some q->x.bU.ownBlock=some q∨w.heap.size<=q
 ay:∀x,xs[k]?=some x->Touch (fun q=>v.ownBlock=some q∨x.bU.ownBlock=some q) w w'
theorem ag5 {w:World}{xs:List cq}{ops:List db}{o:db}{o1:Option Addr}{nE:Nat}{EO sC:Obj}(hk:k<xs.length)(y3:xs[k].bU= .slice o1 ops.length nE)
  (bf:Row w 217 5 (bo g xs.length cap) xs.length (xs.flatMap cq.cells))
  (dd:w2.ownsRow 0 171 4 (bo g2 (ops.length+1) lV) (ops.length+1) (ops.flatMap db.cells++o.cells))
  (ka:((w.alloc EO).alloc sC).drew.grownBy w2 (Value.slice o1 ops.length nE).ownBlock)
  (et:(bo g2 (ops.length+1) lV).ownBlock=(Value.slice o1 ops.length nE).ownBlock∨(bo g2 (ops.length+1) lV).ownBlock=some ((w.alloc EO).alloc sC).drew.heap.size)
  (wk:¬(Value.slice o1 ops.length nE).ownBlock=(bo g xs.length cap).ownBlock):
  Le w (w2.setCell (aa g (k*5+4)) (bo g2 (ops.length+1) lV)) (bo g xs.length cap) xs k ops o (bo g2 (ops.length+1) lV):=by
 have bY:((w.alloc EO).alloc sC).drew.heap.size=w.heap.size+2:=by show((w.alloc EO).alloc sC).heap.size=_;simp
 have au:∀x,xs[k]?=some x->x=xs[k]:=fun x h=>by rw[hg hk]at h;exact(kt h).symm
 have fW:g<w.heap.size:=Row.lt bf rfl;have AH:¬(Value.slice o1 ops.length nE).ownBlock=some g:=wk;have hold:∀q,q<w.heap.size->¬(Value.slice o1 ops.length nE).ownBlock=some q->w2.heap[q]?=w.heap[q]?:=fun q ad hn=>by
  rw[ka.block q (by rw[bY];omega) (fun e=>hn e.symm)];show((w.alloc EO).alloc sC).heap[q]?=_
  rw[iW _ _ _ (by simp;omega),iW _ _ _ ad]
 have Nd:Row w2 217 5 (bo g xs.length cap) xs.length (xs.flatMap cq.cells):=Row.move bf fun q ad=>by
  have e:q=g:=by simpa[Value.ownBlock]using ad.symm
  subst e;exact hold q fW AH
 have fi:¬g2=g:=by
  intro e;rcases et with h|h
  ·exact AH (by rw[<-h,e];rfl)
  ·rw[bY]at h;simp[Value.ownBlock]at h;omega
 refine⟨?_,?_,?_,?_⟩
 ·intro x h
  have e:=au x h;subst e;have a:=(ly Nd (k*5+4) (bo g2 (ops.length+1) lV)).1;rw[uc cq.cells 5 cq.k_ xs k 4 hk _ {xs[k]with bU:=bo g2 (ops.length+1) lV} (by omega) (by simp[cq.cells])]at a;exact a
 ·rw[Qu,eN]
  exact Row.other (w:=w2) dd (by simpa[Value.ownBlock]using fi) _
 ·intro x h q ad
  have e:=au x h;subst e;rw[y3];rcases et with h|h
  ·left;rw[<-h];exact ad
  ·right;rw[bY]at h;rw[h]at ad;simp at ad;omega
 ·intro x h
  have e:=au x h;subst e;rw[y3];refine Touch.setCell (p:=(aa g (k*5+4))) ?_ (Or.inl (Or.inl rfl)) _;refine Touch.grown (w:=((w.alloc EO).alloc sC).drew) ?_ ka (fun q ad=>Or.inl (Or.inr ad));exact(((Touch.refl _ _).alloc EO).alloc sC).drew
theorem ag8 (w:World)(b:Nat)(v:Value)(xs:List cq)(tx:Int)(o:db)(hn:xs.length<=6)
  (av:eh w b 2 v)(bf:Row w 217 5 v xs.length (xs.flatMap cq.cells))(eI:kE xs tx=false):
  Calls prog 93 #[.pointer (some (aa b 0)),I tx,.agg #[I o.kind,ai o.key,ai o.value,I o.cH]] w (bx (I 4) fun w'=>ax w w'):=by
 have iq:(w.alloc (.cells #[I o.kind,ai o.key,ai o.value,I o.cH] 171)).cell? (aa b 2)=some v:=by
  rw[xb _ _ _ (hU w _ av)];exact av
 have bc:=J (bf.alloc (.cells #[I o.kind,ai o.key,ai o.value,I o.cH] 171));have ff:=J iq;clear bf av iq;go_enter func93,ntmps93;go_wp2_with fail
 refine(uw _ b v xs tx (by omega) ff.o bc.o).mono ?_;rintro e an ⟨rfl,rfl⟩;go_wp2_with fail
 go_ret;exact⟨rfl,(cj _ _)⟩
theorem aaW {b:Int}(h:a=b):(a !=b)=false:=by simp[h]
theorem amE {b:Int}(h:¬a=b):(a !=b)=true:=by simp[h]
theorem an1 (w:World)(b:Nat)(v:Value)(xs:List cq)(k:Nat)(kind:Int)(key val:ByteArray)(cH:Int)(ops:List db)(hn:xs.length<=6)(hk:k<xs.length)(hb:b<w.heap.size)(eC:key.size<=maxLen)(PM:val.size<=maxLen)
  (av:eh w b 2 v)(bf:Row w 217 5 v xs.length (xs.flatMap cq.cells))(eI:xs[k].fA=true)(afh:ops.length<=16)
  (oG:Row w 171 4 xs[k].bU ops.length (ops.flatMap db.cells))(AL:kind=1∨kind=2∨kind=3∨kind=4)(r:Int)
  (aJ:(r=2∧¬kindOf key=kF kind)∨(kindOf key=kF kind∧((r=3∧((kind=1∧(cH< -1000000∨1000000<cH))∨(¬kind=1∧8<val.size)))∨(r=5∧¬((kind=1∧(cH< -1000000∨1000000<cH))∨(¬kind=1∧8<val.size))∧16<=ops.length)))):
  Calls prog 93 #[.pointer (some (aa b 0)),I k,.agg #[I kind,ai key,ai val,I cH]] w (bx (I r) fun w'=>ax w w'):=by
 obtain⟨g,cap,rfl,gg,hm,aM,aA,bm⟩:=bf.pos (by omega);have bd:=aA (k*5+4) (by omega);rw[hC _ 5 cq.k_ _ _ _ hk (by omega)]at bd;simp only[cq.cells,jg,kK]at bd;have cw:Hid (kE xs k=true):=by simp[Hid,kE,hk,eI]
 obtain⟨o1,nE,y3,akb,akd,-⟩:=oG.shape;rw[y3]at bd oG;have h4:=J oG;have ff:Hid ((w.alloc (.cells #[I kind,ai key,ai val,I cH] 171)).cell? (aa b 2)=some (bo g xs.length cap)):=by
  unfold Hid;rw[xb _ _ _ hb];exact av
 have bc:=J (bf.alloc (.cells #[I kind,ai key,ai val,I cH] 171));have ew:=J bf;have Lv:=J y3;clear bf aA oG eI y3;unfold maxLen at PM;rcases AL with rfl|rfl|rfl|rfl<;>rcases aJ with⟨rfl,nx⟩|⟨nx,⟨rfl,ta⟩|⟨rfl,ta,oW⟩⟩
 all_goals try rcases ta with⟨c0,ta|ta⟩|⟨c0,ta⟩
 all_goals try(exfalso;omega)
 all_goals try(have q1: -1000000<=cH:=by omega)
 all_goals try(have dy:cH<=1000000:=by omega)
 all_goals try(have fE:val.size<=8:=by omega)
 all_goals(simp only[show kF 1=99 from rfl,show kF 2=114 from rfl,show kF 3=115 from rfl,show kF 4=115 from rfl]at nx;first|have YU:=aaW nx|have YU:=amE nx)
 all_goals(clear nx;go_enter func93,ntmps93)
 all_goals go_wp2_with fail
 all_goals refine(uw _ b _ xs k (by omega) ff.o bc.o).mono ?_
 all_goals(rintro e an ⟨he,rfl⟩;rw[cw.o]at he;subst he;go_wp2_with fail)
 all_goals refine(EH key _ eC).mono ?_
 all_goals(rintro e w2 ⟨rfl,rfl⟩;generalize kindOf key=mH at*;go_wp2_with fail)
 all_goals go_ret
 all_goals exact⟨rfl,(cj _ _)⟩
abbrev Tag:=Nat×Nat×Nat
def ee (o:Nat->Tag)(b:Nat)(t:Tag):Nat->Tag:=fun q=>if q=b then t else o q
theorem Hl (o:Nat->Tag)(b:Nat)(t:Tag):ee o b t b=t:=by simp[ee]
theorem sL {o:Nat->Tag}{b:Nat}{t:Tag}(h:q≠b):ee o b t q=o q:=by simp[ee,h]
structure b3 (w:World)(o:Nat->Tag)(t:Tag)(e:TypeId)(size:Nat)(v:Value)(n:Nat)(xs:List Value):Prop where
 row:Row w e size v n xs
 tag:∀q,v.ownBlock=some q->o q=t
structure cP (w:World)(o:Nat->Tag)(t:Tag)(b:Nat)(cs:List Value)(ty:TypeId):Prop where
 U:aQ w b cs ty
 tag:o b=t
structure ct (A:Tag->Prop)(w:World)(o:Nat->Tag)(w':World)(o':Nat->Tag):Prop where
 ay:Touch (fun q=>A (o q)) w w'
 same:∀q,q<w.heap.size->o' q=o q
theorem ct.refl (A:Tag->Prop)(w:World)(o:Nat->Tag):ct A w o w o:=⟨Touch.refl _ _,fun _ _=>rfl⟩
theorem ct.trans {A:Tag->Prop}{w:World}{o o1 dx:Nat->Tag}(h:ct A w o an o1)(k:ct A an o1 w2 dx):ct A w o w2 dx:=by
 refine⟨h.ay.trans (k.ay.mono fun q ad aU=>?_),fun q ad=>(k.same q (hV ad h.ay.size)).trans (h.same q ad)⟩;by_cases hw:q<w.heap.size
 ·rw[h.same q hw]at aU;exact Or.inl aU
 ·exact Or.inr (by omega)
theorem ct.mono {A B:Tag->Prop}{w:World}{o o1:Nat->Tag}(h:ct A w o an o1)(hs:∀t,A t->B t):ct B w o an o1:=⟨h.ay.mono fun _ _ aU=>hs _ aU,h.same⟩
theorem ct.size {A:Tag->Prop}{w:World}{o o1:Nat->Tag}(h:ct A w o an o1):w.heap.size<=an.heap.size:=h.ay.size
theorem ct.drew {A:Tag->Prop}{w:World}{o o1:Nat->Tag}(h:ct A w o an o1):ct A w o an.drew o1:=⟨h.ay.drew,h.same⟩
theorem ct.alloc {A:Tag->Prop}{w:World}{o o1:Nat->Tag}(h:ct A w o an o1)(b:Obj):ct A w o (an.alloc b) o1:=⟨h.ay.alloc b,h.same⟩
theorem ct.set {A:Tag->Prop}{w:World}{o o1:Nat->Tag}{p:Addr}(h:ct A w o an o1)(aw:A (o1 p.block))(u:Value):ct A w o (an.setCell p u) o1:=by
 refine⟨h.ay.setCell ?_ u,h.same⟩;by_cases hw:p.block<w.heap.size
 ·rw[h.same _ hw]at aw;exact Or.inl aw
 ·exact Or.inr (by omega)
theorem ct.dw {A:Tag->Prop}{w:World}{o o1:Nat->Tag}{row:Option Nat}{t:Tag}(h:ct A w o an o1)(aM:an.grownBy w2 row)(aJ:∀q,row=some q->o1 q=t)(al:A t):ct A w o w2 (ee o1 an.heap.size t):=by
 refine⟨h.ay.grown aM fun q ad=>?_,fun q ad=>?_⟩
 ·by_cases hw:q<w.heap.size
  ·left
   have e:=aJ q ad;rw[h.same q hw]at e;rw[e];exact al
  ·exact Or.inr (by omega)
 ·rw[sL (by have:=h.ay.size;omega)];exact h.same q ad
theorem ct.below {A:Tag->Prop}{w:World}{o o1:Nat->Tag}(h:ct A w o an o1)(hb:ax an w2):ct A w o w2 o1:=
 ⟨h.ay.trans (Touch.dh hb),h.same⟩
def gX (o:Nat->Tag)(s:Nat)(f:Nat->Tag):Nat->Tag:=fun q=>if q<s then o q else f q
theorem nF {o f:Nat->Tag}(h:q<s):gX o s f q=o q:=by simp[gX,h]
theorem qj {o f:Nat->Tag}(h:s<=q):gX o s f q=f q:=by simp[gX,show ¬q<s by omega]
theorem ct.af2 {A:Tag->Prop}{w:World}{o o1:Nat->Tag}(h:ct A w o an o1)(hb:ax an w2)(f:Nat->Tag):ct A w o w2 (gX o1 an.heap.size f):=
 ⟨h.ay.trans (Touch.dh hb),fun q ad=>by rw[nF (by have:=h.ay.size;omega)];exact h.same q ad⟩
variable {w w':World}{o:Nat->Tag}{t ed:Tag}{e dI:TypeId}{size aoY n n' b hz:Nat}{v v' u:Value}{xs Fb cs:List Value}{ty:TypeId}
theorem b3.lt (h:b3 w o t e size v n xs)(ad:v.ownBlock=some q):q<w.heap.size:=h.row.lt ad
theorem b3.move {o':Nat->Tag}(h:b3 w o t e size v n xs)(hb:∀q,q<w.heap.size->o q=t->w'.heap[q]?=w.heap[q]?)(cu:∀q,q<w.heap.size->o' q=o q):b3 w' o' t e size v n xs:=
 ⟨h.row.move fun k hk=>hb k (h.lt hk) (h.tag k hk),fun q ad=>by rw[cu q (h.lt ad)];exact h.tag q ad⟩
theorem cP.move {o':Nat->Tag}(h:cP w o t b cs ty)(hb:∀q,q<w.heap.size->o q=t->w'.heap[q]?=w.heap[q]?)(cu:∀q,q<w.heap.size->o' q=o q):cP w' o' t b cs ty:=
 ⟨h.U.move (hb b h.U.lt h.tag),by rw[cu b h.U.lt];exact h.tag⟩
theorem b3.ay {A:Tag->Prop}{o':Nat->Tag}(h:b3 w o t e size v n xs)(k:ct A w o w' o')(al:¬A t):b3 w' o' t e size v n xs:=
 h.move (fun q ad e=>k.ay.block q ad (by rw[e];exact al)) k.same
theorem cP.ay {A:Tag->Prop}{o':Nat->Tag}(h:cP w o t b cs ty)(k:ct A w o w' o')(al:¬A t):cP w' o' t b cs ty:=
 h.move (fun q ad e=>k.ay.block q ad (by rw[e];exact al)) k.same
theorem b3.dw {row:Option Nat}(h:b3 w o t e size v n xs)(aM:w.grownBy w' row)(aJ:∀q,row=some q->o q=ed)(bS:t≠ed):b3 w' (ee o w.heap.size ed) t e size v n xs:=
 h.move (fun q ad e=>aM.block q ad (fun c=>bS (by rw[<-e,aJ q c.symm]))) (fun q ad=>sL (by omega))
theorem cP.dw {row:Option Nat}(h:cP w o t b cs ty)(aM:w.grownBy w' row)(aJ:∀q,row=some q->o q=ed)(bS:t≠ed):cP w' (ee o w.heap.size ed) t b cs ty:=
 h.move (fun q ad e=>aM.block q ad (fun c=>bS (by rw[<-e,aJ q c.symm]))) (fun q ad=>sL (by omega))
theorem b3.app (h:b3 w o t e size v n xs)(bf:w'.ownsRow 0 e size v' n' Fb)(et:v'.ownBlock=v.ownBlock∨v'.ownBlock=some w.heap.size):b3 w' (ee o w.heap.size t) t e size v' n' Fb:=by
 refine⟨bf,fun q ad=>?_⟩;rcases et with a|a
 ·have iB:v.ownBlock=some q:=by rw[<-a];exact ad
  rw[sL (by have:=h.lt iB;omega)];exact h.tag q iB
 ·rw[a]at ad;cases ad;exact Hl _ _ _
theorem b3.set (h:b3 w o t e size v n xs){p:Addr}(aw:o p.block=ed)(bS:t≠ed)(x:Value):b3 (w.setCell p x) o t e size v n xs:=
 ⟨h.row.other (fun c=>bS (by rw[<-h.tag _ c,aw])) x,h.tag⟩
theorem cP.other (h:cP w o t b cs ty){p:Addr}(aw:o p.block=ed)(bS:t≠ed)(x:Value):cP (w.setCell p x) o t b cs ty:=
 ⟨h.U.other (fun c=>bS (by rw[<-h.tag,c,aw])) x,h.tag⟩
theorem cP.set (h:cP w o t b cs ty)(j:Nat)(x:Value):cP (w.setCell (aa b j) x) o t b (cs.set j x) ty:=⟨h.U.set j x,h.tag⟩
theorem b3.alloc (h:b3 w o t e size v n xs)(bE:Obj):b3 (w.alloc bE) o t e size v n xs:=⟨h2 h.row bE,h.tag⟩
theorem cP.alloc (h:cP w o t b cs ty)(bE:Obj):cP (w.alloc bE) o t b cs ty:=⟨h.U.alloc bE,h.tag⟩
theorem b3.drew (h:b3 w o t e size v n xs):b3 w.drew o t e size v n xs:=⟨h.row,h.tag⟩
theorem cP.drew (h:cP w o t b cs ty):cP w.drew o t b cs ty:=⟨h.U,h.tag⟩
theorem b3.below (h:b3 w o t e size v n xs)(hb:ax w w'):b3 w' o t e size v n xs:=⟨h.row.below hb,h.tag⟩
theorem cP.below (h:cP w o t b cs ty)(hb:ax w w'):cP w' o t b cs ty:=⟨h.U.below hb,h.tag⟩
theorem b3.new {f:Nat->Tag}(h:w.ownsRow s e size v n xs)(bm:∀q,v.ownBlock=some q->f q=t):b3 w (gX o s f) t e size v n xs:=
 ⟨e3 h ch,fun q ad=>by rw[qj (h.lt q ad).1];exact bm q ad⟩
end Go.Proofs.YtiplgdkpnhamaaaGreatDoor
namespace Go.Proofs.YtiplgdkpnhamaaaGreatDoor
open Go.Proofs.Tryz List
open Go.RowKit
open Go.Maps (Keyed)
variable {P:Program}{cap clock g q s:Nat}{F4:List Value}{bE:Obj}{Hk:TypeId}{v1 z:Value}{an w2:World}
def zq (v:Value):Option (DataW Value×List MemPlace):=some (.held v,[])
structure cV {α β:Type}(w:World)(k:TypeId)(b n:Nat)(ah:α->Value)(bB:β->Value)(m:α->Option β):Prop where
 ex:∃D,w.ownsMap prog k zq b n D∧(∀a cQ,keyOf prog k (ah a)=some cQ->Maps.has D cQ=(m a).isSome∧∀x,m a=some x->∀z,D.atKey cQ z= .held (bB x))∧∀cQ,Maps.has D cQ=true->∃a x,keyOf prog k (ah a)=some cQ∧m a=some x
section
variable {α β:Type}{w w':World}{k t e:TypeId}{b n:Nat}{ah:α->Value}{bB:β->Value}{m:α->Option β}
theorem cV.lt (h:cV w k b n ah bB m):b<w.heap.size:=by obtain⟨D,cy,-⟩:=h.ex;exact cy.lt
theorem cV.move (h:cV w k b n ah bB m)(hb:w'.heap[b]?=w.heap[b]?):cV w' k b n ah bB m:=by
 obtain⟨D,⟨es,clock,h1,ae⟩,r⟩:=h.ex;exact⟨D,⟨es,clock,hb.trans h1,ae⟩,r⟩
theorem cV.made (w:World)(k:TypeId)(ah:α->Value)(bB:β->Value):cV (w.alloc (.map #[] 0)) k w.heap.size 0 ah bB (fun _=>none):=
 ⟨_,World.ownsMap_made w prog k zq,fun a cQ _=>⟨rfl,fun x au=>by cases au⟩,fun cQ hk=>by simp[Maps.has]at hk⟩
theorem cV.lookup (h:cV w k b n ah bB m)(K:Keyed prog k)(al:prog.underlying t=some (.map k e))(cF:(zeroValue e).run prog w= .ok z w){a:α}{cQ:Lit}(eC:keyOf prog k (ah a)=some cQ):
  (Instr.lookup t (.map (some b)) (ah a) false).run prog w= .ok ((m a).elim z bB) w:=by
 obtain⟨D,cy,et,-⟩:=h.ex;obtain⟨v,ps,hd,av⟩:=cy.lookup K al cF (zd:= .held z) (zp:=[]) rfl eC;obtain⟨h1,ae⟩:=et a cQ eC;have aP:DataW.held v=D.atKey cQ (.held z):=congrArg Prod.fst (kt av);rw[hd];cases hm:m a with
 |none=>
  rw[hm]at h1;rw[Maps.atKey_of_not_has h1]at aP;cases aP;rfl
 |some x=>
  rw[ae x hm]at aP;cases aP;rfl
theorem cV.amd (h:cV w k b n ah bB m)(K:Keyed prog k)(al:prog.underlying t=some (.map k e))(cF:(zeroValue e).run prog w= .ok z w){a:α}{cQ:Lit}(eC:keyOf prog k (ah a)=some cQ):
  (Instr.lookup t (.map (some b)) (ah a) true).run prog w= .ok (.tuple #[(m a).elim z bB,.bool (m a).isSome]) w:=by
 obtain⟨D,cy,et,-⟩:=h.ex;obtain⟨v,ps,hd,av⟩:=cy.look_ok K al cF (zd:= .held z) (zp:=[]) rfl eC;obtain⟨h1,ae⟩:=et a cQ eC;have aP:DataW.held v=D.atKey cQ (.held z):=congrArg Prod.fst (kt av);rw[hd,h1];cases hm:m a with
 |none=>
  rw[hm]at h1;rw[Maps.atKey_of_not_has h1]at aP;cases aP;rfl
 |some x=>
  rw[ae x hm]at aP;cases aP;rfl
theorem cV.store [DecidableEq α](h:cV w k b n ah bB m)(K:Keyed prog k)(al:prog.underlying t=some (.map k e))(xS:∀a cf,ah a=ah cf->a=cf)(hn:n<maxLen){a:α}{cQ:Lit}(eC:keyOf prog k (ah a)=some cQ)(x:β):
  ∃w',(Instr.mapUpdate t (.map (some b)) (ah a) (bB x)).run prog w= .ok () w'∧cV w' k b (n+1) ah bB (fun cf=>if cf=a then some x else m cf)∧w.grownBy w' (some b):=by
 obtain⟨D,cy,et,gn⟩:=h.ex;obtain⟨w',hd,I6,aM⟩:=cy.update K al hn (d:= .held (bB x)) (ps:=[]) eC rfl;refine⟨w',hd,⟨_,I6,fun cf oc gi=>?_,fun oc dQ=>?_⟩,aM⟩
 ·by_cases c:cf=a
  ·subst c
   rw[eC]at gi;cases gi;rw[if_pos rfl];refine⟨Maps.has_put_same cy.isMap (K.key eC) _,fun y b9 z=>?_⟩;cases b9;exact Maps.atKey_put_same cy.isMap (K.key eC) _ _
  ·have bS:oc≠cQ:=fun e=>c (xS _ _ (K.inj gi (e▸eC)))
   rw[if_neg c,Maps.has_put_other bS];obtain⟨h1,ae⟩:=et cf oc gi;refine⟨h1,fun y b9 z=>?_⟩;rw[Maps.atKey_put_other bS];exact ae y b9 z
 ·by_cases c:oc=cQ
  ·subst c;exact⟨a,x,eC,by rw[if_pos rfl]⟩
  ·rw[Maps.has_put_other c]at dQ
   obtain⟨cf,y,vc,b9⟩:=gn oc dQ;refine⟨cf,y,vc,?_⟩;rw[if_neg (fun e=>c (by rw[e,eC]at vc;exact(kt vc).symm))];exact b9
theorem cV.drop [DecidableEq α](h:cV w k b n ah bB m)(K:Keyed prog k)(al:prog.underlying t=some (.map k e))(xS:∀a cf,ah a=ah cf->a=cf){a:α}{cQ:Lit}(eC:keyOf prog k (ah a)=some cQ)(ty:TypeId):
  ∃w',(Builtin.delete_ #[t,k] ty #[.map (some b),ah a]).run prog w= .ok (.tuple #[]) w'∧cV w' k b n ah bB (fun cf=>if cf=a then none else m cf)∧w.grownBy w' (some b):=by
 obtain⟨D,cy,et,gn⟩:=h.ex;obtain⟨w',hd,I6,aM⟩:=cy.drop K al eC ty;refine⟨w',hd,⟨_,I6,fun cf oc gi=>?_,fun oc dQ=>?_⟩,aM.grown⟩
 ·by_cases c:cf=a
  ·subst c
   rw[eC]at gi;cases gi;rw[if_pos rfl];exact⟨Maps.has_del_same,fun y b9=>by cases b9⟩
  ·have bS:oc≠cQ:=fun e=>c (xS _ _ (K.inj gi (e▸eC)))
   rw[if_neg c,Maps.has_del_other bS];obtain⟨h1,ae⟩:=et cf oc gi;refine⟨h1,fun y b9 z=>?_⟩;rw[Maps.atKey_del_other bS];exact ae y b9 z
 ·by_cases c:oc=cQ
  ·subst c;rw[Maps.has_del_same]at dQ;cases dQ
  ·rw[Maps.has_del_other c]at dQ
   obtain⟨cf,y,vc,b9⟩:=gn oc dQ;refine⟨cf,y,vc,?_⟩;rw[if_neg (fun e=>c (by rw[e,eC]at vc;exact(kt vc).symm))];exact b9
end
open Go.ChangeMaps Go.MapKept
open Go.WideElems (Fit)
theorem amv {α:Type}(xs:Array α)(j:Nat)(f:α->α)(x:α)(au:xs[j]?=some x)(bm:f x=x):xs.modify j f=xs:=by
 apply K7;intro i;rw[Hu];by_cases c:j=i
 ·subst c;rw[if_pos rfl,au];simp[bm]
 ·rw[if_neg c]
theorem find_born {es:Array MapEntry}{j:Nat}{eo:MapEntry}(af:es[j]?=some eo)(hn:(es.toList.map (·.born)).Nodup):es.findIdx? (fun e=>(e.born:Int)==(eo.born:Int))=some j:=by
 obtain⟨aC,he⟩:=w6.1 af;rw[Array.findIdx?_eq_some_iff_getElem];refine⟨aC,by simp[he],fun i aq=>?_⟩;simp only[Bool.not_eq_true,Bg,ne_eq];intro c;have th:i<es.size:=by omega
 have aw:=vD.1 hn i j (by simpa using th) (by simpa using aC) aq;simp only[getElem_map,Bk,he]at aw;omega
theorem ahO {es:Array MapEntry}{x:MapEntry}(hb:∀y∈es.toList,y.born<clock)(au:x.born=clock):(es.push x).findIdx? (fun e=>(e.born:Int)==(clock:Int))=some es.size:=by
 rw[Array.findIdx?_eq_some_iff_getElem];refine⟨by simp,by simp[au],fun i aq=>?_⟩;simp only[Bool.not_eq_true,Bg,ne_eq,Array.getElem_push_lt aq];have:=hb es[i] (by simp);omega
theorem amu (es:Array MapEntry)(x:MapEntry)(f:MapEntry->MapEntry):(es.push x).modify es.size f=es.push (f x):=by
 apply K7;intro i;rw[Hu,Array.getElem?_push,Array.getElem?_push];by_cases c:es.size=i
 ·subst c;simp
 ·rw[if_neg c];rw[if_neg (fun e=>c e.symm),if_neg (fun e=>c e.symm)]
section
variable {α β:Type}{w:World}{k t e:TypeId}{b n:Nat}{ah:α->Value}{bB:β->Value}{m:α->Option β}
theorem Ov {w:World}{b:Nat}{es:Array MapEntry}{o:Obj}(hb:w.heap[b]?=some (.map es clock)):w.grownBy (setBlock w b o) (some b):=
 ⟨rfl,rfl,rfl,by simp[setBlock],fun i _ aq=>heap_setBlock_other hb _ (fun e=>aq (by rw[e]))⟩
theorem cV.entry [DecidableEq α](h:cV w k b n ah bB m)(K:Keyed prog k)(al:prog.underlying t=some (.map k e))(xS:∀a cf,ah a=ah cf->a=cf)(cF:(zeroValue e).run prog w= .ok z w)(hn:n<maxLen){a:α}{cQ:Lit}(eC:keyOf prog k (ah a)=some cQ):
  ∃(an:World) (st:Nat),(Instr.mapEntry t (.map (some b)) (ah a)).run prog w= .ok (.tuple #[(m a).elim z bB,I st]) an∧w.grownBy an (some b)∧
   ∀(W:World),W.heap[b]?=an.heap[b]?->∀x:β,∃W2,(Instr.entryStore t (.map (some b)) (I st) (bB x)).run prog W= .ok () W2∧cV W2 k b (n+1) ah bB (fun cf=>if cf=a then some x else m cf)∧W.grownBy W2 (some b):=by
 have Y1:=h.lookup K al cF eC;have a1:=fun x=>h.store K al xS hn eC x
 obtain⟨D,⟨es,clock,hb,F,hs,cy⟩,-⟩:=h.ex;rcases K.find w eC es.toList F.keys with⟨h1,ae⟩|⟨j,eo,h1,ae,aH⟩
 ·have av:(m a).elim z bB=z:=by
   have:(Instr.lookup t (.map (some b)) (ah a) false).run prog w= .ok z w:=by
    simp[Instr.lookup,Bh al,Dc hb,K.check w _ eC,h1,cF,Result.andThen]
   rw[Y1]at this;exact(Result.ok.inj this).1
  refine⟨setBlock w b (.map (es.push ⟨ah a,z,clock⟩) (clock+1)),clock,?_,Ov hb,fun W bY x=>?_⟩
  ·rw[av]
   simp[Instr.mapEntry,Bh al,Dc hb,K.check w false eC,h1,cF,Hw _ hb,Result.andThen,setBlock,goInt]
  ·rw[heap_setBlock_same hb]at bY
   obtain⟨w2,hd,bK,aM⟩:=a1 x;have ba:w2=setBlock w b (.map (es.push ⟨ah a,bB x,clock⟩) (clock+1)):=by
    have:(Instr.mapUpdate t (.map (some b)) (ah a) (bB x)).run prog w= .ok () (setBlock w b (.map (es.push ⟨ah a,bB x,clock⟩) (clock+1))):=by
     simp[Instr.mapUpdate,Bh al,Dc hb,K.check w false eC,h1,Hw _ hb,Result.andThen,setBlock]
    rw[hd]at this;exact(Result.ok.inj this).2
   refine⟨setBlock W b (.map (es.push ⟨ah a,bB x,clock⟩) (clock+1)),?_,bK.move ?_,Ov bY⟩
   ·have Ra:=ahO (es:=es) (clock:=clock) (x:=⟨ah a,z,clock⟩) F.stamped.1 rfl
    simp[Instr.entryStore,Dc bY,asInt,asIntOf,Result.andThen,Ra,amu,Hw _ bY,setBlock]
   ·rw[ba,heap_setBlock_same bY,heap_setBlock_same hb]
 ·have af:es[j]?=some eo:=by simpa using ae
  have av:(m a).elim z bB=eo.val:=by
   have:(Instr.lookup t (.map (some b)) (ah a) false).run prog w= .ok eo.val w:=by
    simp[Instr.lookup,Bh al,Dc hb,K.check w _ eC,h1,Result.andThen]
   rw[Y1]at this;exact(Result.ok.inj this).1
  have nA:es.modify j (fun e=>{e with key:=ah a})=es:=amv es j _ eo af (by rw[<-aH]);refine⟨setBlock w b (.map es clock),eo.born,?_,Ov hb,fun W bY x=>?_⟩
  ·rw[av]
   simp[Instr.mapEntry,Bh al,Dc hb,K.check w false eC,h1,af,aH,K.stays w eC,nA,Hw _ hb,Result.andThen,setBlock,goInt]
  ·rw[heap_setBlock_same hb]at bY
   obtain⟨w2,hd,bK,aM⟩:=a1 x;have ba:w2=setBlock w b (.map (es.modify j fun e=>{e with key:=ah a,val:=bB x}) clock):=by
    have:(Instr.mapUpdate t (.map (some b)) (ah a) (bB x)).run prog w= .ok () (setBlock w b (.map (es.modify j fun e=>{e with key:=ah a,val:=bB x}) clock)):=by
     simp[Instr.mapUpdate,Bh al,Dc hb,K.check w false eC,h1,af,aH,K.stays w eC,Hw _ hb,Result.andThen,setBlock]
    rw[hd]at this;exact(Result.ok.inj this).2
   have ey:(es.modify j fun e=>{e with key:=ah a,val:=bB x})=es.modify j fun e=>{e with val:=bB x}:=by
    apply K7;intro i;rw[Hu,Hu];by_cases c:j=i
    ·subst c;rw[if_pos rfl,if_pos rfl,af];simp[aH]
    ·rw[if_neg c,if_neg c]
   refine⟨setBlock W b (.map (es.modify j fun e=>{e with val:=bB x}) clock),?_,bK.move ?_,Ov bY⟩
   ·have Ra:=find_born af F.stamped.2.1
    simp[Instr.entryStore,Dc bY,asInt,asIntOf,Result.andThen,Ra,Hw _ bY,setBlock]
   ·rw[ba,ey,heap_setBlock_same bY,heap_setBlock_same hb]
end
section
variable {hh:Type}
def jQ (o:Nat->hh)(b:Nat)(t:hh):Nat->hh:=fun q=>if q=b then t else o q
theorem Bc (o:Nat->hh)(b:Nat)(t:hh):jQ o b t b=t:=by simp[jQ]
theorem qq {o:Nat->hh}{b:Nat}{t:hh}(h:q≠b):jQ o b t q=o q:=by simp[jQ,h]
structure gZ (w:World)(o:Nat->hh)(t:hh)(e:TypeId)(size:Nat)(v:Value)(n:Nat)(xs:List Value):Prop where
 row:Row w e size v n xs
 tag:∀q,v.ownBlock=some q->o q=t
structure fS (w:World)(o:Nat->hh)(t:hh)(b:Nat)(cs:List Value)(ty:TypeId):Prop where
 U:aQ w b cs ty
 tag:o b=t
structure bA (A:hh->Prop)(w:World)(o:Nat->hh)(w':World)(o':Nat->hh):Prop where
 ay:Touch (fun q=>A (o q)) w w'
 same:∀q,q<w.heap.size->o' q=o q
theorem bA.refl (A:hh->Prop)(w:World)(o:Nat->hh):bA A w o w o:=⟨Touch.refl _ _,fun _ _=>rfl⟩
theorem bA.trans {A:hh->Prop}{w:World}{o o1 dx:Nat->hh}(h:bA A w o an o1)(k:bA A an o1 w2 dx):bA A w o w2 dx:=by
 refine⟨h.ay.trans (k.ay.mono fun q ad aU=>?_),fun q ad=>(k.same q (hV ad h.ay.size)).trans (h.same q ad)⟩;by_cases hw:q<w.heap.size
 ·rw[h.same q hw]at aU;exact Or.inl aU
 ·exact Or.inr (by omega)
theorem bA.mono {A B:hh->Prop}{w:World}{o o1:Nat->hh}(h:bA A w o an o1)(hs:∀t,A t->B t):bA B w o an o1:=⟨h.ay.mono fun _ _ aU=>hs _ aU,h.same⟩
theorem bA.size {A:hh->Prop}{w:World}{o o1:Nat->hh}(h:bA A w o an o1):w.heap.size<=an.heap.size:=h.ay.size
theorem bA.drew {A:hh->Prop}{w:World}{o o1:Nat->hh}(h:bA A w o an o1):bA A w o an.drew o1:=⟨h.ay.drew,h.same⟩
theorem bA.alloc {A:hh->Prop}{w:World}{o o1:Nat->hh}(h:bA A w o an o1)(b:Obj):bA A w o (an.alloc b) o1:=⟨h.ay.alloc b,h.same⟩
theorem bA.set {A:hh->Prop}{w:World}{o o1:Nat->hh}{p:Addr}(h:bA A w o an o1)(aw:A (o1 p.block))(u:Value):bA A w o (an.setCell p u) o1:=by
 refine⟨h.ay.setCell ?_ u,h.same⟩;by_cases hw:p.block<w.heap.size
 ·rw[h.same _ hw]at aw;exact Or.inl aw
 ·exact Or.inr (by omega)
theorem bA.dw {A:hh->Prop}{w:World}{o o1:Nat->hh}{row:Option Nat}{t:hh}(h:bA A w o an o1)(aM:an.grownBy w2 row)(aJ:∀q,row=some q->o1 q=t)(al:A t):bA A w o w2 (jQ o1 an.heap.size t):=by
 refine⟨h.ay.grown aM fun q ad=>?_,fun q ad=>?_⟩
 ·by_cases hw:q<w.heap.size
  ·left
   have e:=aJ q ad;rw[h.same q hw]at e;rw[e];exact al
  ·exact Or.inr (by omega)
 ·rw[qq (by have:=h.ay.size;omega)];exact h.same q ad
theorem bA.below {A:hh->Prop}{w:World}{o o1:Nat->hh}(h:bA A w o an o1)(hb:ax an w2):bA A w o w2 o1:=
 ⟨h.ay.trans (Touch.dh hb),h.same⟩
def je (o:Nat->hh)(s:Nat)(f:Nat->hh):Nat->hh:=fun q=>if q<s then o q else f q
theorem jz {o f:Nat->hh}(h:q<s):je o s f q=o q:=by simp[je,h]
theorem sE {o f:Nat->hh}(h:s<=q):je o s f q=f q:=by simp[je,show ¬q<s by omega]
variable {w w':World}{o:Nat->hh}{t ed:hh}{e dI:TypeId}{size aoY n n' b hz:Nat}{v v' u:Value}{xs Fb cs:List Value}{ty:TypeId}
theorem gZ.lt (h:gZ w o t e size v n xs)(ad:v.ownBlock=some q):q<w.heap.size:=h.row.lt ad
theorem gZ.move {o':Nat->hh}(h:gZ w o t e size v n xs)(hb:∀q,q<w.heap.size->o q=t->w'.heap[q]?=w.heap[q]?)(cu:∀q,q<w.heap.size->o' q=o q):gZ w' o' t e size v n xs:=
 ⟨h.row.move fun k hk=>hb k (h.lt hk) (h.tag k hk),fun q ad=>by rw[cu q (h.lt ad)];exact h.tag q ad⟩
theorem fS.move {o':Nat->hh}(h:fS w o t b cs ty)(hb:∀q,q<w.heap.size->o q=t->w'.heap[q]?=w.heap[q]?)(cu:∀q,q<w.heap.size->o' q=o q):fS w' o' t b cs ty:=
 ⟨h.U.move (hb b h.U.lt h.tag),by rw[cu b h.U.lt];exact h.tag⟩
theorem gZ.ay {A:hh->Prop}{o':Nat->hh}(h:gZ w o t e size v n xs)(k:bA A w o w' o')(al:¬A t):gZ w' o' t e size v n xs:=
 h.move (fun q ad e=>k.ay.block q ad (by rw[e];exact al)) k.same
theorem fS.ay {A:hh->Prop}{o':Nat->hh}(h:fS w o t b cs ty)(k:bA A w o w' o')(al:¬A t):fS w' o' t b cs ty:=
 h.move (fun q ad e=>k.ay.block q ad (by rw[e];exact al)) k.same
theorem gZ.dw {row:Option Nat}(h:gZ w o t e size v n xs)(aM:w.grownBy w' row)(aJ:∀q,row=some q->o q=ed)(bS:t≠ed):gZ w' (jQ o w.heap.size ed) t e size v n xs:=
 h.move (fun q ad e=>aM.block q ad (fun c=>bS (by rw[<-e,aJ q c.symm]))) (fun q ad=>qq (by omega))
theorem fS.dw {row:Option Nat}(h:fS w o t b cs ty)(aM:w.grownBy w' row)(aJ:∀q,row=some q->o q=ed)(bS:t≠ed):fS w' (jQ o w.heap.size ed) t b cs ty:=
 h.move (fun q ad e=>aM.block q ad (fun c=>bS (by rw[<-e,aJ q c.symm]))) (fun q ad=>qq (by omega))
theorem gZ.app (h:gZ w o t e size v n xs)(bf:w'.ownsRow 0 e size v' n' Fb)(et:v'.ownBlock=v.ownBlock∨v'.ownBlock=some w.heap.size):gZ w' (jQ o w.heap.size t) t e size v' n' Fb:=by
 refine⟨bf,fun q ad=>?_⟩;rcases et with a|a
 ·have iB:v.ownBlock=some q:=by rw[<-a];exact ad
  rw[qq (by have:=h.lt iB;omega)];exact h.tag q iB
 ·rw[a]at ad;cases ad;exact Bc _ _ _
theorem gZ.set (h:gZ w o t e size v n xs){p:Addr}(aw:o p.block=ed)(bS:t≠ed)(x:Value):gZ (w.setCell p x) o t e size v n xs:=
 ⟨h.row.other (fun c=>bS (by rw[<-h.tag _ c,aw])) x,h.tag⟩
theorem fS.other (h:fS w o t b cs ty){p:Addr}(aw:o p.block=ed)(bS:t≠ed)(x:Value):fS (w.setCell p x) o t b cs ty:=
 ⟨h.U.other (fun c=>bS (by rw[<-h.tag,c,aw])) x,h.tag⟩
theorem fS.set (h:fS w o t b cs ty)(j:Nat)(x:Value):fS (w.setCell (aa b j) x) o t b (cs.set j x) ty:=⟨h.U.set j x,h.tag⟩
theorem gZ.alloc (h:gZ w o t e size v n xs)(bE:Obj):gZ (w.alloc bE) o t e size v n xs:=⟨h2 h.row bE,h.tag⟩
theorem fS.alloc (h:fS w o t b cs ty)(bE:Obj):fS (w.alloc bE) o t b cs ty:=⟨h.U.alloc bE,h.tag⟩
theorem fS.drew (h:fS w o t b cs ty):fS w.drew o t b cs ty:=⟨h.U,h.tag⟩
theorem gZ.below (h:gZ w o t e size v n xs)(hb:ax w w'):gZ w' o t e size v n xs:=⟨h.row.below hb,h.tag⟩
theorem fS.below (h:fS w o t b cs ty)(hb:ax w w'):fS w' o t b cs ty:=⟨h.U.below hb,h.tag⟩
theorem gZ.fp {o':Nat->hh}(h:gZ w o t e size v n xs)(hb:∀q,q<w.heap.size->o q=t->w'.heap[q]?=w.heap[q]?∧o' q=t):gZ w' o' t e size v n xs:=
 ⟨h.row.move fun k hk=>(hb k (h.lt hk) (h.tag k hk)).1,fun q ad=>(hb q (h.lt ad) (h.tag q ad)).2⟩
theorem fS.fp {o':Nat->hh}(h:fS w o t b cs ty)(hb:∀q,q<w.heap.size->o q=t->w'.heap[q]?=w.heap[q]?∧o' q=t):fS w' o' t b cs ty:=
 ⟨h.U.move (hb b h.U.lt h.tag).1,(hb b h.U.lt h.tag).2⟩
end
open Go.ChangeMaps Go.MapKept Go.WideShapes
open Go.WideElems (Fit rd rg pl rd_key rd_val rg_of other_key)
section
variable {α β:Type}{w w':World}{k t e:TypeId}{b n r ar:Nat}{ah:α->Value}{bB:β->Value}{m:α->Option β}{left:α->Bool}
theorem ane {n':Nat}{D:DataW Value}(h:w.ownsMap prog k zq b n D)(hs:Maps.size D<=n'):w.ownsMap prog k zq b n' D:=by
 obtain⟨es,clock,hb,F,_,rfl⟩:=h;exact⟨es,clock,hb,F,by simpa[Maps.size,length_sorted]using hs,rfl⟩
theorem cV.mono {n':Nat}(h:cV w k b n ah bB m)(hn:n<=n'):cV w k b n' ah bB m:=by
 obtain⟨D,cy,r⟩:=h.ex;exact⟨D,cy.mono hn,r⟩
theorem cV.acK [DecidableEq α](h:cV w k b n ah bB m)(K:Keyed prog k)(al:prog.underlying t=some (.map k e))(xS:∀a cf,ah a=ah cf->a=cf)(hn:n<maxLen){a:α}{cQ:Lit}(eC:keyOf prog k (ah a)=some cQ){y:β}(hm:m a=some y)(x:β):
  ∃w',(Instr.mapUpdate t (.map (some b)) (ah a) (bB x)).run prog w= .ok () w'∧cV w' k b n ah bB (fun cf=>if cf=a then some x else m cf)∧w.grownBy w' (some b):=by
 obtain⟨D,cy,et,gn⟩:=h.ex;obtain⟨an,GB,aiL,Gr⟩:=cy.update K al hn (d:= .held (bB x)) (ps:=[]) eC rfl;have fb:Maps.size (D.put cQ (.held (bB x)))<=n:=by
  rw[Maps.size_put (cy.tidy K),(et a cQ eC).1,hm];exact cy.size_le
 have I6:=ane aiL fb;refine⟨an,GB,⟨_,I6,fun cf oc gi=>?_,fun oc dQ=>?_⟩,Gr⟩
 ·by_cases c:cf=a
  ·subst c
   rw[eC]at gi;cases gi;rw[if_pos rfl];refine⟨Maps.has_put_same cy.isMap (K.key eC) _,fun y b9 z=>?_⟩;cases b9;exact Maps.atKey_put_same cy.isMap (K.key eC) _ _
  ·have bS:oc≠cQ:=fun e=>c (xS _ _ (K.inj gi (e▸eC)))
   rw[if_neg c,Maps.has_put_other bS];obtain⟨h1,ae⟩:=et cf oc gi;refine⟨h1,fun y b9 z=>?_⟩;rw[Maps.atKey_put_other bS];exact ae y b9 z
 ·by_cases c:oc=cQ
  ·subst c;exact⟨a,x,eC,by rw[if_pos rfl]⟩
  ·rw[Maps.has_put_other c]at dQ
   obtain⟨cf,y,vc,b9⟩:=gn oc dQ;refine⟨cf,y,vc,?_⟩;rw[if_neg (fun e=>c (by rw[e,eC]at vc;exact(kt vc).symm))];exact b9
theorem cV.len (h:cV w k b n ah bB m)(al:prog.underlying t=some (.map k e))(ty:TypeId):∃c:Nat,c<=n∧(c=0->∀a cQ,keyOf prog k (ah a)=some cQ->m a=none)∧∀W:World,W.heap[b]?=w.heap[b]?->(Builtin.len_ #[t] ty #[.map (some b)]).run prog W= .ok (I c) W:=by
 obtain⟨D,cy,et,-⟩:=h.ex;refine⟨Maps.size D,cy.size_le,fun aS a cQ hk=>?_,fun W bY=>?_⟩
 ·have h1:=(et a cQ hk).1
  have ae:Maps.has D cQ=false:=by
   obtain⟨es,clock,hb,F,hs,rfl⟩:=cy;have:(foldr DataW.insert [] (List.map (rg prog k zq) es.toList))=[]:=eq_nil_of_length_eq_zero aS;rw[this];rfl
  rw[ae]at h1;cases hm:m a
  ·rfl
  ·rw[hm]at h1;cases h1
 ·obtain⟨es,clock,hb,F,hs,QF⟩:=cy
  exact World.ownsMap.len (w:=W) (n:=n) (R:=zq) (D:=D) ⟨es,clock,bY.trans hb,F,hs,QF⟩ al ty
structure mT (w:World)(k:TypeId)(b r n:Nat)(ah:α->Value)(bB:β->Value)(m:α->Option β)(left:α->Bool)(ar:Nat):Prop where
 ex:∃D L,w.ranges prog k zq b r n D L ar∧(∀a cQ,keyOf prog k (ah a)=some cQ->Maps.has D cQ=(m a).isSome∧∀x,m a=some x->∀z,D.atKey cQ z= .held (bB x))∧(∀cQ,Maps.has D cQ=true->∃a x,keyOf prog k (ah a)=some cQ∧m a=some x)∧∀a cQ,keyOf prog k (ah a)=some cQ->left a=L cQ
theorem mT.map (h:mT w k b r n ah bB m left ar):cV w k b n ah bB m:=by
 obtain⟨D,L,aJ,h1,ae,-⟩:=h.ex;exact⟨D,aJ.owns,h1,ae⟩
theorem mT.move (h:mT w k b r n ah bB m left ar)(hb:w'.heap[b]?=w.heap[b]?)(aJ:w'.heap[r]?=w.heap[r]?):mT w' k b r n ah bB m left ar:=by
 obtain⟨D,L,⟨es,clock,since,seen,c0,dr,F,hs,cy,en,rest⟩,h1⟩:=h.ex;exact⟨D,L,⟨es,clock,since,seen,c0,hb.trans dr,F,hs,cy,aJ.trans en,rest⟩,h1⟩
theorem mT.lt (h:mT w k b r n ah bB m left ar):r<w.heap.size:=by obtain⟨D,L,aJ,-⟩:=h.ex;exact aJ.lt
theorem mT.left_eq (h:mT w k b r n ah bB m left ar):w.rangeLeft b r=ar:=by obtain⟨D,L,aJ,-⟩:=h.ex;exact aJ.left_eq
theorem cV.range (h:cV w k b n ah bB m)(K:Keyed prog k)(al:prog.underlying t=some (.map k e)):
  ∃w' ar,(Instr.range t (.map (some b))).run prog w= .ok (.pointer (some (aa (w.heap.size) 0))) w'∧mT w' k b w.heap.size n ah bB m (fun a=>(m a).isSome) ar∧ar<=n∧w.grownBy w' none∧w'.heap.size=w.heap.size+1:=by
 obtain⟨D,cy,h1,ae⟩:=h.ex;obtain⟨w',hd,aJ,aM,hs⟩:=cy.range K al;exact⟨w',_,hd,⟨D,_,aJ,h1,ae,fun a cQ hk=>(h1 a cQ hk).1.symm⟩,cy.size_le,aM,hs⟩
theorem anU {D:DataW Value}{L:Lit->Bool}(h:w.ranges P k zq b r n D L ar)(K:Keyed P k){cQ:Lit}(aC:L cQ=true):Maps.has D cQ=true:=by
 obtain⟨es,clock,since,seen,c0,hb,F,hs,rfl,aJ,hold,aA,gJ,gV,-⟩:=h;obtain⟨x,au,rfl⟩:=gV cQ aC;obtain⟨y,b9⟩:=F.reads x au;exact zJ.2 ⟨rg P k zq x,mem_sorted.2 (gF.2 ⟨x,au,rfl⟩),WideAt.sameKey_self (by rw[rg_of b9];exact K.key (rd_key b9))⟩
theorem mT.next [DecidableEq α](h:mT w k b r n ah bB m left ar)(K:Keyed prog k)(xS:∀a cf,ah a=ah cf->a=cf)(ty:TypeId):
  (ar=0∧(∀a cQ,keyOf prog k (ah a)=some cQ->left a=false)∧(Instr.next (.pointer (some (aa r 0))) false ty).run prog w= .ok (.tuple #[.bool false]) w)∨
  ∃a x w' kz,(∃cQ,keyOf prog k (ah a)=some cQ)∧left a=true∧m a=some x∧(Instr.next (.pointer (some (aa r 0))) false ty).run prog w= .ok (.tuple #[.bool true,ah a,bB x]) w'∧
   mT w' k b r n ah bB m (fun cf=>left cf&& !decide (cf=a)) kz∧kz<ar∧w.grownBy w' (some r)∧w'.heap.size=w.heap.size∧(Instr.entry (.pointer (some (aa r 0)))).run prog w'= .ok (.tuple #[ah a,bB x]) w':=by
 obtain⟨D,L,aJ,h1,ae,aH⟩:=h.ex;rcases aJ.next K ty with⟨aS,aC,hd⟩|⟨key,v,cQ,y,w',kz,eC,cW,av,et,hd,y9,br,kS,fb,l3⟩
 ·exact Or.inl ⟨aS,fun a cQ hk=>(aH a cQ hk).trans (aC cQ),hd⟩
 ·obtain⟨a,x,aU,au⟩:=ae cQ (anU aJ K cW)
  have aP:=K.inj eC aU;subst aP;have ba:v=bB x:=by
   have cO:=(h1 a cQ aU).2 x au (.held (bB x));rw[et]at cO;have a2:=(kt av).symm;rw[a2]at cO;exact DataW.held.inj cO
  subst ba;refine Or.inr ⟨a,x,w',kz,⟨cQ,aU⟩,(aH a cQ aU).trans cW,au,hd,⟨D,_,y9,h1,ae,fun cf oc gi=>?_⟩,br,kS,fb,l3⟩;show(left cf&& !decide (cf=a))=(L oc&& !oc.sameKey cQ)
  rw[aH cf oc gi];congr 2;by_cases c:cf=a
  ·subst c
   rw[aU]at gi;cases gi;rw[WideAt.sameKey_self (K.key aU)];simp
  ·have:oc.sameKey cQ=false:=by
    cases hs:oc.sameKey cQ
    ·rfl
    ·have e:=WideAt.sameKey_eq hs
     subst e;exact absurd (xS _ _ (K.inj gi aU)) c
   rw[this];simp[c]
end
theorem aq5 (z:Array Value)(n:Nat):(Builtin.zeroCells z n).toList.length=n*z.size:=by simp[Builtin.zeroCells]
theorem aq6 {z:Array Value}(h:∀u∈z.toList,u.oneCell'=true)(n:Nat):∀u∈(Builtin.zeroCells z n).toList,u.oneCell'=true:=by
 intro u hu;simp only[Builtin.zeroCells,Array.toList_map,gF]at hu;obtain⟨i,aq,rfl⟩:=hu;have qS:i<n*z.size:=by simpa using aq
 have cF:0<z.size:=by
  rcases Nat.eq_zero_or_pos z.size with c|c
  ·rw[c]at qS;omega
  ·exact c
 have hm:=Nat.mod_lt i cF;rw[yv z _ hm];exact h _ (by simp)
theorem P7 {w:World}{e t ty:TypeId}{size n i:Nat}{xs:List Value}(al:P.underlying t=some (.slice e))(av:∀w,(zeroValue e).run P w= .ok z w)(CI:z.cells.size=size)(h1:∀u∈z.cells.toList,u.oneCell'=true)
  (bf:Row w e size (bo g n cap) n xs)(aq:i<n):
  ∃w',(Builtin.clear_ #[t] ty #[.slice (some (aa g (i*size))) (n-i) (cap-i)]).run P w= .ok (.tuple #[]) w'∧Row w' e size (bo g i cap) i (xs.take (i*size))∧w.grownBy w' (some g):=by
 rcases bf.2 with⟨e5,-⟩|⟨oS,F0,cur,e5,-,aM,Gy,vd,te,RW⟩
 ·cases e5
 ·cases e5
  have hlen:=aq5 z.cells (n-i);rw[CI]at hlen;have hle:i*size+(n-i)*size<=cap*size:=by rw[<-w4];exact Hy _ (by omega)
  have hj:i*size<=n*size:=Hy _ (by omega);have a1:=run_storeCells_at (P:=P) g (i*size) e (Builtin.zeroCells z.cells (n-i)).toList 0 cur w aM (by rw[hlen,te];omega) (aq6 h1 _);rw[j3]at a1;refine⟨w.setRow g (cur.toList.take (i*size)++(Builtin.zeroCells z.cells (n-i)).toList++cur.toList.drop (i*size+(Builtin.zeroCells z.cells (n-i)).toList.length)).toArray,?_,⟨?_,.inr ⟨g,cap,_,rfl,ch,setRow_heap w g cur _ e _ aM,by omega,vd,?_,?_⟩⟩,⟨rfl,rfl,rfl,by simp,fun k _ hk=>setRow_other w g k _ (fun e=>hk (by rw[e]))⟩⟩
  ·obtain⟨m,hm⟩:∃m,n-i=m+1:=⟨n-i-1,by omega⟩
   rw[hm]at a1⊢;simp[Builtin.clear_,Bh al,av,a1]
  ·rw[ng,bf.1];omega
  ·rw[Bn,eN,eN,hlen,ng,length_drop,Array.length_toList,te];omega
  ·show((cur.toList.take (i*size)++(Builtin.zeroCells z.cells (n-i)).toList)++cur.toList.drop (i*size+(Builtin.zeroCells z.cells (n-i)).toList.length)).take (i*size)=xs.take (i*size)
   rw[mN,take_append_of_le_length (by rw[ng,Array.length_toList,te];omega),<-RW,take_take,take_take];congr 1;omega
def ze {α:Type}(p:α->Bool)(l:List α):Int:=match l.findIdx? p with|some k=>(k:Int)|none=> -1
theorem Sb {α:Type}{p:α->Bool}{l:List α}(h:∀j (af:j<l.length),p l[j]=false):ze p l= -1:=by
 unfold ze;have:l.findIdx? p=none:=by
  rw[findIdx?_eq_none_iff];intro x au;obtain⟨j,af,rfl⟩:=fQ.1 au;exact h j af
 rw[this]
theorem Sc {α:Type}{p:α->Bool}{l:List α}{k:Nat}(hk:k<l.length)(aw:p l[k]=true)(h:∀j (af:j<l.length),j<k->p l[j]=false):ze p l=k:=by
 unfold ze;have:l.findIdx? p=some k:=by
  rw[findIdx?_eq_some_iff_getElem];exact⟨hk,aw,fun j af=>by simp[h j (by omega) af]⟩
 rw[this]
theorem Sa {α:Type}(p:α->Bool)(l:List α):(ze p l= -1∧l.filter (fun x=> !p x)=l)∨∃k,∃hk:k<l.length,ze p l=k∧p l[k]=true∧(l.take k).filter (fun x=> !p x)=l.take k:=by
 unfold ze;cases e:l.findIdx? p with
 |none=>
  refine Or.inl ⟨rfl,?_⟩;rw[filter_eq_self];intro a aU;rw[findIdx?_eq_none_iff]at e;simp[e a aU]
 |some k=>
  rw[findIdx?_eq_some_iff_getElem]at e;obtain⟨hk,aw,eV⟩:=e;refine Or.inr ⟨k,hk,rfl,aw,?_⟩;rw[filter_eq_self];intro a aU;obtain⟨j,af,rfl⟩:=fQ.1 aU;rw[ng]at af;rw[getElem_take];have:=eV j (by omega);simpa using this
structure r8 {α:Type}(p:α->Bool)(l xs:List α)(i j:Nat):Prop where
 lt:i<j
 le:j<=l.length
 len:xs.length=l.length
 low:xs.take i=(l.take j).filter fun x=> !p x
 high:∀k (hk:k<l.length),j<=k->xs[k]?=some l[k]
section
variable {α:Type}{p:α->Bool}{l xs:List α}{i j k:Nat}
theorem r8.start (hk:k<l.length)(aw:p l[k]=true)(h:(l.take k).filter (fun x=> !p x)=l.take k):r8 p l l k (k+1):=by
 refine⟨by omega,by omega,rfl,?_,fun q ad _=>by simp[ad]⟩;rw[kr hk,filter_append,h];simp[aw]
theorem r8.rQ (h:r8 p l xs i j)(af:j<l.length)(aw:p l[j]=false):r8 p l (xs.set i l[j]) (i+1) (j+1):=by
 have br:=h.lt;have hlen:=h.len;refine⟨by omega,by omega,by rw[k5];exact hlen,?_,fun q ad hle=>?_⟩
 ·rw[kr (by rw[k5];omega),take_set_of_le (by omega),h.low,kr af,filter_append]
  simp[aw]
 ·rw[getElem?_set_ne (by omega)];exact h.high q ad (by omega)
theorem r8.skip (h:r8 p l xs i j)(af:j<l.length)(aw:p l[j]=true):r8 p l xs i (j+1):=by
 have br:=h.lt;refine⟨by omega,by omega,h.len,?_,fun q ad hle=>h.high q ad (by omega)⟩;rw[h.low,kr af,filter_append];simp[aw]
theorem r8.done (h:r8 p l xs i l.length):xs.take i=l.filter (fun x=> !p x)∧i=(l.filter fun x=> !p x).length∧i<l.length:=by
 have h1:=h.low;rw[tI]at h1;have br:=h.lt;have hlen:=h.len;refine⟨h1,?_,br⟩;rw[<-h1,ng];omega
end
theorem IP {α:Type}(f:α->List Value)(s:Nat)(bm:∀a,(f a).length=s):∀(l:List α) (i:Nat),(l.flatMap f).take (i*s)=(l.take i).flatMap f
 |[],i=>by simp
 |a::l,0=>by simp
 |a::l,i+1=>by
  have ih:=IP f s bm l i;rw[jC,kf,kf,take_append,bm,lQ (by rw[bm,w4];omega),<-ih];congr 2;rw[w4];omega
theorem Tryz.alj:(prog.info? 217).map (fun i=>(i.zero,i.size,i.bytes))=some (some (.agg #[.bool false,I 0,I 0,.slice none 0 0,.slice none 0 0]),5,72):=by kernel_rfl
theorem anZ (w:World)(az b:Nat)(v:Value)(xs:List cq)(tx:Int)(hn:xs.length<=6)
  (av:eh w b 2 v)(bf:Row w 217 5 v xs.length (xs.flatMap cq.cells))(eI:kE xs tx=false):
  Calls prog 91 #[.pointer (some (aa az 0)),.pointer (some (aa b 0)),I tx] w (bx (.tuple #[.agg #[I 0,I 0],I 4]) fun w'=>ax w w'):=by
 have ff:Hid ((w.alloc (.cells #[I 0,I 0] 62)).cell? (aa b 2)=some v):=by
  unfold Hid;rw[xb _ _ _ (hU w _ av)];exact av
 have bc:=J (bf.alloc (.cells #[I 0,I 0] 62));clear bf av;go_enter func91,ntmps91;go_wp2_with fail
 refine(uw _ b v xs tx (by omega) ff.o bc.o).mono ?_;rintro e an ⟨rfl,rfl⟩;go_wp2_with fail
 exact iX (v:= .tuple #[.agg #[I 0,I 0],I 4]) (by simp[results,results91,go_sem]) rfl ⟨rfl,(cj _ _)⟩
theorem anY (w:World)(az b:Nat)(v:Value)(xs:List cq)(k:Nat)(o1:Option Addr)(nE:Nat)(hn:xs.length<=6)(hk:k<xs.length)(hb:b<w.heap.size)
  (av:eh w b 2 v)(bf:Row w 217 5 v xs.length (xs.flatMap cq.cells))(eI:xs[k].fA=true)(iJ:xs[k].bU= .slice o1 0 nE)(p9:¬v.ownBlock=some b):
  Calls prog 91 #[.pointer (some (aa az 0)),.pointer (some (aa b 0)),I k] w fun e w'=>e= .returned (.tuple #[.agg #[I 0,I 0],I 0])∧
   Row w' 217 5 v xs.length ((xs.set k {xs[k]with fA:=false}).flatMap cq.cells)∧Touch (fun k=>v.ownBlock=some k) w w':=by
 obtain⟨g,cap,rfl,gg,hm,aM,aA,bm⟩:=bf.pos (by omega);have aS:=aA (k*5+0) (by omega);have bd:=aA (k*5+4) (by omega);rw[hC _ 5 cq.k_ _ _ _ hk (by omega)]at aS bd;simp only[cq.cells,jg,kK,j3]at aS bd;rw[iJ]at bd;have cw:Hid (kE xs k=true):=by simp[Hid,kE,hk,eI]
 have Pa:=J (uc cq.cells 5 cq.k_ xs k 0 hk (.bool false) {xs[k]with fA:=false} (by omega) rfl);have ff:Hid ((w.alloc (.cells #[I 0,I 0] 62)).cell? (aa b 2)=some (bo g xs.length cap)):=by
  unfold Hid;rw[xb _ _ _ hb];exact av
 have bc:=J (bf.alloc (.cells #[I 0,I 0] 62));have Rf:¬g=b:=fun e=>p9 (by simp[Value.ownBlock,e])
 have ass:=Rf;have ast:b≠g:=fun e=>Rf e.symm
 have ew:=J bf;clear bf aA eI iJ p9 Rf;go_enter func91,ntmps91;go_wp2_with fail
 refine(uw _ b _ xs k (by omega) ff.o bc.o).mono ?_;rintro e an ⟨he,rfl⟩;rw[cw.o]at he;subst he;go_wp2_with fail
 refine iX (v:= .tuple #[.agg #[I 0,I 0],I 0]) (by simp[results,results91,go_sem]) rfl ⟨rfl,?_,?_⟩
 ·have a:=(ly ew.o (k*5+0) (.bool false)).1
  rw[Pa.o]at a;exact h2 a _
 ·exact((Touch.refl (fun k=>(bo g xs.length cap).ownBlock=some k) _).setCell (p:=(aa g (k*5))) (Or.inl rfl) _).alloc _
structure jv (A:Tag->Prop)(cr:World)(ef:Nat->Tag)(wr:World)(o:Nat->Tag)(fe fF aV aG tx:Tag)(az b n gq:Nat)(a6 de bD v ah bw:Value)(ag:List Int)(c_ xs:List cq):Prop where
 hE:cP wr o fe az [I n,a6,de] 89
 all:b3 wr o fF 217 5 de c_.length (c_.flatMap cq.cells)
 rep:cP wr o aV b [I gq,bD,v,ah,bw] 165
 ag:b3 wr o aG 3 1 bD ag.length (ints ag)
 row:b3 wr o tx 217 5 v xs.length (xs.flatMap cq.cells)
 ay:ct A cr ef wr o
structure Ld (fe fF aV aG tx:Tag):Prop where
 hD:fe≠fF
 az:fe≠aV
 bw:fe≠aG
 yU:fe≠tx
 ab:fF≠aV
 de:fF≠aG
 VH:fF≠tx
 bv:aV≠aG
 fV:aV≠tx
 pT:aG≠tx
structure LK (t fe fF aV aG tx:Tag):Prop where
 g:t≠fe
 a:t≠fF
 b:t≠aV
 v:t≠aG
 x:t≠tx
section
variable {A:Tag->Prop}{cr wr:World}{ef o:Nat->Tag}{fe fF aV aG tx:Tag}{az b n gq:Nat}{a6 de bD v ah bw:Value}{ag:List Int}{c_ xs:List cq}
theorem jv.new (h:jv A cr ef wr o fe fF aV aG tx az b n gq a6 de bD v ah bw ag c_ xs)(cs:List Value)(ty:TypeId)(t:Tag):
  jv A cr ef (wr.alloc (.cells cs.toArray ty)) (ee o wr.heap.size t) fe fF aV aG tx az b n gq a6 de bD v ah bw ag c_ xs∧cP (wr.alloc (.cells cs.toArray ty)) (ee o wr.heap.size t) t wr.heap.size cs ty:=by
 have aM:(wr.alloc (.cells cs.toArray ty)).heap.size=wr.heap.size+1:=by simp
 have hb:∀q,q<wr.heap.size->(wr.alloc (.cells cs.toArray ty)).heap[q]?=wr.heap[q]?:=fun q ad=>iW wr _ q ad
 have cu:∀q,q<wr.heap.size->ee o wr.heap.size t q=o q:=fun q ad=>sL (by omega)
 exact⟨⟨h.hE.move (fun q ad _=>hb q ad) cu,h.all.move (fun q ad _=>hb q ad) cu,h.rep.move (fun q ad _=>hb q ad) cu,h.ag.move (fun q ad _=>hb q ad) cu,h.row.move (fun q ad _=>hb q ad) cu,⟨h.ay.ay.alloc _,fun q ad=>(cu q (hV ad h.ay.size)).trans (h.ay.same q ad)⟩⟩,
  ⟨cC wr (.cells cs.toArray ty),Hl _ _ _⟩⟩
theorem cP.new {ed:Tag}{hz:Nat}(h:cP wr o ed hz F4 Hk)(bE:Obj)(t:Tag):cP (wr.alloc bE) (ee o wr.heap.size t) ed hz F4 Hk:=
 h.move (fun q ad _=>iW wr bE q ad) (fun q ad=>sL (by omega))
theorem jv.drew (h:jv A cr ef wr o fe fF aV aG tx az b n gq a6 de bD v ah bw ag c_ xs):jv A cr ef wr.drew o fe fF aV aG tx az b n gq a6 de bD v ah bw ag c_ xs:=
 ⟨h.hE.drew,h.all.drew,h.rep.drew,h.ag.drew,h.row.drew,h.ay.drew⟩
theorem jv.close (D:Ld fe fF aV aG tx){k:Nat}(h:jv A cr ef wr o fe fF aV aG tx az b n gq a6 de bD (bo g xs.length cap) ah bw ag c_ xs)(hk:k<xs.length)(aU:A tx):
  jv A cr ef (wr.setCell (aa g (k*5)) (.bool false)) o fe fF aV aG tx az b n gq a6 de bD (bo g xs.length cap) ah bw ag c_ (xs.set k {xs[k]with fA:=false}):=by
 have e:=h.row.tag g rfl;refine⟨h.hE.other e D.yU _,h.all.set e D.VH _,h.rep.other e D.fV _,h.ag.set e D.pT _,⟨?_,h.row.tag⟩,h.ay.set (by rw[e];exact aU) _⟩;have:=(ly h.row.row (k*5+0) (.bool false)).1;rw[uc cq.cells 5 cq.k_ xs k 0 hk (.bool false) {xs[k]with fA:=false} (by omega) rfl]at this;rw[k5];exact this
theorem aui (l:List Int)(j:Nat)(x:Int):(ints l).set j (I x)=ints (l.set j x):=by simp[ints,map_set]
theorem jv.step (D:Ld fe fF aV aG tx){ue wW j:Nat}(h:jv A cr ef wr o fe fF aV aG tx az b n gq a6 de (bo ue ag.length wW) v ah bw ag c_ xs)(x:Int)(aU:A aG):
  jv A cr ef (wr.setCell (aa ue j) (I x)) o fe fF aV aG tx az b n gq a6 de (bo ue ag.length wW) v ah bw (ag.set j x) c_ xs:=by
 have e:=h.ag.tag ue rfl;refine⟨h.hE.other e D.bw _,h.all.set e D.de _,h.rep.other e D.bv _,⟨?_,h.ag.tag⟩,h.row.set e D.pT.symm _,h.ay.set (by rw[e];exact aU) _⟩;have:=(ly h.ag.row j (I x)).1;rw[aui]at this;rw[k5];exact this
theorem jv.app (D:Ld fe fF aV aG tx){x:cq}(h:jv A cr ef wr o fe fF aV aG tx az b n gq a6 de bD v ah bw ag c_ xs)(aU:A fF∧A fe)
  (dd:an.ownsRow 0 217 5 v1 (c_.length+1) (c_.flatMap cq.cells++x.cells))(aM:(wr.alloc bE).grownBy an de.ownBlock)(et:v1.ownBlock=de.ownBlock∨v1.ownBlock=some (wr.alloc bE).heap.size):
  jv A cr ef (an.setCell (aa az 2) v1) (ee o (wr.alloc bE).heap.size fF) fe fF aV aG tx az b n gq a6 v1 bD v ah bw ag (c_++[x]) xs:=by
 have g1:=(h.hE.alloc bE).dw aM h.all.tag D.hD;have e:ee o (wr.alloc bE).heap.size fF ((aa az 2):Addr).block=fe:=g1.tag;refine⟨g1.set 2 v1,?_,((h.rep.alloc bE).dw aM h.all.tag D.ab.symm).other e D.az.symm v1,((h.ag.alloc bE).dw aM h.all.tag D.de.symm).set e D.bw.symm v1,((h.row.alloc bE).dw aM h.all.tag D.VH.symm).set e D.yU.symm v1,((h.ay.alloc bE).dw aM h.all.tag aU.1).set (by rw[e];exact aU.2) v1⟩;have:=((h.all.alloc bE).app dd et).set e D.hD.symm v1;rw[Qu,eN];exact this
theorem jv.off {t:Tag}(F:LK t fe fF aV aG tx){p:Addr}(aw:o p.block=t)(h:jv A cr ef wr o fe fF aV aG tx az b n gq a6 de bD v ah bw ag c_ xs)(hn:cr.heap.size<=p.block)(x:Value):
  jv A cr ef (wr.setCell p x) o fe fF aV aG tx az b n gq a6 de bD v ah bw ag c_ xs:=
 ⟨h.hE.other aw F.g.symm x,h.all.set aw F.a.symm x,h.rep.other aw F.b.symm x,h.ag.set aw F.v.symm x,h.row.set aw F.x.symm x,⟨h.ay.ay.setCell (Or.inr hn) x,h.ay.same⟩⟩
theorem cP.app {ed:Tag}{hz j:Nat}(H:cP wr o ed hz F4 Hk)(h:jv A cr ef wr o fe fF aV aG tx az b n gq a6 de bD v ah bw ag c_ xs)
  (aM:(wr.alloc bE).grownBy an de.ownBlock)(RV:ed≠fF)(akE:ed≠fe):cP (an.setCell (aa az j) v1) (ee o (wr.alloc bE).heap.size fF) ed hz F4 Hk:=
 ((H.alloc bE).dw aM h.all.tag RV).other (p:=(aa az j)) (by have:=h.hE.U.lt;show ee o (wr.alloc bE).heap.size fF az=fe;rw[sL (by simp;omega)];exact h.hE.tag) akE v1
end
theorem amM (w:World)(cs:List Value)(t:TypeId):∀j u,cs[j]?=some u->(w.alloc (.cells cs.toArray t)).drew.cell? (((aa (w.heap.size) 0):Addr).add j)=some u:=by
 have h:=cC w (.cells cs.toArray t);exact A0 h
theorem amU (fe fF aV aG tx:Tag):∃jr zA bL:Tag,LK jr fe fF aV aG tx∧LK zA fe fF aV aG tx∧LK bL fe fF aV aG tx∧jr≠zA∧jr≠bL∧zA≠bL:=by
 refine⟨(fe.1+fF.1+aV.1+aG.1+tx.1+1,0,0),(fe.1+fF.1+aV.1+aG.1+tx.1+2,0,0),(fe.1+fF.1+aV.1+aG.1+tx.1+3,0,0),?_,?_,?_,?_,?_,?_⟩
 ·constructor<;>(intro e;have:=congrArg (fun t:Tag=>t.1) e;simp at this;omega)
 ·constructor<;>(intro e;have:=congrArg (fun t:Tag=>t.1) e;simp at this;omega)
 ·constructor<;>(intro e;have:=congrArg (fun t:Tag=>t.1) e;simp at this;omega)
 all_goals(intro e;have:=congrArg (fun t:Tag=>t.1) e;simp at this)
theorem an0 (A:Tag->Prop)(w:World)(o:Nat->Tag)(fe fF aV aG tx:Tag)(D:Ld fe fF aV aG tx)(az b n gq:Nat)(a6 de bD v ah bw:Value)(ag:List Int)(c_ xs:List cq)(k:Nat)(hn:xs.length<=6)(hk:k<xs.length)(hid:gq<ag.length)(hp:ag.length<=5)(AN:0<=ag[gq]∧ag[gq]<=2000000)
  (gn:c_.length<=2000000)(a1:jv A w o w o fe fF aV aG tx az b n gq a6 de bD v ah bw ag c_ xs)(aU:A fe∧A fF∧A aG∧A tx)
  (eI:xs[k].fA=true)(o1 s1:Option Addr)(m nE kp mL:Nat)(iJ:xs[k].bU= .slice o1 (m+1) nE)(jl:xs[k].sv= .slice s1 kp mL)(asR:m<=16):
  Calls prog 91 #[.pointer (some (aa az 0)),.pointer (some (aa b 0)),I k] w fun e w'=>e= .returned (.tuple #[.agg #[I gq,I (ag[gq]+1)],I 0])∧
   ∃o' yL,jv A w o w' o' fe fF aV aG tx az b n gq a6 yL bD v ah bw (ag.set gq (ag[gq]+1)) (c_++[{xs[k]with fA:=false,rep:=gq,seq:=ag[gq]+1}]) (xs.set k {xs[k]with fA:=false}):=by
 obtain⟨jr,zA,bL,aJ,aB,al,aa6,aa7,aaQ⟩:=amU fe fF aV aG tx;obtain⟨g,cap,rfl,gg,hm,aM,aA,bm⟩:=a1.row.row.pos (by omega);obtain⟨ue,wW,rfl,as_,akJ,AI,rM,Nq⟩:=a1.ag.row.pos (by omega);have aS:=aA (k*5+0) (by omega);have bd:=aA (k*5+4) (by omega);rw[hC _ 5 cq.k_ _ _ _ hk (by omega)]at aS bd;simp only[cq.cells,jg,kK,j3]at aS bd;rw[iJ]at bd;have e6:=a1.rep.U.c2;have ft:=a1.rep.U.lt;have BW:g≠b:=fun e=>D.fV (by rw[<-a1.rep.tag,<-e];exact a1.row.tag g rfl)
 have arE:b≠g:=fun e=>BW e.symm
 have cw:Hid (kE xs k=true):=by simp[Hid,kE,hk,eI]
 have ff:Hid ((w.alloc (.cells #[I 0,I 0] 62)).cell? (aa b 2)=some (bo g xs.length cap)):=by
  unfold Hid;rw[xb _ _ _ ft];exact e6
 have bc:=J (h2 a1.row.row (.cells #[I 0,I 0] 62));have er:=J a1;have hlen:(xs.set k {xs[k]with fA:=false}).length=xs.length:=by simp
 have cm:=J (⟨iJ,jl⟩:_∧_);have pX:=J (⟨D,aU,aJ,aB,al,aa6,aa7,aaQ⟩:_∧_∧_∧_∧_∧_∧_∧_);have vg:=bm (k*5);clear a1 aA eI iJ jl rM bm Nq D aU aJ aB al aa6 aa7 aaQ;go_enter func91,ntmps91;go_wp2_with fail
 refine(uw _ b _ xs k (by omega) ff.o bc.o).mono ?_;rintro e an ⟨he,rfl⟩;rw[cw.o]at he;subst he;go_upto_region 4 with(fail);go_cut[] (fun wc=>∃NN,jv A w o wc NN fe fF aV aG tx az b n gq a6 de (bo ue ag.length wW) (bo g xs.length cap) ah bw ag c_ (xs.set k {xs[k]with fA:=false})∧cP wc NN jr w.heap.size [I 0,I 0] 62)
 case first=>
  go_wp2_with fail
  go_meet
  case rel=>
   have a:=jv.close pX.o.1 er.o hk pX.o.2.1.2.2.2;have cO:=a.new [I 0,I 0] 62 jr;rw[show(w.setCell (aa g (k*5)) (.bool false)).heap.size=w.heap.size by simp]at cO;exact⟨_,cO⟩
 case rest=>
  obtain⟨NN,a1,kl⟩:=hcut;clear cw ff bc er aS bd e6 ft vg aM AI;obtain⟨_,_,e,-,-,aM,aA,-⟩:=a1.row.row.pos (by simp;omega);obtain⟨dI,-,-⟩:=sN e;cases dI;clear e;obtain⟨_,_,e,-,-,AI,rM,Nq⟩:=a1.ag.row.pos (by omega);obtain⟨dI,-,-⟩:=sN e;cases dI;clear e;have bd:=aA (k*5+4) (by simp;omega);rw[hC _ 5 cq.k_ _ _ _ (by simpa using hk) (by omega)]at bd;simp only[cq.cells,jg,kK,w_]at bd;rw[cm.o.1]at bd;have J1:=rM gq (by omega);rw[o9 _ _ hid]at J1;have akI:=Nq gq;have iQ:=a1.rep.U.c0;have eA:=a1.rep.U.c1;have e6:=a1.rep.U.c2;have ft:=a1.rep.U.lt;have er:=J a1;have rk:=J kl;generalize ZG:ag[gq]=pT at*;have Ve:=J ZG;clear a1 kl aA rM Nq ZG;go_upto_region 7 with(fail);go_cut[] (fun wd=>∃ko,jv A w o wd ko fe fF aV aG tx az b n gq a6 de (bo ue ag.length wW) (bo g xs.length cap) ah bw (ag.set gq (pT+1)) c_ (xs.set k {xs[k]with fA:=false})∧cP wd ko jr w.heap.size [I 0,I 0] 62)
  case first=>
   go_region;go_wp2_with fail
   go_meet
   case rel=>
    have e:=er.o.ag.tag ue rfl;exact⟨NN,(jv.step pX.o.1 er.o (pT+1) pX.o.2.1.2.2.1).drew,(rk.o.other e pX.o.2.2.1.v _).drew⟩
  case rest=>
   clear bd J1 akI iQ eA e6 ft er rk aM AI;obtain⟨ko,a1,kl⟩:=hcut;obtain⟨_,_,e,-,-,AI,rM,-⟩:=a1.ag.row.pos (by simp;omega);obtain⟨dI,-,-⟩:=sN e;cases dI;clear e;have J1:=rM gq (by simp;omega);rw[o9 _ _ (by simpa using hid),w_]at J1;have iQ:=a1.rep.U.c0;have eA:=a1.rep.U.c1;have ft:=a1.rep.U.lt;have er:=J a1;have rk:=J kl;clear a1 kl rM;go_upto_region 8 with(fail);go_cut[9] (fun p wd=>∃ko jI,p= .pointer (some (aa jI 0))∧w.heap.size<=jI∧jv A w o wd ko fe fF aV aG tx az b n gq a6 de (bo ue ag.length wW) (bo g xs.length cap) ah bw (ag.set gq (pT+1)) c_ (xs.set k {xs[k]with fA:=false})∧cP wd ko jr w.heap.size [I 0,I 0] 62∧cP wd ko zA jI [I gq,I (pT+1)] 62)
   case first=>
    go_region;go_wp2_with fail
    go_meet
    case rel=>
     have a:=er.o.new [I gq,I (pT+1)] 62 zA;exact⟨_,_,rfl,er.o.ay.size,a.1.drew,(rk.o.new _ zA).drew,a.2.drew⟩
   case rest=>
    clear J1 iQ eA ft er rk AI;obtain⟨atL,jI,rfl,wj,a1,kl,oV⟩:=hcut;obtain⟨_,_,e,-,-,aM,aA,-⟩:=a1.row.row.pos (by simp;omega);obtain⟨dI,-,-⟩:=sN e;cases dI;clear e;have aS:=aA (k*5+0) (by simp;omega);have h1:=aA (k*5+1) (by simp;omega);have ae:=aA (k*5+2) (by simp;omega);have aH:=aA (k*5+3) (by simp;omega);have bd:=aA (k*5+4) (by simp;omega);rw[hC _ 5 cq.k_ _ _ _ (by simpa using hk) (by omega)]at aS h1 ae aH bd;simp only[cq.cells,jg,kK,w_,j3]at aS h1 ae aH bd;rw[cm.o.1]at bd;rw[cm.o.2]at aH;have e6:=a1.rep.U.c2;have AE:=oV.U.c0;have Eh:=oV.U.c1;have ft:=a1.rep.U.lt;have wm:=oV.U.lt;have er:=J a1;have rk:=J kl;have Bx:=J oV;clear a1 kl oV aA;go_upto_region 9 with(fail);go_cut[10] (fun p wd=>∃ko A9,p= .pointer (some (aa A9 0))∧w.heap.size<=A9∧jv A w o wd ko fe fF aV aG tx az b n gq a6 de (bo ue ag.length wW) (bo g xs.length cap) ah bw (ag.set gq (pT+1)) c_ (xs.set k {xs[k]with fA:=false})∧cP wd ko jr w.heap.size [I 0,I 0] 62∧cP wd ko zA jI [I gq,I (pT+1)] 62∧cP wd ko bL A9 [.bool false,I xs[k].rep,I xs[k].seq,.slice s1 kp mL,.slice o1 (m+1) nE] 217)
    case first=>
     generalize xs[k].rep=dr at*;generalize xs[k].seq=en at*;go_wp2_with fail
     go_meet
     case rel=>
      have a:=er.o.new [.bool false,I dr,I en,.slice s1 kp mL,.slice o1 (m+1) nE] 217 bL;exact⟨_,_,rfl,er.o.ay.size,a.1,rk.o.new _ bL,Bx.o.new _ bL,a.2⟩
    case rest=>
     clear aS h1 ae aH bd e6 AE Eh ft wm er rk Bx aM;obtain⟨of,A9,rfl,EA,a1,kl,oV,rL⟩:=hcut;have AE:=oV.U.c0;have Eh:=oV.U.c1;have l9:=rL.U.c1;have jW:=rL.U.c2;have Q_:=rL.U.frozen 1;have Ch:=rL.U.frozen 2;have sz:=rL.U.lt;have er:=J a1;have rk:=J kl;have Bx:=J oV;have LD:=J rL;clear a1 kl oV rL;go_upto_region 10 with(fail);go_cut[] (fun wd=>jv A w o wd of fe fF aV aG tx az b n gq a6 de (bo ue ag.length wW) (bo g xs.length cap) ah bw (ag.set gq (pT+1)) c_ (xs.set k {xs[k]with fA:=false})∧cP wd of jr w.heap.size [I 0,I 0] 62∧cP wd of zA jI [I gq,I (pT+1)] 62∧cP wd of bL A9 [.bool false,I gq,I (pT+1),.slice s1 kp mL,.slice o1 (m+1) nE] 217)
     case first=>
      generalize xs[k].rep=dr at*;generalize xs[k].seq=en at*;go_wp2_with fail
      go_meet
      case rel=>
       have aP:=LD.o.tag;have ba:=LD.o.tag;have F:=pX.o.2.2.2.2.1;exact⟨jv.off F ba (jv.off F aP er.o EA _) EA _,(rk.o.other aP pX.o.2.2.2.2.2.2.1 _).other ba pX.o.2.2.2.2.2.2.1 _,(Bx.o.other aP pX.o.2.2.2.2.2.2.2 _).other ba pX.o.2.2.2.2.2.2.2 _,(LD.o.set 1 _).set 2 _⟩
     case rest=>
      clear AE Eh l9 jW Q_ Ch sz er rk Bx LD;obtain⟨a1,kl,oV,rL⟩:=hcut;obtain⟨cA,Vw,rfl,-,-,-⟩:=a1.all.row.shape;have fi:=a1.hE.U.c2;have t0:=rL.U.cell 0;have t1:=rL.U.cell 1;have t2:=rL.U.cell 2;have t3:=rL.U.cell 3;have t4:=rL.U.cell 4;simp only[jg,kK]at t0 t1 t2 t3 t4;have sz:=rL.U.lt;have fW:=a1.hE.U.lt;have er:=J a1;have rk:=J kl;have Bx:=J oV;clear a1 kl oV rL;obtain⟨i0,aq,dC,dM,dK⟩:=iV Tryz.alj;go_upto_region 11 with(fail);go_cut[] (fun wd=>∃ko yL,jv A w o wd ko fe fF aV aG tx az b n gq a6 yL (bo ue ag.length wW) (bo g xs.length cap) ah bw (ag.set gq (pT+1)) (c_++[{xs[k]with fA:=false,rep:=gq,seq:=pT+1}]) (xs.set k {xs[k]with fA:=false})∧cP wd ko jr w.heap.size [I 0,I 0] 62∧cP wd ko zA jI [I gq,I (pT+1)] 62)
      case first=>
       go_region_law(refine q6 rfl _ _ 87 rfl 217 i0 (.agg #[.bool false,I 0,I 0,.slice none 0 0,.slice none 0 0]) 5 72 underlying87 aq dC dM dK rfl (by decide) (.slice cA c_.length Vw) c_.length (c_.flatMap cq.cells) (by simp[Act.eval]) (by exact h2 er.o.all.row _) (aa (wc.heap.size) 0) 1 1 [.bool false,I gq,I (pT+1),.slice s1 kp mL,.slice o1 (m+1) nE] (by simp[Act.eval]) rfl (by exact amM _ _ _) (by intro u hu;simp at hu;rcases hu with rfl|rfl|rfl|rfl|rfl<;>rfl) (by unfold maxLen;omega) (by omega) ?_;intro v2 w2 fm gh kR;obtain⟨g2,lV,rfl,-,-,-,-,-⟩:=Row.pos fm (by omega);have fi:(wc.alloc (.cells #[.bool false,I gq,I (pT+1),.slice s1 kp mL,.slice o1 (m+1) nE] 217)).grownBy w2 (Value.slice cA c_.length Vw).ownBlock:=⟨gh.os,gh.tape,gh.output,gh.size,gh.block⟩;have aF:=(er.o.hE.alloc _).dw fi er.o.all.tag pX.o.1.hD;have hf:=aF.U.cell 2;have fO:=aF.U.frozen 2;have gJ:=aF.U.lt;clear aF gh)
       all_goals go_wp2_with fail
       all_goals go_meet
       all_goals
        have sr:w2.ownsRow 0 217 5 (bo g2 (c_.length+1) lV) (c_.length+1) (c_.flatMap cq.cells++({xs[k]with fA:=false,rep:=gq,seq:=pT+1}:cq).cells):=by
         simp only[cq.cells,cm.o.1,cm.o.2];exact fm
        exact⟨_,_,jv.app pX.o.1 er.o ⟨pX.o.2.1.2.1,pX.o.2.1.1⟩ sr fi kR,cP.app rk.o er.o fi pX.o.2.2.1.a pX.o.2.2.1.g,cP.app Bx.o er.o fi pX.o.2.2.2.1.a pX.o.2.2.2.1.g⟩
      case rest=>
       clear t0 t1 t2 t3 t4 fi sz fW er rk Bx aq dC dM dK;obtain⟨CR,yL,a1,kl,oV⟩:=hcut;have AE:=oV.U.c0;have Eh:=oV.U.c1;have ur:=kl.U.c0;have o0:=kl.U.c1;have as0:∀j,wc.frozen? (aa (w.heap.size) j)=false:=kl.U.frozen;have hF:=kl.U.lt;have wm:=oV.U.lt;have er:=J a1;have rk:=J kl;clear a1 kl oV;go_wp2_with fail
       refine iX (v:= .tuple #[.agg #[I gq,I (pT+1)],I 0]) (by simp[results,results91,go_sem,ur,o0]) rfl ⟨by rw[Ve.o],CR,yL,?_⟩;rw[Ve.o];have F:=pX.o.2.2.1;exact jv.off F (p:=(aa (w.heap.size) 1)) rk.o.tag (jv.off F (p:=(aa (w.heap.size) 0)) rk.o.tag er.o cv _) cv _
end Go.Proofs.YtiplgdkpnhamaaaGreatDoor
