import Derived.Test.YtiplgdkpnhamaaaGreatDoorT22
import Derived.Shelf.AbstractIn
import Derived.RangeFuncSeq
import Derived.RangeFuncWrites
import Derived.Sort.MapsRangeIn
import Derived.OwnWalkIn
import Derived.TacticsInMore
import Derived.RegionIn
import Derived.LoopIn
import Derived.RangeFuncNested
import Derived.RangeFuncBound
import Derived.RangeFuncCalls
import Derived.RangeFuncLeaves
import Derived.RangeFuncBox
import Derived.Shelf.RegionOpen
import Derived.LoopNIn
import Derived.Maps.AppendAt
import Derived.Shelf.SlSortCmp.NoneTotal
set_option maxHeartbeats 8000000
set_option maxRecDepth 100000
namespace Go.Proofs.YtiplgdkpnhamaaaGreatDoor
open Go.Proofs.Tryz List
open Go.RowKit
variable {B cf b base cap ar g k n r ak size aj:Nat}{W w w' w2 wr:World}{e t:TypeId}{ks:List Place}{m:Bool}{p:Place}{s:ByteArray}{u:List UInt8}{v:aW}{x y:Value}{xs:List Value}
theorem mT.of_walks {α β:Type}{k:TypeId}{ah:α->Value}{bB:β->Value}{m:α->Option β}{left:α->Bool}(h:mT w k b r n ah bB m left ar)(hk:KeepsWalks w w'):mT w' k b r n ah bB m left ar:=by
 obtain⟨D,L,aJ,rest⟩:=h.ex;exact⟨D,L,aJ.of_walks hk,rest⟩
theorem mT.iter_walk {α β:Type}{k:TypeId}{ah:α->Value}{bB:β->Value}{m:α->Option β}{left:α->Bool}(h:mT w k b r n ah bB m left ar):∃o:Obj,w.heap[r]?=some o∧o.isWalk=true:=by
 obtain⟨D,L,aJ,-⟩:=h.ex;exact aJ.iter_walk
structure Lc (m:Place->Option cG)(left:Place->Bool)(ks:List Place):Prop where
 dZ:ks.Nodup
 mem:∀p,p∈ks↔(m p).isSome∧left p=false
 aat:∀p,left p=true->(m p).isSome
theorem Lc.step {m:Place->Option cG}{left:Place->Bool}{ks:List Place}(h:Lc m left ks){a:Place}(aU:left a=true):Lc m (fun cf=>left cf&& !decide (cf=a)) (ks++[a]):=by
 refine⟨?_,fun p=>?_,fun p aw=>h.aat p (by simp only[qv]at aw;exact aw.1)⟩
 ·rw[yn]
  refine⟨h.dZ,by simp,fun x au y b9=>?_⟩;rw[k4]at b9;subst b9;intro e;subst e;have:=((h.mem x).1 au).2;rw[aU]at this;cases this
 ·rw[hT,k4,h.mem p]
  constructor
  ·rintro (⟨h1,ae⟩|rfl)
   ·exact⟨h1,by simp[ae]⟩
   ·exact⟨h.aat p aU,by simp⟩
  ·rintro ⟨h1,ae⟩
   by_cases c:p=a
   ·exact Or.inr c
   ·exact Or.inl ⟨h1,by simpa[c]using ae⟩
theorem alJ (n vI b kG:Nat)(m:Place->Option cG)(w:World)(wx:eh w vI 0 (.map (some b)))(Cv:cV w 129 b kG Place.val cG.val m)(D4:∀p,(m p).isSome->p.Ok):
  SeqStopsK Fence.wide n prog 201 #[bl vI] (fun x:Place=> #[Place.val x]) KeepsWalks (fun ks=>ks.Nodup∧∀p,p∈ks↔(m p).isSome) (fun _=>True) kG w:=by
 intro l ni arn W bY u_ arV ui aS;have hm:=bZ bY wx;have dd:=Cv.move (bY.block b Cv.lt);obtain⟨cr,F3,Ng,Eu,uj,xN,-⟩:=dd.range rV underlying120;have aiz:ni [] cr:=u_ [] W cr none aS xN (fun r e=>by cases e);show CallsIn _ _ _ _ #[.func (.yield l) #[] #[],bl vI] W _
 refine callsIn_of_wp func201 rfl trivial ?_ rfl;simp only[ntmps201,Bn,lP,w3,Nat.reduceAdd,Nat.reduceSub,Array.replicate_succ,Array.replicate_zero,push_toArray,append_toArray,w1,yo];gi_wp2
 gi_loopw [3] (fun _ wr=>∃(left:Place->Bool) (ar:Nat) (ks:List Place),Hid (mT wr 129 b W.heap.size kG Place.val cG.val m left ar∧Lc m left ks∧ni ks wr∧ks.length+ar<=kG)) (fun _ wr=>wr.rangeLeft b W.heap.size)
 case atStart=>exact⟨_,_,[],Eu,⟨by simp,fun p=>by cases m p<;>simp,fun p h=>h⟩,aiz,by simpa using uj⟩
 case round=>
  obtain⟨left,ar,ks,bc⟩:=hrel;rcases bc.o.1.next rV zn 0 with⟨-,eV,hd⟩|⟨a,x,w2,P9,-,Eo,ajV,hd,rJ,br,fi,sw,l3⟩
  ·have cp:Hid (∀p,p∈ks↔(m p).isSome):=fun p=>by
    rw[bc.o.2.1.mem p];refine⟨fun h=>h.1,fun h=>⟨h,?_⟩⟩;obtain⟨cQ,dU⟩:=(D4 p h).lit;exact eV p cQ dU
   gi_wp2
   go_end0;exact⟨⟨_,rfl⟩,Or.inl ⟨ks,⟨bc.o.2.1.dZ,cp.o⟩,bc.o.2.2.1⟩⟩
  ·have XB:ni ks w2:=u_ ks wr w2 (some W.heap.size) bc.o.2.2.1 fi (fun r e=>by cases e;exact⟨cv,bc.o.1.iter_walk⟩)
   obtain⟨a_,bq⟩:=a;have I8:ni ks (w2.alloc (.cells #[ai a_,ai bq] 129)):=u_ ks w2 _ none XB (World.grownBy_alloc _ _ _) (fun r e=>by cases e);have sj:=bc.o.2.2.2;obtain⟨fn,tmps,assign,body,b9,bI⟩:=ui ks ⟨a_,bq⟩ _ I8 (by omega);simp only[Place.val]at hd l3 b9;have FA:=J bI;have gO:Hid (mT (w2.alloc (.cells #[ai a_,ai bq] 129)) 129 b W.heap.size kG Place.val cG.val m (fun cf=>left cf&& !decide (cf=⟨a_,bq⟩)) P9):=
    rJ.move (iW w2 _ _ rJ.map.lt) (iW w2 _ _ rJ.lt)
   have dj:=J (bc.o.2.1.step Eo);have si:=bc.o.1.left_eq;have dn:=J (⟨br,si,sj⟩:_∧_∧_);clear bI rJ br si sw fi XB I8 ajV Eo sj;gi_wp2
   refine⟨fun h=>by simp[Fence.wide]at h,FA.o.mono ?_⟩;rintro e dH (⟨rfl,Gd,rH⟩|⟨rfl,akL⟩)
   ·gi_wp2
    have JQ:=gO.o.of_walks rH;go_roundw
    case rel=>exact⟨_,P9,ks++[⟨a_,bq⟩],JQ,dj.o,Gd,by have:=dn.o.1;have:=dn.o.2.2;simp;omega⟩
    case measure=>rw[JQ.left_eq,dn.o.2.1];exact dn.o.1
   ·gi_wp2
    exact iX (v:= .tuple #[]) (by simp[results,results201,go_sem]) rfl ⟨⟨_,rfl⟩,Or.inr ⟨_,trivial,akL⟩⟩
attribute[local go_sem] Oper.semAt_some
theorem alk:(prog.info? 129).map (fun i=>(i.zero,i.size,i.bytes))=some (some (.agg #[ai "".toUTF8,ai "".toUTF8]),2,32):=by kernel_rfl
def zN (W:World)(B:Nat)(t:TypeId)(x y:Value):Prop:=W.heap[B]?=some (.cells #[x,y] t (0,0))
theorem zN.lt (h:zN W B t x y):B<W.heap.size:=(w6.1 h).1
theorem zN.cell0 (h:zN W B t x y):W.cell? (aa B 0)=some x:=by simp[World.cell?,show W.heap[B]?=_ from h]
theorem zN.agt (h:zN W B t x y):W.cell? (aa B 1)=some y:=by simp[World.cell?,show W.heap[B]?=_ from h]
theorem agb {X Y:World}{row:Option Nat}(h:zN X B t x y)(aM:X.grownBy Y row)(bf:∀r,row=some r->∃o:Obj,X.heap[r]?=some o∧o.isCells=false):zN Y B t x y:=
 (aM.block B h.lt (fun dI=>by obtain⟨o,cu,aA⟩:=bf B dI.symm;rw[show X.heap[B]?=_ from h]at cu;cases cu;cases aA)).trans h
theorem cell_two_new (w:World)(x y:Value)(t:TypeId):∀j u,[x,y][j]?=some u->(w.alloc (.cells #[x,y] t)).cell? (((aa (w.heap.size) 0):Addr).add j)=some u:=by
 intro j u af;match j,af with
 |0,af=>simp at af;subst af;simp[Addr.add]
 |1,af=>simp at af;subst af;simp[Addr.add]
theorem afH (g:Nat)(lb:Array Value)(S:List Place->Prop)(N:Nat)(fa:N<=1000000)(v7:∀args w,(callFunc g args).run prog w= .ok (.enter g args) w)(w:World)(wF:SeqStopsK Fence.wide 5 prog g lb (fun x:Place=> #[Place.val x]) KeepsWalks S (fun _=>True) N w):
  CallsIn Fence.wide 6 prog 222 #[.slice none 0 0,.func (.func g) #[] lb] w fun e w'=>∃v ks,e= .returned v∧S ks∧w'.ownsRow w.heap.size 129 2 v ks.length (ks.flatMap fun p=>[ai p.key,ai p.el])∧ax w w':=by
 refine callsIn_of_wp_marks func222 rfl trivial ?_ rfl;simp only[ntmps222,Bn,lP,w3,Nat.reduceAdd,Nat.reduceSub,Array.replicate_succ,Array.replicate_zero,push_toArray,append_toArray,w1,yo];obtain⟨i0,aq,dC,dM,dK⟩:=iV alk;have afU:=Boxed.new w 250 (.slice none 0 0);have bp:ax w (w.alloc (.cells #[.slice none 0 0] 250)):=(Hz _ w).alloc cv _;gi_wp2
 refine wpIn_rangeFunc_ownH rfl (by omega) (gf:=g) (lb:=lb) rfl trivial v7 wF walksK_t walksK_b bp (fun _=>rfl)
  (fun pre W=>(∃v,Boxed W w.heap.size 250 v∧W.ownsRow w.heap.size 129 2 v pre.length (pre.flatMap fun p:Place=>[ai p.key,ai p.el])∧True)∧ax w W)
  (fun _ _ _=>False)
  (OwnFrom.and (Own.from (holdsRow_own w.heap.size w.heap.size 250 129 2 (fun pre:List Place=>pre.length) (fun pre=>pre.flatMap fun p:Place=>[ai p.key,ai p.el]) (fun _ _=>True)) _) (ownFrom_below cv (by simp)))
  (fun _ _ _ _ _ hs _ _=>hs)
  ⟨⟨_,afU,jD _ _ _ _,trivial⟩,bp⟩
  (fun x cf W=>∃oo,w.heap.size<oo∧zN W oo 129 (ai x.key) (ai x.el)∧cf={tmps:= #[.slice none 0 0,.func (.func g) #[] lb,bl w.heap.size,undef,.slice none 0 0,bl oo,.func (.func g) #[] lb,x.val,undef,undef,undef,undef,undef],defers:=[]})
  (fun x cf _ X Y row hs aM aJ=>by obtain⟨oo,h1,ae,aH⟩:=hs;exact⟨oo,h1,agb ae aM (fun r e=>(aJ r e).2),aH⟩)
  ?assign ?body ?done ?stop
 case assign=>
  rintro l pre ⟨a_,bq⟩ W K ⟨⟨v,av,bf,-⟩,aF⟩ cx;simp only[Place.val];gi_wp2
  exact cx _ _ ((KeepsOthers.alloc _ _).from _) (KeepsOthers.alloc _ _).walks ⟨⟨v,av.alloc _,bf.alloc _,trivial⟩,aF.alloc aF.size _⟩ ⟨W.heap.size,av.lt,World.alloc_heap_new W _,rfl⟩
 case body=>
  rintro l pre ⟨a_,bq⟩ cf W aC ⟨r,aJ⟩ ⟨⟨v,av,bf,-⟩,aF⟩ ⟨oo,arU,VK,rfl⟩ br;have aA:=av.cell;have vq:=VK.cell0;have oa:=VK.agt;simp only[Place.val];gi_wp2_with (gi_at_builtin;refine wpListIn_append_own _ rfl _ _ 250 rfl w.heap.size 129 i0 _ 2 32 underlying250 aq dC dM dK rfl (by decide) _ _ _ rfl (bf.alloc _) (aa (W.heap.size) 0) 1 1 [ai a_,ai bq] rfl rfl (cell_two_new _ _ _ _) (by simp[Value.oneCell']) (by simp only[maxLen];omega) (by omega) (by have:=aF.size;simp;omega) ?_;intro v' an y6 ka _;obtain⟨oS,F0,rfl⟩:=ownsRow_succ y6;obtain⟨kW,sA,uu,tj,e6⟩:=av.appended (by decide) bf aF.size cv y6 ka;have Jl:=kW.cell;have Q_:=kW.frozen)
  exact⟨tj.from _,tj.walks,⟨_,sA,by simpa using uu⟩,aF.trans e6⟩
 case done=>
  rintro D ks W cy dJ ⟨⟨v,av,bf,-⟩,aF⟩ cx;have aA:=av.cell;gi_wp2
  refine⟨by simp,.inl ⟨_,_,rfl,run_takeDeferred cx,?_⟩⟩;exact⟨_,results_tmp rfl _ _ _,v,ks,rfl,dJ,ownsRow_putObj bf _ cx rfl,aF.trans (belowK_b (w:=w) cv W D _ _ (by simp at cy;omega) cx rfl rfl)⟩
 case stop=>
  rintro D c pre W _ _ h _;exact h.elim
open Go.RowKit Go.Sort
def pv (a b:ByteArray):Int:=if strLt a b then-1 else if strLt b a then 1 else 0
theorem aaM (a:ByteArray)(w:World):Calls prog 215 #[ai a] w (bx (.bool false) fun w'=>w'=w):=by
 go_enter func215,ntmps215;go_wp2;go_ret;exact⟨q2 (by simp),rfl⟩
theorem V9 (a b:ByteArray)(w:World):Calls prog 203 #[ai a,ai b] w (bx (I (pv a b)) fun w'=>w'=w):=by
 have dj:Hid (strLt a b=true∨(strLt a b=false∧strLt b a=true)∨(strLt a b=false∧strLt b a=false)):=by
  unfold Hid;cases strLt a b<;>cases strLt b a<;>simp
 have bX:∀x:Int,Hid (x=pv a b)->Hid (x=pv a b):=fun _ h=>h
 go_enter func203,ntmps203;go_wp2_with fail
 refine(aaM a _).mono ?_;rintro e an ⟨rfl,rfl⟩;go_wp2_with fail
 refine(aaM b _).mono ?_;rintro e w2 ⟨rfl,rfl⟩;rcases dj.o with h|⟨h,e5⟩|⟨h,e5⟩
 ·have he:Hid (pv a b= -1):=by unfold Hid pv;simp[h]
  unfold strLt at h;go_wp2_with fail
  go_ret;exact⟨om he.o.symm,rfl⟩
 ·have he:Hid (pv a b=1):=by unfold Hid pv;simp[h,e5]
  have ad:(a.toList==b.toList)=false:=by
   rw[Bg];intro c;unfold strLt at e5;rw[c,Ke]at e5;cases e5
  unfold strLt at h e5;go_wp2_with fail
  go_ret;exact⟨om he.o.symm,rfl⟩
 ·have he:Hid (pv a b=0):=by unfold Hid pv;simp[h,e5]
  have ad:(a.toList==b.toList)=true:=by
   rw[beq_iff_eq];rcases KR a b with c|c|c
   ·rw[c]
   ·rw[h]at c;cases c
   ·rw[e5]at c;cases c
  unfold strLt at h e5;go_wp2_with fail
  go_ret;exact⟨om he.o.symm,rfl⟩
def Ag (a b:Place):Int:=CT (pv a.key b.key) (pv a.el b.el)
theorem acU (a b:Place)(W:World):Calls prog 165 #[a.val,b.val] W (bx (I (Ag a b)) fun w'=>hx W w'):=by
 obtain⟨rz,ry⟩:=a;obtain⟨g_,gR⟩:=b;generalize bj:(W.alloc (.cells #[ai rz,ai ry] 129)).alloc (.cells #[ai g_,ai gR] 129)=W0;have kB:hx W W0:=by rw[<-bj];exact(hx.alloc _ _).of (hx.alloc _ _)
 have bT:aQ W0 W.heap.size [ai rz,ai ry] 129:=by rw[<-bj];exact aQ.first W _ _ _
 have c6:aQ W0 (W.heap.size+1) [ai g_,ai gR] 129:=by rw[<-bj];exact aQ.second W _ _ _
 have c8:=hx.cell (show W0.cell? (aa (W.heap.size) 0)=some (ai rz)from bT.cell 0);have dr:=hx.cell (show W0.cell? (aa (W.heap.size) 1)=some (ai ry)from bT.cell 1);have dm:=hx.cell (show W0.cell? (aa (W.heap.size+1) 0)=some (ai g_)from c6.cell 0);have dz:=hx.cell (show W0.cell? (aa (W.heap.size+1) 1)=some (ai gR)from c6.cell 1);unfold Ag;simp only;have cI:∀f:dO (hx W0),Calls prog 203 #[ai rz,ai g_] f.w fun e fv=>e= .returned (I (pv rz g_))∧∃g:dO (hx W0),fv=g.w:=fun f=>(V9 rz g_ f.w).mono fun e fv ⟨h1,ae⟩=>⟨h1,f,ae⟩
 have dq:∀f:dO (hx W0),Calls prog 203 #[ai ry,ai gR] f.w fun e fv=>e= .returned (I (pv ry gR))∧∃g:dO (hx W0),fv=g.w:=fun f=>(V9 ry gR f.w).mono fun e fv ⟨h1,ae⟩=>⟨h1,f,ae⟩
 obtain⟨p,aw⟩:∃p,pv rz g_=p:=⟨_,rfl⟩;obtain⟨q,ad⟩:∃q,pv ry gR=q:=⟨_,rfl⟩;rw[aw]at cI⊢;rw[ad]at dq⊢;have vM:=J cI;have PB:=J dq;have gO:=J kB;have di:=J bj;clear aw ad cI dq kB bT c6 bj;simp only[Place.val];go_enter func165,ntmps165;go_wp2_with fail
 rw[di.o];refine kd (hx W0) 10 (by kernel_rfl) (by kernel_rfl) ((hx.refl _).drew) ?_;simp only[jC,ju,j4,jR];repeat(go_big_quiet_step (first|(go_at_call_of 203 (ai rz);exact vM.o _)|(go_at_call_of 203 (ai ry);exact PB.o _)))
 refine gG ?_;intro _ ds;obtain⟨fq,rfl⟩:=ds;obtain⟨bR,QH⟩:=fq;try dsimp only
 clear c8 dr dm dz;have o1:aQ (bR.alloc (.cells #[I p,I q] 3)) bR.heap.size [I p,I q] 3:=cC bR _;have y5:=abj (bR.alloc (.cells #[I p,I q] 3)) bR.heap.size p q (o1.cell 0) (o1.cell 1);have Pj:=J y5;clear y5 o1;go_wp2_with fail
 refine Pj.o.mono ?_;rintro e w2 ⟨rfl,rfl⟩;go_wp2_with fail
 go_ret;exact⟨rfl,(gO.o.of QH).of (hx.alloc _ _)⟩
theorem ana {e m:Nat}(h:w.ownsRow base e size (bo g m cap) k xs):g<w.heap.size:=by
 rcases h.2 with⟨e5,-⟩|⟨oS,F0,cur,e5,hb,aM,-⟩
 ·cases e5
 ·cases e5;exact(w6.1 aM).1
instance:Inhabited Place:=⟨⟨⟨#[]⟩,⟨#[]⟩⟩⟩
def mj (p:Place):List Value:=[ai p.key,ai p.el]
theorem W6 (l:List Place):flatK mj 2 l.toArray=(l.flatMap mj).toArray:=by
 apply K7;intro t;have hlen:=Ap mj 2 (fun _=>rfl) l;by_cases al:t<l.length*2
 ·have h1:t/2<l.length:=by omega
  have aM:=hC mj 2 (fun _=>rfl) l (t/2) (t%2) h1 (by omega);rw[show t/2*2+t%2=t by omega]at aM;rw[show(l.flatMap mj).toArray[t]?=(l.flatMap mj)[t]? by simp,aM];have:(flatK mj 2 l.toArray:Array Value)[t]?=some (flatK mj 2 l.toArray)[t]! :=by
   rw[yv _ t (by simpa using al)];simp[al]
  rw[this,get_flatK _ _ _ _ (by simpa using al)];have aP:l.toArray[t/2]! =l[t/2]:=by rw[yv _ _ (by simpa using h1)];simp
  rw[aP];have hm:t%2<(mj l[t/2]).length:=by show t%2<2;omega
  rw[yv (mj l[t/2]) (t%2) hm,hg hm]
 ·rw[Array.getElem?_eq_none (by simp;omega),show(l.flatMap mj).toArray[t]?=(l.flatMap mj)[t]? by simp,yr (by rw[hlen];omega)]
def j0 (a b:Place):Prop:=strLt a.key b.key=true∨a.key=b.key∧strLt a.el b.el=true
instance (a b:Place):Decidable (j0 a b):=by unfold j0;infer_instance
theorem V6 (a b:ByteArray):pv a b<0↔strLt a b=true:=by
 unfold pv;cases h:strLt a b<;>simp<;>split<;>simp
theorem V7 (a b:ByteArray):pv a b=0↔a=b:=by
 unfold pv;constructor
 ·intro h
  rcases KR a b with c|c|c
  ·exact c
  ·rw[if_pos c]at h;simp at h
  ·by_cases d:strLt a b=true
   ·rw[if_pos d]at h;simp at h
   ·rw[if_neg d,if_pos c]at h;simp at h
 ·rintro rfl
  rw[C4];simp
theorem P8 (a b:Place):Ag a b<0↔j0 a b:=by
 unfold Ag CT j0;by_cases h:pv a.key b.key=0
 ·rw[if_pos h,V6]
  have e:=(V7 _ _).1 h;rw[e,C4];simp
 ·rw[if_neg h,V6]
  have e:=mt (V7 _ _).2 h;simp[e]
theorem L6 (a b:Place):ltOf Ag a b=decide (j0 a b):=by
 unfold ltOf;by_cases h:j0 a b
 ·rw[yu h,mo];exact(P8 a b).2 h
 ·rw[vG h,Fo];exact fun c=>h ((P8 a b).1 c)
theorem N2 (a:Place):¬j0 a a:=by
 unfold j0;rw[C4,C4];simp
theorem N3 {a b c:Place}(h1:j0 a b)(ae:j0 b c):j0 a c:=by
 unfold j0 at*;rcases h1 with h1|⟨aP,h1⟩<;>rcases ae with ae|⟨ba,ae⟩
 ·exact Or.inl (Oy h1 ae)
 ·exact Or.inl (by rw[<-ba];exact h1)
 ·exact Or.inl (by rw[aP];exact ae)
 ·exact Or.inr ⟨aP.trans ba,Oy h1 ae⟩
theorem Ta (a b:Place):a=b∨j0 a b∨j0 b a:=by
 unfold j0;rcases KR a.key b.key with c|c|c
 ·rcases KR a.el b.el with d|d|d
  ·left;cases a;cases b;simp at c d;simp[c,d]
  ·exact Or.inr (Or.inl (Or.inr ⟨c,d⟩))
  ·exact Or.inr (Or.inr (Or.inr ⟨c.symm,d⟩))
 ·exact Or.inr (Or.inl (Or.inl c))
 ·exact Or.inr (Or.inr (Or.inl c))
theorem apu:SWO (ltOf Ag)where
 irrefl x:=by rw[L6];simp[N2]
 trans x y z h1 ae:=by
  rw[L6,mo]at*;exact N3 h1 ae
 ntrans x y z h1 ae:=by
  rw[L6,Fo]at*;intro c;rcases Ta x y with e|e|e
  ·subst e;exact ae c
  ·exact h1 e
  ·exact ae (N3 e c)
theorem ahu (args:Array Value)(w:World):(callFunc 165 args).run prog w= .ok (.enter 165 args) w:=enters_of func165 (by kernel_rfl) rfl args w
theorem agF (U off size:Nat)(w:World):CmpLays prog 165 #[] mj 2 Ag U off size w:=fun _ _ _ _ x y=>acU x y _
theorem ao8 (w:World)(g cap:Nat)(l:List Place)(base:Nat)(bf:World.ownsRow w base 129 2 (bo g l.length cap) l.length (l.flatMap mj))(aC:l.length<=1000000000)(ho:l.Nodup):
  Calls prog 200 #[bo g l.length cap,.func (.func 165) #[] #[]] w fun e w'=>e= .returned (.tuple #[])∧
   ∃ca:List Place,ca.Perm l∧ca.Pairwise j0∧World.ownsRow w' base 129 2 (bo g l.length cap) l.length (ca.flatMap mj)∧w.grownBy w' (some g):=by
 have hH:HoldsK mj 2 w g 0 l.toArray:=by
  unfold HoldsK;rw[W6];exact holds_row (by simpa using bf)
 have fW:=ana bf;have Ef:=AnyQ.slices_SortFunc Tryz.acw 2 Tryz.isAgg129 Tryz.sizeOf129 mj (fun _=>rfl) (fun x v av=>by simp[mj]at av;rcases av with rfl|rfl<;>rfl) Ag apu 165 #[] g 0 cap l.toArray w ahu (agF g 0 _ w) hH fW (by simp;omega);change Calls prog 200 _ _ _ at Ef;rw[Bn]at Ef;refine Ef.mono ?_;rintro e w' ⟨rfl,d',m,os,aw,hs,rfl⟩;obtain⟨dk,-,eL⟩:=aw;have fb:d'.size=l.length:=by simpa using dk
 have wz:d'.toList.Perm l:=by
  have aP:d'.extract 0 l.length=d':=by rw[<-fb];simp
  have ba:l.toArray.extract 0 l.length=l.toArray:=by
   have:l.length=l.toArray.size:=by simp
   rw[this];simp
  rw[aP,ba]at eL;simpa using eL
 have Ep:=wz.nodup_iff.2 ho;refine⟨rfl,d'.toList,wz,?_,?_,?_⟩
 ·rw[vD]
  intro i j aq af l6;have qS:i<d'.size:=by simpa using aq
  have mF:j<d'.size:=by simpa using af
  have a:=hs i j ch l6 (by omega);rw[L6,Fo,yv d' j mF,yv d' i qS]at a;have bS:d'[i]≠d'[j]:=fun e=>by
   have:i=j:=(getElem_inj (xs:=d'.toList) (h₀:=aq) (h₁:=af) Ep).1 (by rw[Bk,Bk];exact e);omega
  show j0 d'.toList[i] d'.toList[j]
  rw[Bk,Bk];rcases Ta d'[i] d'[j]with c|c|c
  ·exact absurd c bS
  ·exact c
  ·exact absurd c a
 ·have wq:=W6 d'.toList
  rw[Array.toArray_toList]at wq;unfold sortWorldK putRowK;rw[wq];have:=abo (n:=m) (os:=os) (F:=(d'.toList.flatMap mj).toArray) bf (by rw[Bn,Ap mj 2 (fun _=>rfl)];simp[fb]);simpa using this
 ·unfold sortWorldK putRowK
  exact Xm _
theorem alI (b:Nat)(w:World):Calls prog 164 #[.map (some b)] w (bx (.func (.func 201) #[] #[bl w.heap.size]) fun w'=>w'=w.alloc (.cells #[.map (some b)] 120)):=by
 go_enter func164,ntmps164;go_wp2_with fail
 go_ret;exact⟨rfl,rfl⟩
theorem aht (args:Array Value)(w:World):(callFunc 201 args).run prog w= .ok (.enter 201 args) w:=enters_of func201 (by kernel_rfl) rfl args w
def KeysOf (m:Place->Option cG)(ks:List Place):Prop:=ks.Nodup∧∀p,p∈ks↔(m p).isSome
theorem agK (vI b kG:Nat)(m:Place->Option cG)(w:World)(wx:eh w vI 0 (.map (some b)))(Cv:cV w 129 b kG Place.val cG.val m)(D4:∀p,(m p).isSome->p.Ok)(AP:kG<=1000000):
  Calls prog 199 #[.func (.func 201) #[] #[bl vI]] w fun e w'=>∃v ks,e= .returned v∧KeysOf m ks∧w'.ownsRow w.heap.size 129 2 v ks.length (ks.flatMap mj)∧ax w w':=by
 have dj:=J (callsIn_wide.1 (afH 201 #[bl vI] _ kG AP aht w (alJ 5 vI b kG m w wx Cv D4)));clear wx Cv D4 AP;go_enter func199,ntmps199;go_wp2_with fail
 refine dj.o.mono ?_;rintro e w2 ⟨v,ks,rfl,dJ,bf,ao⟩;have H:=J (⟨dJ,bf,ao⟩:_∧_∧_);clear dJ bf ao dj;go_wp2_with fail
 go_ret;exact⟨v,ks,rfl,H.o.1,H.o.2.1,H.o.2.2⟩
theorem ao_ (vI b kG:Nat)(m:Place->Option cG)(w:World)(wx:eh w vI 0 (.map (some b)))(Cv:cV w 129 b kG Place.val cG.val m)(D4:∀p,(m p).isSome->p.Ok)(AP:kG<=1000000)(hK:∀ks,KeysOf m ks->ks.length<=1000000):
  Calls prog 163 #[.func (.func 201) #[] #[bl vI],.func (.func 165) #[] #[]] w fun e w'=>∃v ks,e= .returned v∧KeysOf m ks∧ks.Pairwise j0∧w'.ownsRow w.heap.size 129 2 v ks.length (ks.flatMap mj)∧ax w w':=by
 have dj:=J (agK vI b kG m w wx Cv D4 AP);clear wx Cv D4 AP;go_enter func163,ntmps163;go_wp2_with fail
 refine dj.o.mono ?_;clear dj;rintro e w2 ⟨v,ks,rfl,dJ,bf,ao⟩;have aC:=hK ks dJ;rcases bf.2 with⟨rfl,aS⟩|⟨g,cap,cur,rfl,hb,-⟩
 ·have hs:=AnyF.slices_SortFunc_none (P:=prog) (ρ:=Tryz.acx) {Tryz.acw with} none 0 (.func (.func 165) #[] #[]) w2
  change Calls prog 200 _ _ _ at hs;have aL:=J hs;have H:=J (⟨dJ,bf,ao,eq_nil_of_length_eq_zero aS⟩:_∧_∧_∧_);clear dJ bf ao hs aS aC hK;go_wp2_with fail
  refine aL.o.mono ?_;rintro e bN ⟨rfl,rfl⟩;go_wp2_with fail
  go_ret;exact⟨_,ks,rfl,H.o.1,by rw[H.o.2.2.2];exact List.Pairwise.nil,H.o.2.1,H.o.2.2.1⟩
 ·have aL:=J (ao8 w2 g cap ks w.heap.size bf (by omega) dJ.1)
  have H:=J (⟨dJ,hb,ao⟩:_∧_∧_);clear dJ bf ao aC hK;obtain⟨n,hn⟩:∃n,ks.length=n:=⟨_,rfl⟩;rw[hn]at aL⊢;have cp:=J hn;clear hn;go_wp2_with fail
  refine aL.o.mono ?_;rintro e bN ⟨rfl,GP,aw,n2,Nc,aM⟩;have bu:=J (⟨aw,n2,Nc,aM⟩:_∧_∧_∧_);clear aw n2 Nc aM aL;go_wp2_with fail
  go_ret;obtain⟨aw,n2,Nc,aM⟩:=bu.o;obtain⟨dJ,hb,ao⟩:=H.o;exact⟨_,GP,rfl,⟨aw.nodup_iff.2 dJ.1,fun p=>(aw.mem_iff).trans (dJ.2 p)⟩,n2,by rw[aw.length_eq,cp.o];exact Nc,ao.grown aM ao.size (fun k e=>by cases e;exact hb)⟩
open Go.Maps (Keyed)
theorem cV.aar {α β:Type}{k:TypeId}{ah:α->Value}{bB:β->Value}{m:α->Option β}(h:cV w k b n ah bB m)(K:Keyed prog k)(xS:∀a cf,ah a=ah cf->a=cf)(Gw:∀a,(m a).isSome->∃cQ,keyOf prog k (ah a)=some cQ)(al:prog.underlying t=some (.map k e))(ty:TypeId):
  ∃c:Nat,c<=n∧(∀ks:List α,ks.Nodup->(∀a,a∈ks↔(m a).isSome)->ks.length=c)∧∀W:World,W.heap[b]?=w.heap[b]?->(Builtin.len_ #[t] ty #[.map (some b)]).run prog W= .ok (I c) W:=by
 obtain⟨D,cy,et,gn⟩:=h.ex;have fb:∀ks:List α,ks.Nodup->(∀a,a∈ks↔(m a).isSome)->ks.length=Maps.size D:=fun ks ho hK=>by
  obtain⟨es,rfl,Jh,dU⟩:=cy.entries K;rw[Maps.size_eq];have bm:∀a,a∈ks->keyOf prog k (ah a)=some ((keyOf prog k (ah a)).getD (.bool false)):=fun a aU=>by
   obtain⟨cQ,hk⟩:=Gw a ((hK a).1 aU);rw[hk];rfl
  have h1:(es.map Prod.fst).Nodup:=by
   rw[List.Nodup,zL];exact Jh
  have ae:(ks.map fun a=>(keyOf prog k (ah a)).getD (.bool false)).Nodup:=by
   rw[List.Nodup,zL];refine List.Pairwise.imp_of_mem ?_ ho;intro a cf aU vc bS e;have aP:=bm a aU;have ba:=bm cf vc;rw[<-e]at ba;exact bS (xS _ _ (K.inj aP ba))
  have aH:=(perm_ext_iff_of_nodup h1 ae).2 fun cQ=>by
   rw[gF,gF];constructor
   ·rintro ⟨p,aw,rfl⟩
    have dQ:Maps.has (.map es) p.1=true:=by
     rw[Maps.has_eq,zJ];exact⟨p,aw,WideAt.sameKey_self (dU p aw)⟩
    obtain⟨a,x,aU,au⟩:=gn _ dQ;exact⟨a,(hK a).2 (by rw[au];rfl),by rw[aU];rfl⟩
   ·rintro ⟨a,aU,rfl⟩
    have dQ:=(et a _ (bm a aU)).1;rw[(hK a).1 aU,Maps.has_eq,zJ]at dQ;obtain⟨p,aw,hs⟩:=dQ;exact⟨p,aw,WideAt.sameKey_eq hs⟩
  have:=aH.length_eq;simpa using this.symm
 refine⟨Maps.size D,cy.size_le,fb,fun W bY=>?_⟩;obtain⟨es,clock,hb,F,hs,QF⟩:=cy;exact World.ownsMap.len (w:=W) (n:=n) (R:=zq) (D:=D) ⟨es,clock,bY.trans hb,F,hs,QF⟩ al ty
theorem abw:∀{l ca:List Place},l.Pairwise j0->ca.Pairwise j0->(∀p,p∈l↔p∈ca)->l=ca
 |[],[],_,_,_=>rfl
 |[],b::ca,_,_,h=>by have:=(h b).2 (by simp);simp at this
 |a::l,[],_,_,h=>by have:=(h a).1 (by simp);simp at this
 |a::l,b::ca,h1,ae,h=>by
  rw[xa]at h1 ae;have jy:a=b:=by
   have x:=(h a).1 (by simp);have y:=(h b).2 (by simp);rw[h3]at x y;rcases x with x|x
   ·exact x
   ·rcases y with y|y
    ·exact y.symm
    ·exact absurd (N3 (h1.1 b y) (ae.1 a x)) (N2 a)
  subst jy;rw[abw h1.2 ae.2 fun p=>?_];have aw:=h p;rw[h3,h3]at aw;constructor
  ·intro x
   rcases aw.1 (Or.inr x)with c|c
   ·subst c;exact absurd (h1.1 p x) (N2 p)
   ·exact c
  ·intro x
   rcases aw.2 (Or.inr x)with c|c
   ·subst c;exact absurd (ae.1 p x) (N2 p)
   ·exact c
open Classical in
noncomputable def na (m:Place->Option cG):List Place:=if h:∃ks,KeysOf m ks∧ks.Pairwise j0 then Classical.choose h else[]
theorem aae {m:Place->Option cG}(h:KeysOf m ks)(aw:ks.Pairwise j0):na m=ks:=by
 have au:∃ks,KeysOf m ks∧ks.Pairwise j0:=⟨ks,h,aw⟩;unfold na;rw[dif_pos au];obtain⟨h1,ae⟩:=Classical.choose_spec au;exact abw ae aw fun p=>(h1.2 p).trans (h.2 p).symm
def jB (m:Place->Option cG)(ks:List Place):List UInt8:=ks.flatMap fun p=>qt p ((m p).getD A1)
noncomputable def tG (n:Nat)(saw:aW)(m:Place->Option cG):List UInt8:=eZ (saw.list.take n)++(ec (na m).length++jB m (na m))
theorem adI (m:Place->Option cG)(hk:k<ks.length):jB m (ks.take (k+1))=jB m (ks.take k)++qt ks[k] ((m ks[k]).getD A1):=by
 unfold jB;rw[kr hk,r3,kf,Bl,qu]
structure BR (p:Place)(x:cG):Prop where
 hG:x.kind=0∨x.kind=1∨x.kind=2∨x.kind=3
 key:p.key.size<=8
 el:p.el.size<=8
 val:x.value.size<=8
 e_: -9223372036854775808<=x.cH
 aq:x.cH<=9223372036854775807
theorem aqv {x:cG}(h:BR p x):(qt p x).length<=70:=by
 have hb:∀{s:ByteArray},s.size<=8->(gx s).length<=30:=fun{s} h=>by
  have h1:=qi (k:=s.size) (by omega) (by omega);have ae:s.data.toList.length=s.size:=by simp
  simp only[gx,eN];omega
 have h1:=hb h.key;have ae:=hb h.el;have aH:=hb h.val;have bd:=qi h.e_ h.aq;unfold qt;split
 ·simp only[eN];omega
 ·split
  ·simp only[eN];omega
  ·split<;>(simp only[eN,lP,w3];omega)
theorem OR {m:Place->Option cG}:∀{ks:List Place},(∀p,p∈ks->∃x,m p=some x∧BR p x)->(jB m ks).length<=70*ks.length
 |[],_=>by simp[jB]
 |a::l,h=>by
  have h1:=OR (m:=m) (ks:=l) fun p aw=>h p (by simp[aw])
  obtain⟨x,au,cu⟩:=h a (by simp);have ae:=aqv cu;simp only[jB,kf,eN,lP,au,Option.getD_some]at h1⊢;omega
theorem BR.ok {x:cG}(h:BR p x):p.Ok:=⟨by have:=h.key;unfold maxLen;omega,by have:=h.el;unfold maxLen;omega⟩
theorem nO.map (h:nO aj w w'){α β:Type}{k:TypeId}{ah:α->Value}{bB:β->Value}{m:α->Option β}(hm:cV w k b n ah bB m)(bS:b≠aj):cV w' k b n ah bB m:=by
 obtain⟨D,⟨es,clock,h1,ae⟩,-⟩:=hm.ex;exact hm.move ((h b _ h1 (by simpa using bS) (fun c hW e=>by cases e)).trans h1.symm)
theorem nO.row (h:nO aj w w'){v:Value}(aJ:w.ownsRow B e size v n xs)(he:e≠5)(bS:e≠193)(hw:∃cs,aQ w aj cs 193):w'.ownsRow B e size v n xs:=by
 rcases aJ.2 with⟨h1,-⟩|⟨g,cap,cur,rfl,-,aM,-⟩
 ·exact pL aJ fun g aM=>by rw[h1]at aM;simp[Value.ownBlock]at aM
 ·refine pL aJ fun oS vh=>?_
  have AI:g=oS:=by simpa[Value.ownBlock]using vh
  subst AI;refine(h g _ aM ?_ (fun c hW e=>by injection e with _ e;exact he e)).trans aM.symm;intro c;have c:g=aj:=by simpa using c
  subst c;obtain⟨cs,te⟩:=hw;rw[aQ,aM]at te;injection te with te
  injection te with _ te
  exact bS te
theorem j8.U {xs:List UInt8}(h:j8 B w aj n xs):∃cs,aQ w aj cs 193:=by
 obtain⟨sv,h⟩:=h;exact⟨_,h.U⟩
theorem aqx (B:Nat)(w:World)(aj n:Nat)(xs:List UInt8)(rep seq:Int)(saw:aW)(m:Place->Option cG)(b kG:Nat)(h:j8 B w aj n xs)(hn:n<=5)(aC:xs.length<=70000000000)(av:∀k,k∈saw.list-> -9223372036854775808<=k∧k<=9223372036854775807)(hm:cV w 129 b kG Place.val cG.val m)(hb:b≠aj)(bm:∀p x,m p=some x->BR p x)(AP:kG<=1000)(oI:DI B w):
  Calls prog 120 #[bl aj,OE rep seq saw (.map (some b))] w fun e w'=>e= .returned (.tuple #[])∧j8 B w' aj n (xs++tG n saw m)∧Below B w w'∧nO aj w w':=by
 have J2:=h.ao;have Gw:∀a,(m a).isSome->a.Ok:=fun a aU=>by
  obtain⟨x,au⟩:=Option.isSome_iff_exists.1 aU;exact(bm a x au).ok
 generalize dE:w.alloc (.cells #[.int .i64 rep,.int .i64 seq,.int .i64 saw.a,.int .i64 saw.b,.int .i64 saw.c,.int .i64 saw.d,.int .i64 saw.e,.map (some b)] 139)=bR;have bT:aQ bR w.heap.size [.int .i64 rep,.int .i64 seq,.int .i64 saw.a,.int .i64 saw.b,.int .i64 saw.c,.int .i64 saw.d,.int .i64 saw.e,.map (some b)] 139:=by rw[<-dE];exact heap_alloc_new w _
 have H1:Hid (rv B w aj n xs bR):=by rw[<-dE];exact rv.start h _
 have so:cV bR 129 b kG Place.val cG.val m:=by rw[<-dE];exact hm.move (Below.heap_alloc w _ _ hm.lt)
 have bS:w.heap.size≠aj:=by omega
 have d1:bR.cell? ⟨w.heap.size,2,none⟩=some (.int .i64 saw.a):=bT.cell 2;have d2:bR.cell? ⟨w.heap.size,3,none⟩=some (.int .i64 saw.b):=bT.cell 3;have d3:bR.cell? ⟨w.heap.size,4,none⟩=some (.int .i64 saw.c):=bT.cell 4;have d4:bR.cell? ⟨w.heap.size,5,none⟩=some (.int .i64 saw.d):=bT.cell 5;have d5:bR.cell? ⟨w.heap.size,6,none⟩=some (.int .i64 saw.e):=bT.cell 6;have dF:=J (⟨bT,so⟩:_∧_);have ic:=J dE;have ff:=J (Uk B bR aj n xs saw H1.o.wr hn (by omega) av (oI.on H1.o.cZ));have cz:=J bm;have h4:=J Gw;have bz:=yh av (k:=n) hn;have PE:=J bz;clear h bT dE so hm bm Gw av bz;go_enter func120,ntmps120;go_upto_region 1 with(fail);rw[ic.o];clear ic;go_wp2_with(go_at_call 119;refine ff.o.mono ?_;rintro e w2 ⟨rfl,aw⟩;refine Hid.o ?_)
 refine Lib.hid ?_;have bu:=J (H1.o.step aw);have e6:=aw.2.2.U dF.o.1 bS (by decide);have xU:=aw.2.2.map dF.o.2 hb;have dY:(xs++eZ (saw.list.take n)).length<=75000000000:=by have:=PE.o;rw[length_append];omega
 obtain⟨c,MI,oT,fh⟩:=xU.aar rV zn (fun a aU=>(h4.o a aU).lit) underlying120 3;have hlen:=fh w2 rfl;have t2:w2.cell? ⟨w.heap.size,7,none⟩=some (.map (some b)):=e6.cell 7;have cp:=J (Hr B w2 aj n _ c bu.o.wr (by omega) (by omega) (by omega) (oI.on bu.o.cZ));have dG:=J (⟨e6,xU⟩:_∧_);have dj:=J oT;clear aw ff H1 dF d1 d2 d3 d4 d5 e6 xU fh oT;go_wp2_with(go_at_call 157;refine cp.o.mono ?_;rintro e bN ⟨rfl,aw⟩;refine Hid.o ?_)
 refine Lib.hid ?_;have ck:=J (bu.o.step aw);have tc:=aw.2.2.U dG.o.1 bS (by decide);have Ru:=aw.2.2.map dG.o.2 hb;have lc:=qi (k:=(c:Int)) (by omega) (by omega);have ln:(xs++eZ (saw.list.take n)++ec c).length<=76000000000:=by rw[length_append];omega
 have t3:bN.cell? ⟨w.heap.size,7,none⟩=some (.map (some b)):=tc.cell 7;have wK:w.heap.size<bN.heap.size:=tc.lt;have jG:=J (⟨tc,Ru⟩:_∧_);have cD:=J (alI b bN);clear aw cp bu dG t2 hlen dY lc;go_wp2_with(go_at_call 164;refine cD.o.mono ?_;rintro e cc ⟨rfl,rfl⟩;refine Hid.o ?_)
 refine Lib.hid ?_;generalize we:bN.alloc (.cells #[.map (some b)] 120)=ie;have hX:Below bN.heap.size bN ie:=by rw[<-we];exact(Below.refl _ _).alloc (Nat.le_refl _) _
 have c4:ie.cell? ⟨bN.heap.size,0,none⟩=some (.map (some b)):=by rw[<-we];exact(show aQ _ bN.heap.size [.map (some b)] 120 from heap_alloc_new bN _).cell 0
 have M0:cV ie 129 b kG Place.val cG.val m:=jG.o.2.move (hX.block b jG.o.2.lt);have cd:=J (ck.o.later hX);have kM:=J (⟨jG.o.1.below hX,M0⟩:aQ ie w.heap.size _ _∧cV ie 129 b kG Place.val cG.val m);have aL:=J (ao_ bN.heap.size b kG m ie c4 M0 h4.o (by omega) (fun ks hK=>by have:=dj.o ks hK.1 hK.2;omega));clear we hX c4 M0 cD ck jG t3;go_wp2_with(go_at_call 163;refine aL.o.mono ?_;rintro e w5 ⟨v,ks,rfl,cx,n2,bf,c7⟩;refine Hid.o ?_)
 refine Lib.hid ?_;have dU:ks.length=c:=dj.o ks cx.1 cx.2;have AM:na m=ks:=aae cx n2;have cR:=J (cd.o.later c7);have Bv:=J (⟨kM.o.1.below c7,kM.o.2.move (c7.block b kM.o.2.lt)⟩:aQ w5 w.heap.size _ _∧cV w5 129 b kG Place.val cG.val m);have bc:=J bf;have bX:Hid (tG n saw m=eZ (saw.list.take n)++(ec c++jB m ks)):=by show tG n saw m=_;rw[tG,AM,dU]
 have fr:Hid (∀j (af:j<ks.length),∃x,m ks[j]=some x∧BR ks[j] x):=fun j af=>by
  obtain⟨x,au⟩:=Option.isSome_iff_exists.1 ((cx.2 ks[j]).1 (getElem_mem af));exact⟨x,au,cz.o _ x au⟩
 have akN:w.heap.size<w5.heap.size:=Bv.o.1.lt;subst dU;obtain⟨cA,cap,rfl,AA⟩:=Row.shape (e3 bf (Nat.zero_le _));clear bf c7 n2 cx AM aL cd kM dj cz h4;go_upto_region 4 with(fail);have aiR:=bc.o;go_loopw[5,20] (fun _ i wr=>∃k:Nat,k<=ks.length∧i= .int .i64 k∧Hid (rv B w aj n (xs++eZ (saw.list.take n)++ec ks.length++jB m (ks.take k)) wr∧aQ wr w.heap.size [.int .i64 rep,.int .i64 seq,.int .i64 saw.a,.int .i64 saw.b,.int .i64 saw.c,.int .i64 saw.d,.int .i64 saw.e,.map (some b)] 139∧cV wr 129 b kG Place.val cG.val m∧wr.ownsRow ie.heap.size 129 2 (.slice cA ks.length cap) ks.length (ks.flatMap mj))) (fun _ i _=>ks.length-(intOf i).toNat)
 case atStart=>exact⟨0,Nat.zero_le _,rfl,by simpa[jB]using cR.o,Bv.o.1,Bv.o.2,bc.o⟩
 case round=>
  clear bc Bv cR aiR;obtain⟨k,hk,rfl,aL⟩:=hrel;by_cases br:k<ks.length
  ·obtain⟨x,au,y0⟩:=fr.o k br
   obtain⟨g,aM,-⟩:=AA.2.2 0 (by omega);subst aM;have aJ:=aL.o.2.2.2;have eY:wr.cell? ⟨g,k*2,none⟩=some (.string ks[k].key):=by
    rw[World.ownsRow.cellAt aJ (k*2) (by omega),show k*2=k*2+0 by omega,hC mj 2 (fun _=>rfl) ks k 0 br (by omega)];rfl
   have q1:wr.cell? ⟨g,k*2+1,none⟩=some (.string ks[k].el):=by
    rw[World.ownsRow.cellAt aJ (k*2+1) (by omega),hC mj 2 (fun _=>rfl) ks k 1 br (by omega)];rfl
   generalize aw:ks[k]=p at*;obtain⟨eM,jn⟩:=p;simp only at eY q1;clear aJ;have cm:=J (⟨au,y0,aw⟩:_∧_∧_);clear au y0 aw;go_upto_region 6 with(fail);generalize j9:wr.alloc (.cells #[.string eM,.string jn] 129)=dv;have dT:Below wr.heap.size wr dv:=by rw[<-j9];exact(Below.refl _ _).alloc (Nat.le_refl _) _
   have gm:aQ dv wr.heap.size [.string eM,.string jn] 129:=by rw[<-j9];exact heap_alloc_new wr _
   have au:=cm.o.1;have dL:=J (aL.o.1.later dT);have qA:=J (⟨aL.o.2.1.below dT,aL.o.2.2.1.move (dT.block b aL.o.2.2.1.lt),pL aL.o.2.2.2 fun oS vh=>dT.block oS (aL.o.2.2.2.lt oS vh).2⟩:aQ dv w.heap.size _ _∧cV dv 129 b kG Place.val cG.val m∧dv.ownsRow ie.heap.size 129 2 _ ks.length (ks.flatMap mj));have cY:=aR.cell (show dv.cell? ⟨wr.heap.size,0,none⟩=some (.string eM)from gm.cell 0);have s1:=aR.cell (show dv.cell? ⟨wr.heap.size,1,none⟩=some (.string jn)from gm.cell 1);have s2:=aR.cell (show dv.cell? ⟨w.heap.size,7,none⟩=some (.map (some b))from qA.o.1.cell 7);obtain⟨cQ,dU⟩:=cm.o.2.1.ok.lit;have fX:∀f:dO (aR dv),(Instr.lookup 120 (.map (some b)) (.agg #[.string eM,.string jn]) false).run prog f.w= .ok x.val f.w:=fun f=>by
    have a:=(qA.o.2.1.move (f.ok.block b qA.o.2.1.lt)).lookup rV underlying120 (Uq f.w) dU;rw[au]at a;exact a
   clear au dU j9 gm eY q1;have ZQ:w.heap.size<dv.heap.size:=qA.o.1.lt;refine kd (aR dv) 6 (by kernel_rfl) (by kernel_rfl) (Below.refl _ _).drew ?_;simp only[take_succ_cons,take_zero,drop_succ_cons,drop_zero];repeat(go_big_quiet_step (fail))
   refine wpQuiet_nil ?_;intro _ ds;obtain⟨fq,rfl⟩:=ds;obtain⟨jT,gb⟩:=fq;try dsimp only
   clear cY s1 s2 fX;have jF:=J (dL.o.later gb);have Ft:=J (⟨qA.o.1.below gb,qA.o.2.1.move (gb.block b qA.o.2.1.lt),pL qA.o.2.2 fun oS vh=>gb.block oS (qA.o.2.2.lt oS vh).2⟩:aQ jT w.heap.size _ _∧cV jT 129 b kG Place.val cG.val m∧jT.ownsRow ie.heap.size 129 2 _ ks.length (ks.flatMap mj));have tv:(xs++eZ (saw.list.take n)++ec ks.length++jB m (ks.take k)).length<=80000000000:=by
    have:=OR (m:=m) (ks:=ks.take k) fun p aw=>by
     obtain⟨j,af,rfl⟩:=getElem_of_mem (mem_of_mem_take aw);exact fr.o j af
    rw[length_append];have:(ks.take k).length<=1000:=by simp;omega
    omega
   have DC:=J (aqy B jT aj n _ ⟨eM,jn⟩ x jF.o.wr tv cm.o.2.1.hG (Nat.le_trans cm.o.2.1.key (by omega)) (Nat.le_trans cm.o.2.1.el (by omega)) (Nat.le_trans cm.o.2.1.val (by omega)) cm.o.2.1.e_ cm.o.2.1.aq (oI.on jF.o.cZ));simp only[Place.val]at DC;clear dL qA dT gb;go_wp2_with(go_at_call 166;refine DC.o.mono ?_;rintro e kI ⟨rfl,aw⟩;refine Hid.o ?_)
   refine Lib.hid ?_;have kg:Hid (rv B w aj n (xs++eZ (saw.list.take n)++ec ks.length++jB m (ks.take (k+1))) kI):=by
    have a:=jF.o.step aw;have e:=adI m br;rw[cm.o.2.2,cm.o.1]at e;show rv B w aj n (xs++eZ (saw.list.take n)++ec ks.length++jB m (ks.take (k+1))) kI
    rw[e,<-append_assoc];exact a
   have Dm:=J (⟨aw.2.2.U Ft.o.1 bS (by decide),aw.2.2.map Ft.o.2.1 hb,aw.2.2.row Ft.o.2.2 (by decide) (by decide) jF.o.wr.U⟩:_∧_∧_);clear aw DC jF Ft aL;go_wp2_with fail
   exact⟨⟨k+1,by omega,by go_num,kg.o,Dm.o.1,Dm.o.2.1,Dm.o.2.2⟩,by simp[intOf];omega⟩
  ·have iA:k=ks.length:=by omega
   subst iA;go_wp2_with fail
   go_end0;exact⟨rfl,by rw[bX.o,<-append_assoc,<-append_assoc];simpa using aL.o.1.wr,aL.o.1.cZ,aL.o.1.AV⟩
structure dt where
 rep:Nat
 seq:Int
 saw:aW
 wr:Place->Option cG
def ia (x:dt×Nat):List Value:=[I x.1.rep,I x.1.seq,I x.1.saw.a,I x.1.saw.b,I x.1.saw.c,I x.1.saw.d,I x.1.saw.e,.map (some x.2)]
structure dt.Fit (t:dt):Prop where
 rep:t.rep<5
 saw:∀k,k∈t.saw.list-> -9223372036854775808<=k∧k<=9223372036854775807
 wr:∀p x,t.wr p=some x->BR p x
def nT (w:World)(x:dt×Nat):Prop:=cV w 129 x.2 16 Place.val cG.val x.1.wr
theorem nT.later {x:dt×Nat}(h:nT w x)(hb:ax w w'):nT w' x:=h.move (hb.block x.2 h.lt)
def mi:aW:=⟨0,0,0,0,0⟩
def la:List dt->aW
 |[]=>mi
 |t::l=>(la l).put t.rep ((la l).get t.rep+1)
theorem KW (v:aW)(aJ:r<5)(s:Int)(k:Nat):(v.put r s).get k=if k=r then s else v.get k:=by
 have h1:r=0∨r=1∨r=2∨r=3∨r=4:=by omega
 by_cases cS:k<5
 ·have ae:k=0∨k=1∨k=2∨k=3∨k=4:=by omega
  rcases h1 with rfl|rfl|rfl|rfl|rfl<;>rcases ae with rfl|rfl|rfl|rfl|rfl<;>simp[aW.put,aW.get,aW.list]
 ·have:∀x:aW,x.get k=0:=fun x=>by
   unfold aW.get aW.list;rw[kL,tL,yr (by simp;omega)];rfl
  rw[this,this,if_neg (by omega)]
theorem T6 {v':aW}(h:∀k:Nat,k<5->v.get k=v'.get k):v=v':=by
 have aS:=h 0 (by omega);have h1:=h 1 (by omega);have ae:=h 2 (by omega);have aH:=h 3 (by omega);have bd:=h 4 (by omega);cases v;cases v';simp only[aW.get,aW.list]at aS h1 ae aH bd;simp at aS h1 ae aH bd;simp[aS,h1,ae,aH,bd]
theorem ID (l:List dt)(aC:∀t,t∈l->t.rep<5)(k:Nat):(la l).get k=(l.countP fun t=>t.rep=k:Nat):=by
 induction l with
 |nil=>
  by_cases cS:k<5
  ·have ae:k=0∨k=1∨k=2∨k=3∨k=4:=by omega
   rcases ae with rfl|rfl|rfl|rfl|rfl<;>rfl
  ·unfold aW.get aW.list
   rw[kL,tL,yr (by simp;omega)];rfl
 |cons t l ih=>
  have dQ:=aC t (by simp);have aJ:=ih fun x au=>aC x (by simp[au])
  rw[la,KW _ dQ,countP_cons];by_cases c:k=t.rep
  ·subst c;simp[aJ]
  ·rw[if_neg c,aJ,if_neg (by simp;omega)];simp
theorem agT (l:List dt)(t:dt)(aC:∀t,t∈l->t.rep<5)(al:t.rep<5):la (l++[t])=(la l).put t.rep ((la l).get t.rep+1):=by
 refine T6 fun k hk=>?_
 rw[ID _ (fun x au=>by
  rw[hT,k4]at au;rcases au with au|rfl
  ·exact aC x au
  ·exact al),KW _ al,ID l aC,ID l aC,countP_append]
 by_cases c:k=t.rep
 ·subst c;simp
 ·rw[if_neg c];simp[show ¬t.rep=k by omega]
theorem L_ (l:List dt)(aC:∀t,t∈l->t.rep<5)(k:Nat):0<=(la l).get k∧(la l).get k<=l.length:=by
 rw[ID l aC];have:=countP_le_length (p:=fun t:dt=>decide (t.rep=k)) (l:=l);omega
theorem Tj (v:aW)(aJ:r<5)(s:Int):v.cells.set r (I s)=(v.put r s).cells:=by
 have h1:r=0∨r=1∨r=2∨r=3∨r=4:=by omega
 rcases h1 with rfl|rfl|rfl|rfl|rfl<;>simp[aW.put,aW.cells]
theorem C7 {k:Int}(h:k∈v.list):∃r:Nat,r<5∧v.get r=k:=by
 simp only[aW.list,h3,not_mem_nil,or_false]at h;rcases h with rfl|rfl|rfl|rfl|rfl
 ·exact⟨0,by omega,rfl⟩
 ·exact⟨1,by omega,rfl⟩
 ·exact⟨2,by omega,rfl⟩
 ·exact⟨3,by omega,rfl⟩
 ·exact⟨4,by omega,rfl⟩
noncomputable def hJ (n:Nat)(l:List dt):List UInt8:=l.flatMap fun t=>tG n t.saw t.wr
noncomputable def lS (n i:Nat)(v:aW)(l:List dt):List UInt8:=Oo (iH 97 n i (v.list.take n)++(eZ ((la l).list.take n)++hJ n l))
theorem ap1 {t:dt}(hn:n<=5)(h:t.Fit)(hm:nT w (t,b)):(tG n t.saw t.wr).length<=1300:=by
 have Gw:∀a,(t.wr a).isSome->∃cQ,keyOf prog 129 a.val=some cQ:=fun a aU=>by
  obtain⟨x,au⟩:=mn.1 aU;exact(h.wr a x au).ok.lit
 obtain⟨c,aA,hk,-⟩:=cV.aar hm rV zn Gw (t:=120) underlying120 0;have aA:=aA;have au:(na t.wr).length<=16∧∀p,p∈na t.wr->(t.wr p).isSome:=by
  unfold na;split
  ·rename_i dQ
   obtain⟨h1,-⟩:=Classical.choose_spec dQ;exact⟨by have:=hk _ h1.1 h1.2;omega,fun p aw=>(h1.2 p).1 aw⟩
  ·exact⟨by simp,fun p aw=>by simp at aw⟩
 have h1:=yh h.saw (k:=n) hn;have ae:=qi (k:=((na t.wr).length:Int)) (by omega) (by omega);have aH:=OR (m:=t.wr) (ks:=na t.wr) fun p aw=>by
  obtain⟨x,e⟩:=mn.1 (au.2 p aw);exact⟨x,e,h.wr p x e⟩
 simp only[tG,eN];omega
theorem adb {n:Nat}(hn:n<=5){w:World}:∀{l:List (dt×Nat)},(∀x,x∈l->x.1.Fit∧nT w x)->(hJ n (l.map Prod.fst)).length<=1300*l.length
 |[],_=>by simp[hJ]
 |a::l,h=>by
  have h1:=adb hn (w:=w) (l:=l) fun x au=>h x (by simp[au])
  have ae:=ap1 hn (h a (by simp)).1 (h a (by simp)).2;simp only[hJ,map_cons,kf,eN,lP]at h1⊢;omega
theorem ap4 (n:Nat){l:List dt}(hk:k<l.length):hJ n (l.take (k+1))=hJ n (l.take k)++tG n l[k].saw l[k].wr:=by
 unfold hJ;rw[kr hk,r3,kf,Bl,qu]
structure vH (w:World)(n i:Nat)(v:aW)(l:List (dt×Nat))(bz:Value)(xs:List UInt8)(wr:World):Prop where
 cZ:ax w wr
 K3:j8 w.heap.size wr (w.heap.size+1) n xs
 gp:aQ wr w.heap.size [I i,I v.a,I v.b,I v.c,I v.d,I v.e,bz] 154
theorem vH.later {i:Nat}{l:List (dt×Nat)}{bz:Value}{xs:List UInt8}(h:vH w n i v l bz xs wr)(hb:ax wr w'):vH w n i v l bz xs w':=
 ⟨h.cZ.trans (hb.mono h.cZ.size),h.K3.later hb,h.gp.below hb⟩
theorem vH.step {w:World}{n i:Nat}{v:aW}{l:List (dt×Nat)}{bz:Value}{xs bb:List UInt8}{wr w':World}(h:vH w n i v l bz xs wr)(aw:j8 w.heap.size w' (w.heap.size+1) n bb∧Below w.heap.size wr w'∧nO (w.heap.size+1) wr w'):vH w n i v l bz bb w':=
 ⟨h.cZ.trans aw.2.1,aw.1,aw.2.2.U h.gp (by omega) (by decide)⟩
theorem KS {l:List (dt×Nat)}(aJ:w.ownsRow base 139 8 (bo g l.length cap) l.length (l.flatMap ia))(hb:ax w wr)(hk:k<l.length){j:Nat}(af:j<8):wr.cell? (aa g (k*8+j))=(ia l[k])[j]?:=by
 have h1:=Fe aJ (k*8+j) (by omega);rw[hC ia 8 (fun _=>rfl) l k j hk af]at h1;rw[<-h1];exact hb.cell (p:=(aa g (k*8+j))) (aJ.lt g rfl).2
theorem aqz (w:World)(n i base:Nat)(v:aW)(l:List (dt×Nat))(bz:Value)(hn:n<=5)(aq:i<=5)(av:∀k,k∈v.list-> -9223372036854775808<=k∧k<=9223372036854775807)(bf:w.ownsRow base 139 8 bz l.length (l.flatMap ia))(aC:l.length<=50000000)(bm:∀x,x∈l->x.1.Fit∧nT w x)(al:fI w):
  Calls prog 77 #[I n,.agg #[I i,I v.a,I v.b,I v.c,I v.d,I v.e,bz]] w (bx (ai ⟨(lS n i v (l.map Prod.fst)).toArray⟩) fun w'=>ax w w'):=by
 obtain⟨cA,cap,rfl,AA⟩:=Row.shape (e3 bf ch);generalize dE:(w.alloc (.cells #[I i,I v.a,I v.b,I v.c,I v.d,I v.e,.slice cA l.length cap] 154)).alloc (.cells #[I n,.slice none 0 0] 193)=bR;have aF:ax w bR:=by rw[<-dE];exact((cj _ _)).alloc (by simp) _
 have bT:aQ bR w.heap.size [I i,I v.a,I v.b,I v.c,I v.d,I v.e,.slice cA l.length cap] 154:=by
  rw[<-dE];exact aQ.alloc (cC w _) _
 have o0:j8 w.heap.size bR (w.heap.size+1) n []:=by
  refine⟨.slice none 0 0,?_,pU _,jD _ _ _ _⟩;rw[<-dE,show w.heap.size+1=(w.alloc (.cells #[I i,I v.a,I v.b,I v.c,I v.d,I v.e,.slice cA l.length cap] 154)).heap.size by simp];exact cC _ _
 have aw:=Lib.tabBelow_of_tabIs al.pow;have dQ:=adB w.heap.size bR (w.heap.size+1) n i [] 97 v o0 hn aq (by simp) av (aw.on aF);rw[show((97:UInt8).toNat:Int)=97 from rfl,w1]at dQ;have aO:=J dQ;have H1:Hid (vH w n i v l (.slice cA l.length cap) [] bR):=⟨aF,o0,bT⟩;have ic:=J dE;have dA:=J al;have dp:=J aw;have bc:=J bf;have cz:=J bm;have ij:(iH 97 n i (v.list.take n)).length<=1000:=by
  have h1:=yh av (k:=n) hn;have ae:=qi (k:=n) (by omega) (by omega);have aH:=qi (k:=i) (by omega) (by omega);simp only[iH,lP,eN];omega
 have dn:=J ij;have d0:=bT.c0;have d1:=bT.c1;have d2:=bT.c2;have d3:=bT.c3;have d4:=bT.c4;have d5:=bT.c5;clear dE aF o0 aw al dQ bT bf bm av ij;go_enter func77,ntmps77;go_upto_region 2 with(fail);rw[ic.o];clear ic;go_wp2_with(go_at_call 113;refine aO.o.mono ?_;rintro e w2 ⟨rfl,aw⟩;refine gE ?_)
 refine Lib.hid ?_;have bu:=J (H1.o.step aw);have dK:w.heap.size+1<w2.heap.size:=aw.1.ao.2.1;clear aw aO H1 d0 d1 d2 d3 d4 d5;generalize f_:w2.alloc (.cells #[I 0,I 0,I 0,I 0,I 0] 104)=dH;have b0:ax w2 dH:=by rw[<-f_];exact cj _ _
 have e0:aQ dH w2.heap.size (la ((l.take 0).map Prod.fst)).cells 104:=by rw[<-f_];exact cC w2 _
 have ck:=J (bu.o.later b0);have jG:=J e0;have uJ:=J f_;have z3:=ck.o.gp.iG;clear b0 e0 f_ bu;go_upto_region 4 with(fail);rw[uJ.o];clear uJ;go_upto_region 5 with(fail);clear z3;go_loopw[8,21] (fun _ ii wr=>∃k:Nat,k<=l.length∧ii=I k∧Hid (vH w n i v l (.slice cA l.length cap) (iH 97 n i (v.list.take n)) wr∧aQ wr w2.heap.size (la ((l.take k).map Prod.fst)).cells 104)) (fun _ ii _=>l.length-(intOf ii).toNat)
 case atStart=>exact⟨0,ch,rfl,ck.o,jG.o⟩
 case round=>
  clear ck jG;obtain⟨k,hk,rfl,aL⟩:=hrel;by_cases br:k<l.length
  ·have au:=cz.o l[k] (eT br)
   obtain⟨g,aM,-⟩:=AA.2.2 0 (by omega);subst aM;have aA:=fun(j:Nat) (af:j<8)=>KS bc.o aL.o.1.cZ br af
   have kb:(l.take (k+1)).map Prod.fst=(l.take k).map Prod.fst++[l[k].1]:=by rw[kr br,tJ];rfl
   have JP:∀t,t∈(l.take k).map Prod.fst->t.rep<5:=fun t al=>by
    obtain⟨x,au,rfl⟩:=gF.1 al;exact(cz.o x (Fg au)).1.rep
   generalize aw:l[k]=p at*;obtain⟨⟨rep,seq,saw,m⟩,mb⟩:=p;have eY:wr.cell? (aa g (k*8))=some (I rep):=aA 0 (by omega);have q1:wr.cell? (aa g (k*8+1))=some (I seq):=aA 1 (by omega);have dy:wr.cell? (aa g (k*8+2))=some (I saw.a):=aA 2 (by omega);have fE:wr.cell? (aa g (k*8+3))=some (I saw.b):=aA 3 (by omega);have hf:wr.cell? (aa g (k*8+4))=some (I saw.c):=aA 4 (by omega);have nG:wr.cell? (aa g (k*8+5))=some (I saw.d):=aA 5 (by omega);have nc:wr.cell? (aa g (k*8+6))=some (I saw.e):=aA 6 (by omega);have wR:wr.cell? (aa g (k*8+7))=some (.map (some mb)):=aA 7 (by omega);have qV:rep<5:=au.1.rep;have cm:=J (⟨au,aw,kb⟩:_∧_∧_);have dj:=J (L_ _ JP rep);have vL:=J JP;clear au aw kb aA JP;go_upto_region 7 with(fail);generalize j9:wr.alloc (.cells #[I rep,I seq,I saw.a,I saw.b,I saw.c,I saw.d,I saw.e,.map (some mb)] 139)=dv;have dT:ax wr dv:=by rw[<-j9];exact cj _ _
   have gm:aQ dv wr.heap.size [I rep,I seq,I saw.a,I saw.b,I saw.c,I saw.d,I saw.e,.map (some mb)] 139:=by rw[<-j9];exact cC wr _
   have dL:=J (aL.o.1.later dT);have qA:=J (aL.o.2.below dT);have cY:=gm.c0;have s1:dv.cell? (aa (w2.heap.size) rep)=some (I ((la ((l.take k).map Prod.fst)).get rep)):=by rw[qA.o.cell rep];exact C6 _ qV
   have s2:dv.frozen? (aa (w2.heap.size) rep)=false:=qA.o.frozen rep;have g1:(rep:Int)<5:=by omega
   obtain⟨c,aA⟩:∃c,(la ((l.take k).map Prod.fst)).get rep=c:=⟨_,rfl⟩;rw[aA]at s1 dj;have c0:0<=c:=dj.o.1;have c1:c<=50000000:=by have:=dj.o.2;simp at this;omega
   have ZQ:=qA.o.lt;have cp:Hid (vH w n i v l (bo g l.length cap) (iH 97 n i (v.list.take n)) (dv.setCell (aa (w2.heap.size) rep) (I (c+1)))∧aQ (dv.setCell (aa (w2.heap.size) rep) (I (c+1))) w2.heap.size (la ((l.take (k+1)).map Prod.fst)).cells 104):=by
    refine⟨?_,?_⟩
    ·have aD:Touch (fun q=>q=w2.heap.size) dv (dv.setCell (aa (w2.heap.size) rep) (I (c+1))):=(Touch.refl (fun q=>q=w2.heap.size) dv).setCell (p:=(aa (w2.heap.size) rep)) (Or.inl rfl) _
     refine⟨dL.o.cZ.setCell (p:=(aa (w2.heap.size) rep)) (by show w.heap.size<=w2.heap.size;omega) _,?_,dL.o.gp.other (by show w.heap.size≠w2.heap.size;omega) _⟩;obtain⟨sv,hs⟩:=dL.o.K3;refine⟨sv,hs.U.other (by show w.heap.size+1≠w2.heap.size;omega) _,hs.ao,pL hs.own fun q ad=>rb _ _ _ _ fun e=>?_⟩;obtain⟨V1,hW,dQ⟩:=NW hs.own q ad;have dI:q=w2.heap.size:=e;rw[dI,show dv.heap[w2.heap.size]?=_ from qA.o]at dQ;injection dQ with dQ
     injection dQ with _ dQ
     exact absurd dQ (by decide)
    ·rw[cm.o.2.2,agT _ _ vL.o qV,<-Tj _ qV,aA]
     exact qA.o.set rep _
   clear j9 dT gm eY q1 dy fE hf nG nc wR dj aA;go_wp2_with fail
   exact⟨⟨k+1,by omega,by go_num,cp.o⟩,by simp[intOf];omega⟩
  ·have iA:k=l.length:=by omega
   subst iA;rw[tI]at aL;go_upto_region 9 with(fail);have vL:Hid (∀t,t∈l.map Prod.fst->t.rep<5):=fun t al=>by
    obtain⟨x,au,rfl⟩:=gF.1 al;exact(cz.o x au).1.rep
   obtain⟨b4,oU⟩:∃b4,la (l.map Prod.fst)=b4:=⟨_,rfl⟩;have n_:∀k,k∈b4.list-> -9223372036854775808<=k∧k<=9223372036854775807:=fun k hk=>by
    obtain⟨r,-,rfl⟩:=C7 hk;have:=L_ _ vL.o r;rw[oU]at this;simp at this;omega
   rw[oU]at aL;have eo:=aL.o.2.c0;have aP:=aL.o.2.c1;have ba:=aL.o.2.c2;have ey:=aL.o.2.c3;have hB:=aL.o.2.c4;have bz:=yh n_ (k:=n) hn;have PE:=J bz;have ff:=J (Uk w.heap.size wr (w.heap.size+1) n _ b4 aL.o.1.K3 hn (by have:=dn.o;omega) n_ (dp.o.on aL.o.1.cZ));have pn:=J oU;clear n_ bz oU;go_wp2_with(go_at_call 119;refine ff.o.mono ?_;rintro e bN ⟨rfl,aw⟩;refine gE ?_)
   refine Lib.hid ?_;have cd:=J (aL.o.1.step aw);have z4:=cd.o.gp.iG;have R8:w.heap.size+1<bN.heap.size:=aw.1.ao.2.1;clear aw ff aL eo aP ba ey hB;go_upto_region 11 with(fail);clear z4;have aty:(iH 97 n i (v.list.take n)++eZ (b4.list.take n)).length<=2000:=by have h1:=PE.o;have ae:=dn.o;rw[eN];omega
   go_loopw[10,39] (fun _ ii Bd=>∃k:Nat,k<=l.length∧ii=I k∧Hid (vH w n i v l (.slice cA l.length cap) (iH 97 n i (v.list.take n)++eZ (b4.list.take n)++hJ n ((l.take k).map Prod.fst)) Bd)) (fun _ ii _=>l.length-(intOf ii).toNat)
   case atStart=>exact⟨0,ch,rfl,by simpa[hJ]using cd⟩
   case round=>
    clear cd;obtain⟨k,tj,rfl,aL⟩:=hrel;have AY:(iH 97 n i (v.list.take n)++eZ (b4.list.take n)++hJ n ((l.take k).map Prod.fst)).length<=70000000000:=by
     have h1:=adb (n:=n) hn (w:=w) (l:=l.take k) fun x au=>cz.o x (Fg au)
     have ae:(l.take k).length<=50000000:=by simp;omega
     rw[eN];omega
    by_cases br:k<l.length
    ·have au:=cz.o l[k] (eT br)
     obtain⟨g,aM,-⟩:=AA.2.2 0 (by omega);subst aM;have aA:=fun(j:Nat) (af:j<8)=>KS bc.o aL.o.cZ br af
     have kb:hJ n ((l.take (k+1)).map Prod.fst)=hJ n ((l.take k).map Prod.fst)++tG n l[k].1.saw l[k].1.wr:=by
      rw[map_take,map_take,ap4 n (by simpa using br)];simp
     generalize aw:l[k]=p at*;obtain⟨⟨rep,seq,saw,m⟩,mb⟩:=p;have eY:wr.cell? (aa g (k*8))=some (I rep):=aA 0 (by omega);have q1:wr.cell? (aa g (k*8+1))=some (I seq):=aA 1 (by omega);have dy:wr.cell? (aa g (k*8+2))=some (I saw.a):=aA 2 (by omega);have fE:wr.cell? (aa g (k*8+3))=some (I saw.b):=aA 3 (by omega);have hf:wr.cell? (aa g (k*8+4))=some (I saw.c):=aA 4 (by omega);have nG:wr.cell? (aa g (k*8+5))=some (I saw.d):=aA 5 (by omega);have nc:wr.cell? (aa g (k*8+6))=some (I saw.e):=aA 6 (by omega);have wR:wr.cell? (aa g (k*8+7))=some (.map (some mb)):=aA 7 (by omega);have cm:=J (⟨au,aw,kb⟩:_∧_∧_);clear au aw kb aA;go_upto_region 13 with(fail);generalize j9:wr.alloc (.cells #[I rep,I seq,I saw.a,I saw.b,I saw.c,I saw.d,I saw.e,.map (some mb)] 139)=dv;have dT:ax wr dv:=by rw[<-j9];exact cj _ _
     have gm:aQ dv wr.heap.size [I rep,I seq,I saw.a,I saw.b,I saw.c,I saw.d,I saw.e,.map (some mb)] 139:=by rw[<-j9];exact cC wr _
     have dL:=J (aL.o.later dT);have cY:=gm.c0;have s1:=gm.c1;have s2:=gm.c2;have fX:=gm.c3;have hI:=gm.c4;have sG:=gm.c5;have uz:=gm.iG;have sH:=gm.hA;have hm:nT w (⟨rep,seq,saw,m⟩,mb):=cm.o.1.2;have wg:=hm.lt;have iF:=J (aqx w.heap.size dv (w.heap.size+1) n _ rep seq saw m mb 16 dL.o.K3 hn AY cm.o.1.1.saw (hm.move (dL.o.cZ.block mb wg)) (by omega) cm.o.1.1.wr (by omega) (dp.o.on dL.o.cZ));clear j9 dT gm eY q1 dy fE hf nG nc wR hm wg;go_wp2_with(go_at_call 120;refine iF.o.mono ?_;rintro e qs ⟨rfl,aw⟩;refine gE ?_)
     refine Lib.hid ?_;have jF:Hid (vH w n i v l (bo g l.length cap) (iH 97 n i (v.list.take n)++eZ (b4.list.take n)++hJ n ((l.take (k+1)).map Prod.fst)) qs):=by
      have a:=dL.o.step aw;show vH _ _ _ _ _ _ _ _
      rw[cm.o.2.2,<-mN];exact a
     clear aw iF dL aL cY s1 s2 fX hI sG uz sH;go_wp2_with fail
     exact⟨⟨k+1,by omega,by go_num,jF.o⟩,by simp[intOf];omega⟩
    ·have iA:k=l.length:=by omega
     subst iA;rw[tI]at aL AY;have bX:=J (adA w.heap.size wr (w.heap.size+1) n _ aL.o.K3 (by simp[iH]) (by omega) (dA.o.later aL.o.cZ).FX);go_wp2_with(go_at_call 114;refine bX.o.mono ?_;rintro e kI ⟨rfl,Gk⟩;have Dm:=J Gk;clear Gk)
     go_ret;refine⟨?_,aL.o.cZ.trans (Dm.o.mono aL.o.cZ.size)⟩;rw[lS,pn.o,<-mN];rfl
theorem P1 (s:ByteArray):(⟨s.data.toList.toArray⟩:ByteArray)=s:=by
 apply ByteArray.ext;simp
theorem Iv (w:World)(ak n:Nat)(t:ByteArray)(a:Nat)(s:ByteArray)(aq:Int)(m:Bool)(u:List UInt8)(h:ga w ak n t a)(hs:(s.size:Int)<=aq)(mZ:aq<=1000)(au:fU m (t.data.toList.drop a) (gx s++u))(al:fI w):
  Calls prog 256 #[bl ak,I aq] w (Ends w ak n t m (a+(gx s).length) u (ai s)):=by
 have oa:fU m (t.data.toList.drop a) (ec s.size++(s.data.toList++u)):=by simpa[gx]using au
 have cp:=J (GX w ak n t a 0 aq s.size m _ h oa (by omega) (by omega) (by omega) hs al);have aO:=J h;clear au oa h;go_enter func256,ntmps256;go_wp2_with(go_at_call 161;refine cp.o.mono ?_;rintro e w2 ⟨eD,⟨rfl,ae,b_⟩|⟨hm,rfl⟩⟩<;>refine gE ?_)
 all_goals refine Lib.hid ?_
 rotate_left
 ·exact⟨rfl,eD,Or.inr ⟨by first|exact hm|rfl,rfl⟩⟩
 have cD:=J (TW w2 ak n t (a+(ec s.size).length) s.size s.data.toList m u ae (by simp) b_);have zV:=J eD;clear eD ae b_ cp;go_wp2_with(go_at_call 160;refine cD.o.mono ?_;rintro e bN ⟨lE,⟨rfl,aH,dW⟩|⟨hm,rfl⟩⟩<;>refine gE ?_)
 all_goals refine Lib.hid ?_
 rotate_left
 ·exact⟨rfl,zV.o.then lE,Or.inr ⟨by first|exact hm|rfl,rfl⟩⟩
 have ck:=J (⟨zV.o.then lE,aH,dW⟩:_∧_∧_);rw[P1];have dj:=J (F2 s (by omega) bN);clear lE aH dW cD zV;go_wp2_with(go_at_call 63;refine dj.o.mono ?_;rintro e cc ⟨rfl,fZ⟩;have kM:=J fZ;clear fZ)
 go_ret;have aU:a+(gx s).length=a+(ec s.size).length+s.size:=by simp[gx];omega
 refine⟨ck.o.1.then (Touch.dh kM.o),Or.inl ⟨rfl,?_,?_⟩⟩
 ·rw[aU];exact ck.o.2.1.later kM.o
 ·rw[aU];exact ck.o.2.2
theorem agw (w:World)(ak n:Nat)(t:ByteArray)(a:Nat)(k:Int)(hk:k=2∨k=3)(m:Bool)(u:List UInt8)(h:ga w ak n t a)(au:fU m (t.data.toList.drop a) ([if k=2 then 43 else 45]++u)):
  Calls prog 257 #[bl ak] w (Ends w ak n t m (a+1) u (I k)):=by
 obtain⟨c,aA⟩:∃c:UInt8,(if k=2 then 43 else 45)=c:=⟨_,rfl⟩;rw[aA]at au;have cD:=J (TW w ak n t a 1 [c] m u h rfl au);have UG:=J aA;clear au h aA;rcases hk with rfl|rfl
 ·have j_:c=43:=by have:=UG.o;simpa using this.symm
  subst j_;go_enter func257,ntmps257;go_wp2_with(go_at_call 160;refine cD.o.mono ?_;rintro e w2 ⟨eD,⟨rfl,ae,b_⟩|⟨hm,rfl⟩⟩<;>refine gE ?_)
  all_goals refine Lib.hid ?_
  rotate_left
  ·exact⟨rfl,eD,Or.inr ⟨by first|exact hm|rfl,rfl⟩⟩
  have bu:=J (⟨eD,ae,b_⟩:_∧_∧_);clear eD ae b_ cD;go_wp2_with(go_at_call 159;refine(Al _).mono ?_;rintro e bN ⟨rfl,rfl⟩)
  go_ret;exact⟨bu.o.1,Or.inl ⟨rfl,bu.o.2.1,bu.o.2.2⟩⟩
 ·have j_:c=45:=by have:=UG.o;simpa using this.symm
  subst j_;go_enter func257,ntmps257;go_wp2_with(go_at_call 160;refine cD.o.mono ?_;rintro e w2 ⟨eD,⟨rfl,ae,b_⟩|⟨hm,rfl⟩⟩<;>refine gE ?_)
  all_goals refine Lib.hid ?_
  rotate_left
  ·exact⟨rfl,eD,Or.inr ⟨by first|exact hm|rfl,rfl⟩⟩
  have bu:=J (⟨eD,ae,b_⟩:_∧_∧_);clear eD ae b_ cD;go_wp2_with(go_at_call 159;refine(Al _).mono ?_;rintro e bN ⟨rfl,rfl⟩)
  go_ret;exact⟨bu.o.1,Or.inl ⟨rfl,bu.o.2.1,bu.o.2.2⟩⟩
def xw (p:Place)(x:cG):Prop:=
 (kindOf p.key=99∧p.el=⟨#[]⟩∧x.kind=0∧x.value=⟨#[]⟩∧-16000000<=x.cH∧x.cH<=16000000)∨
 (kindOf p.key=114∧p.el=⟨#[]⟩∧x.kind=1∧x.cH=0∧x.value.size<=8)∨
 (kindOf p.key=115∧(x.kind=2∨x.kind=3)∧x.cH=0∧x.value=⟨#[]⟩∧p.el.size<=8)
theorem GN {k:Int}(h:kindOf s=k)(hk:k≠0):s.size<=8:=by
 unfold kindOf at h;split at h
 ·rename_i dQ;exact dQ.2
 ·exact absurd h.symm hk
theorem xw.fit {x:cG}(h:xw p x):BR p x:=by
 rcases h with⟨h1,ae,aH,bd,cS,ep⟩|⟨h1,ae,aH,bd,cS⟩|⟨h1,ae,aH,bd,cS⟩
 ·exact⟨Or.inl aH,GN h1 (by omega),by rw[ae];decide,by rw[bd];decide,by omega,by omega⟩
 ·exact⟨Or.inr (Or.inl aH),GN h1 (by omega),by rw[ae];decide,cS,by omega,by omega⟩
 ·exact⟨Or.inr (Or.inr ae),GN h1 (by omega),cS,by rw[bd];decide,by omega,by omega⟩
structure s4 (w:World)(ak n:Nat)(t:ByteArray)(m:Bool)(cf:Nat)(u:List UInt8)(wr:World):Prop where
 rd:ga wr ak n t cf
 rem:fU m (t.data.toList.drop cf) u
 e2:Touch (fun q=>q=ak) w wr
 dc:aQ wr w.heap.size [ai ⟨#[]⟩,ai ⟨#[]⟩] 129
 bT:aQ wr (w.heap.size+1) [I 0,I 0,ai ⟨#[]⟩] 132
theorem s4.step {w:World}{ak n:Nat}{t:ByteArray}{m:Bool}{cf a2:Nat}{u u2:List UInt8}{wr w2:World}(h:s4 w ak n t m cf u wr)(il:ak<w.heap.size)(T:Touch (fun q=>q=ak) wr w2)(r:ga w2 ak n t a2)(q:fU m (t.data.toList.drop a2) u2):s4 w ak n t m a2 u2 w2:=
 ⟨r,q,h.e2.then T,h.dc.ay T (by omega),h.bT.ay T (by omega)⟩
theorem s4.later {t:ByteArray}(h:s4 w ak n t m cf u wr)(hb:ax wr w2):s4 w ak n t m cf u w2:=
 ⟨h.rd.later hb,h.rem,h.e2.then (Touch.dh hb),h.dc.below hb,h.bT.below hb⟩
abbrev CY (w:World)(b c:Nat)(p:Place)(x:cG):World:=((((w.setCell ⟨b,0,none⟩ (.string p.key)).setCell ⟨b,1,none⟩ (.string p.el)).setCell ⟨c,0,none⟩ (.int .i64 x.kind)).setCell ⟨c,1,none⟩ (.int .i64 x.cH)).setCell ⟨c,2,none⟩ (.string x.value)
theorem s4.put {t:ByteArray}(h:s4 w ak n t m cf u wr)(il:ak<w.heap.size)(p:Place)(x:cG):
  aQ (CY wr w.heap.size (w.heap.size+1) p x).drew w.heap.size [ai p.key,ai p.el] 129∧aQ (CY wr w.heap.size (w.heap.size+1) p x).drew (w.heap.size+1) [I x.kind,I x.cH,ai x.value] 132∧Touch (fun q=>q=ak) w (CY wr w.heap.size (w.heap.size+1) p x).drew∧ga (CY wr w.heap.size (w.heap.size+1) p x).drew ak n t cf:=by
 have og:w.heap.size+1≠w.heap.size:=by omega
 have fD:w.heap.size≠w.heap.size+1:=by omega
 have mh:ak≠w.heap.size:=by omega
 have GW:ak≠w.heap.size+1:=by omega
 have a0:=h.dc.set 0 (ai p.key);have cO:=a0.set 1 (ai p.el);have a2:=cO.other (p:=(aa (w.heap.size+1) 0)) fD (I x.kind);have a3:=a2.other (p:=(aa (w.heap.size+1) 1)) fD (I x.cH);have a4:=a3.other (p:=(aa (w.heap.size+1) 2)) fD (ai x.value);have c0:=h.bT.other (p:=(aa (w.heap.size) 0)) og (ai p.key);have c1:=c0.other (p:=(aa (w.heap.size) 1)) og (ai p.el);have c2:=c1.set 0 (I x.kind);have c3:=c2.set 1 (I x.cH);have c4:=c3.set 2 (ai x.value);have d0:=h.rd.U.other (p:=(aa (w.heap.size) 0)) mh (ai p.key);have d1:=d0.other (p:=(aa (w.heap.size) 1)) mh (ai p.el);have d2:=d1.other (p:=(aa (w.heap.size+1) 0)) GW (I x.kind);have d3:=d2.other (p:=(aa (w.heap.size+1) 1)) GW (I x.cH);have d4:=d3.other (p:=(aa (w.heap.size+1) 2)) GW (ai x.value);have eo:=h.e2.setCell (p:=(aa (w.heap.size) 0)) (Or.inr cv) (ai p.key);have aP:=eo.setCell (p:=(aa (w.heap.size) 1)) (Or.inr cv) (ai p.el);have ba:=aP.setCell (p:=(aa (w.heap.size+1) 0)) (Or.inr (pU _)) (I x.kind);have ey:=ba.setCell (p:=(aa (w.heap.size+1) 1)) (Or.inr (pU _)) (I x.cH);have hB:=ey.setCell (p:=(aa (w.heap.size+1) 2)) (Or.inr (pU _)) (ai x.value);clear a0 cO a2 a3 c0 c1 c2 c3 d0 d1 d2 d3 eo aP ba ey;unfold CY;generalize World.setCell _ _ _=Z at*;exact⟨a4,c4,hB.drew,⟨d4,h.rd.le,h.rd.sm,h.rd.hi⟩⟩
theorem aqB (w:World)(ak n:Nat)(t:ByteArray)(a:Nat)(key:ByteArray)(am:Int)(m:Bool)(u:List UInt8)(h:ga w ak n t a)(hk:kindOf key=99)(aS: -16000000<=am)(h1:am<=16000000)(au:fU m (t.data.toList.drop a) (gx key++(ec am++u)))(al:fI w):
  Calls prog 224 #[bl ak] w (Ends w ak n t m (a+(gx key).length+(ec am).length) u (.tuple #[.agg #[ai key,ai ⟨#[]⟩],.agg #[I 0,I am,ai ⟨#[]⟩]])):=by
 have hK:=GN hk (by omega);have il:=h.U.lt;generalize bj:(w.alloc (.cells #[ai ⟨#[]⟩,ai ⟨#[]⟩] 129)).alloc (.cells #[I 0,I 0,ai ⟨#[]⟩] 132)=W0;have bp:ax w W0:=by rw[<-bj];exact((cj _ _)).alloc (by simp) _
 have fk:Hid (s4 w ak n t m a (gx key++(ec am++u)) W0):=by
  refine⟨h.later bp,au,Touch.dh bp,?_,?_⟩
  ·rw[<-bj];exact aQ.alloc (cC w _) _
  ·rw[<-bj,show w.heap.size+1=(w.alloc (.cells #[ai ⟨#[]⟩,ai ⟨#[]⟩] 129)).heap.size by simp]
   exact cC _ _
 have cp:=J (Iv W0 ak n t a key 8 m _ fk.o.rd (by omega) (by omega) fk.o.rem (al.later bp));have aO:=J h;have di:=J bj;have fj:=E3 key;rw[hk]at fj;have k7:=J fj;have dA:=J al;clear h au bj bp fj hk al;go_enter func224,ntmps224;go_wp2_with(go_at_call 256;rw[di.o];refine cp.o.mono ?_;rintro e w2 ⟨eD,⟨rfl,ae,b_⟩|⟨hm,rfl⟩⟩<;>refine gE ?_)
 all_goals refine Lib.hid ?_
 rotate_left
 ·exact⟨rfl,fk.o.e2.then eD,Or.inr ⟨by first|exact hm|rfl,rfl⟩⟩
 have bu:=J (fk.o.step il eD ae b_);clear eD ae b_ cp di fk;have dK:=bu.o.bT.lt;go_upto_region 3 with(fail);generalize f_:(w2.alloc (.cells #[ai key,ai ⟨#[]⟩] 129)).alloc (.cells #[I 0,I 0,ai ⟨#[]⟩] 132)=dH;have b0:ax w2 dH:=by rw[<-f_];exact((cj _ _)).alloc (by simp) _
 have ck:=J (bu.o.later b0);have eL:aQ dH w2.heap.size [ai key,ai ⟨#[]⟩] 129:=by rw[<-f_];exact aQ.alloc (cC w2 _) _
 have d_:aQ dH (w2.heap.size+1) [I 0,I 0,ai ⟨#[]⟩] 132:=by
  rw[<-f_,show w2.heap.size+1=(w2.alloc (.cells #[ai key,ai ⟨#[]⟩] 129)).heap.size by simp];exact cC _ _
 have ek:=eL.c0;have wK:=d_.lt;have xk:=J (⟨eL,d_⟩:_∧_);have BA:=J (GX dH ak n t (a+(gx key).length) (-16000000) 16000000 am m u ck.o.rd ck.o.rem (by omega) (by omega) aS h1 (aO.o.ke dA.o ck.o.e2));clear f_ b0 eL d_ bu;go_wp2_with(first|(go_at_call 61;refine(k7.o _ (by unfold maxLen;omega)).mono ?_;rintro e bN ⟨rfl,rfl⟩)|(go_at_call 161;refine BA.o.mono ?_;rintro e cc ⟨j7,⟨rfl,bd,iw⟩|⟨hm,rfl⟩⟩<;>refine gE ?_))
 all_goals refine Lib.hid ?_
 rotate_left
 ·exact⟨rfl,ck.o.e2.then j7,Or.inr ⟨by first|exact hm|rfl,rfl⟩⟩
 have cd:=J (ck.o.step il j7 bd iw);have fO:=xk.o.1.ay j7 (by omega);have ev:=xk.o.2.ay j7 (by omega);have sS:=J (⟨fO,ev⟩:_∧_);have dm:=ev.c0;have dz:=ev.c1;have ei:=ev.c2;have f0:=ev.frozen 0;have f1:=ev.frozen 1;have f2:=ev.frozen 2;have R8:=ev.lt;clear j7 bd iw BA ck xk ek fO ev k7;go_upto_region 12 with(fail);have gv:=((sS.o.2.set 0 (I 0)).set 1 (I am)).set 2 (ai ⟨#[]⟩);have eO:Touch (fun q=>q=w2.heap.size+1) cc (((cc.setCell (aa (w2.heap.size+1) 0) (I 0)).setCell (aa (w2.heap.size+1) 1) (I am)).setCell (aa (w2.heap.size+1) 2) (ai ⟨#[]⟩)):=(((Touch.refl (fun q=>q=w2.heap.size+1) cc).setCell (p:=(aa (w2.heap.size+1) 0)) (Or.inl rfl) _).setCell (p:=(aa (w2.heap.size+1) 1)) (Or.inl rfl) _).setCell (p:=(aa (w2.heap.size+1) 2)) (Or.inl rfl) _;clear dm dz ei f0 f1 f2;generalize World.setCell _ _ _=fY at*;have pM:=sS.o.1.ay eO (by omega);have cR:Hid (s4 w ak n t m (a+(gx key).length+(ec am).length) u fY):=
  ⟨⟨cd.o.rd.U.ay eO (by omega),cd.o.rd.le,cd.o.rd.sm,cd.o.rd.hi⟩,cd.o.rem,cd.o.e2.trans (eO.mono fun q _ e=>Or.inr (by omega)),cd.o.dc.ay eO (by omega),cd.o.bT.ay eO (by omega)⟩
 clear cd sS eO;have U4:=J (⟨pM,gv⟩:_∧_);have x0:=pM.c0;have gr:=pM.c1;have dm:=gv.c0;have dz:=gv.c1;have ei:=gv.c2;have eE:=cR.o.dc.c0;have cB:=cR.o.dc.c1;have eY:=cR.o.dc.frozen 0;have q1:=cR.o.dc.frozen 1;have cY:=cR.o.bT.c0;have s1:=cR.o.bT.c1;have s2:=cR.o.bT.c2;have g0:=cR.o.bT.frozen 0;have g1:=cR.o.bT.frozen 1;have g2:=cR.o.bT.frozen 2;clear pM gv;go_region;have n1:=cR.o.put il ⟨key,⟨#[]⟩⟩ ⟨0,am,⟨#[]⟩⟩;unfold CY at n1;have zS:=J n1;clear n1 eE cB eY q1 cY s1 s2 g0 g1 g2 x0 gr dm dz ei;go_wp2_with fail
 obtain⟨iQ,eA,aD,bI⟩:=zS.o;generalize World.drew _=jT at*;have d0:=iQ.c0;have d1:=iQ.c1;have eo:=eA.c0;have aP:=eA.c1;have ba:=eA.c2;exact iX (v:= .tuple #[.agg #[ai key,ai ⟨#[]⟩],.agg #[I 0,I am,ai ⟨#[]⟩]]) (by simp[results,results224,go_sem,d0,d1,eo,aP,ba]) rfl ⟨aD,Or.inl ⟨rfl,bI,cR.o.rem⟩⟩
theorem aqC (w:World)(ak n:Nat)(t:ByteArray)(a:Nat)(key js:ByteArray)(m:Bool)(u:List UInt8)(h:ga w ak n t a)(hk:kindOf key=114)(av:js.size<=8)(au:fU m (t.data.toList.drop a) (gx key++(gx js++u)))(al:fI w):
  Calls prog 224 #[bl ak] w (Ends w ak n t m (a+(gx key).length+(gx js).length) u (.tuple #[.agg #[ai key,ai ⟨#[]⟩],.agg #[I 1,I 0,ai js]])):=by
 have hK:=GN hk (by omega);have il:=h.U.lt;generalize bj:(w.alloc (.cells #[ai ⟨#[]⟩,ai ⟨#[]⟩] 129)).alloc (.cells #[I 0,I 0,ai ⟨#[]⟩] 132)=W0;have bp:ax w W0:=by rw[<-bj];exact((cj _ _)).alloc (by simp) _
 have fk:Hid (s4 w ak n t m a (gx key++(gx js++u)) W0):=by
  refine⟨h.later bp,au,Touch.dh bp,?_,?_⟩
  ·rw[<-bj];exact aQ.alloc (cC w _) _
  ·rw[<-bj,show w.heap.size+1=(w.alloc (.cells #[ai ⟨#[]⟩,ai ⟨#[]⟩] 129)).heap.size by simp]
   exact cC _ _
 have cp:=J (Iv W0 ak n t a key 8 m _ fk.o.rd (by omega) (by omega) fk.o.rem (al.later bp));have aO:=J h;have di:=J bj;have fj:=E3 key;rw[hk]at fj;have k7:=J fj;have dA:=J al;clear h au bj bp fj hk al;go_enter func224,ntmps224;go_wp2_with(go_at_call 256;rw[di.o];refine cp.o.mono ?_;rintro e w2 ⟨eD,⟨rfl,ae,b_⟩|⟨hm,rfl⟩⟩<;>refine gE ?_)
 all_goals refine Lib.hid ?_
 rotate_left
 ·exact⟨rfl,fk.o.e2.then eD,Or.inr ⟨by first|exact hm|rfl,rfl⟩⟩
 have bu:=J (fk.o.step il eD ae b_);clear eD ae b_ cp di fk;have dK:=bu.o.bT.lt;go_upto_region 3 with(fail);generalize f_:(w2.alloc (.cells #[ai key,ai ⟨#[]⟩] 129)).alloc (.cells #[I 0,I 0,ai ⟨#[]⟩] 132)=dH;have b0:ax w2 dH:=by rw[<-f_];exact((cj _ _)).alloc (by simp) _
 have ck:=J (bu.o.later b0);have eL:aQ dH w2.heap.size [ai key,ai ⟨#[]⟩] 129:=by rw[<-f_];exact aQ.alloc (cC w2 _) _
 have d_:aQ dH (w2.heap.size+1) [I 0,I 0,ai ⟨#[]⟩] 132:=by
  rw[<-f_,show w2.heap.size+1=(w2.alloc (.cells #[ai key,ai ⟨#[]⟩] 129)).heap.size by simp];exact cC _ _
 have ek:=eL.c0;have wK:=d_.lt;have xk:=J (⟨eL,d_⟩:_∧_);have BA:=J (Iv dH ak n t (a+(gx key).length) js 8 m u ck.o.rd (by omega) (by omega) ck.o.rem (aO.o.ke dA.o ck.o.e2));clear f_ b0 eL d_ bu;go_wp2_with(first|(go_at_call 61;refine(k7.o _ (by unfold maxLen;omega)).mono ?_;rintro e bN ⟨rfl,rfl⟩)|(go_at_call 256;refine BA.o.mono ?_;rintro e cc ⟨j7,⟨rfl,bd,iw⟩|⟨hm,rfl⟩⟩<;>refine gE ?_))
 all_goals refine Lib.hid ?_
 rotate_left
 ·exact⟨rfl,ck.o.e2.then j7,Or.inr ⟨by first|exact hm|rfl,rfl⟩⟩
 have cd:=J (ck.o.step il j7 bd iw);have fO:=xk.o.1.ay j7 (by omega);have ev:=xk.o.2.ay j7 (by omega);have sS:=J (⟨fO,ev⟩:_∧_);have dm:=ev.c0;have dz:=ev.c1;have ei:=ev.c2;have f0:=ev.frozen 0;have f1:=ev.frozen 1;have f2:=ev.frozen 2;have R8:=ev.lt;clear j7 bd iw BA ck xk ek fO ev k7;go_upto_region 12 with(fail);have gv:=((sS.o.2.set 0 (I 1)).set 1 (I 0)).set 2 (ai js);have eO:Touch (fun q=>q=w2.heap.size+1) cc (((cc.setCell (aa (w2.heap.size+1) 0) (I 1)).setCell (aa (w2.heap.size+1) 1) (I 0)).setCell (aa (w2.heap.size+1) 2) (ai js)):=(((Touch.refl (fun q=>q=w2.heap.size+1) cc).setCell (p:=(aa (w2.heap.size+1) 0)) (Or.inl rfl) _).setCell (p:=(aa (w2.heap.size+1) 1)) (Or.inl rfl) _).setCell (p:=(aa (w2.heap.size+1) 2)) (Or.inl rfl) _;clear dm dz ei f0 f1 f2;generalize World.setCell _ _ _=fY at*;have pM:=sS.o.1.ay eO (by omega);have cR:Hid (s4 w ak n t m (a+(gx key).length+(gx js).length) u fY):=
  ⟨⟨cd.o.rd.U.ay eO (by omega),cd.o.rd.le,cd.o.rd.sm,cd.o.rd.hi⟩,cd.o.rem,cd.o.e2.trans (eO.mono fun q _ e=>Or.inr (by omega)),cd.o.dc.ay eO (by omega),cd.o.bT.ay eO (by omega)⟩
 clear cd sS eO;have U4:=J (⟨pM,gv⟩:_∧_);have x0:=pM.c0;have gr:=pM.c1;have dm:=gv.c0;have dz:=gv.c1;have ei:=gv.c2;have eE:=cR.o.dc.c0;have cB:=cR.o.dc.c1;have eY:=cR.o.dc.frozen 0;have q1:=cR.o.dc.frozen 1;have cY:=cR.o.bT.c0;have s1:=cR.o.bT.c1;have s2:=cR.o.bT.c2;have g0:=cR.o.bT.frozen 0;have g1:=cR.o.bT.frozen 1;have g2:=cR.o.bT.frozen 2;clear pM gv;go_region;have n1:=cR.o.put il ⟨key,⟨#[]⟩⟩ ⟨1,0,js⟩;unfold CY at n1;have zS:=J n1;clear n1 eE cB eY q1 cY s1 s2 g0 g1 g2 x0 gr dm dz ei;go_wp2_with fail
 obtain⟨iQ,eA,aD,bI⟩:=zS.o;generalize World.drew _=jT at*;have d0:=iQ.c0;have d1:=iQ.c1;have eo:=eA.c0;have aP:=eA.c1;have ba:=eA.c2;exact iX (v:= .tuple #[.agg #[ai key,ai ⟨#[]⟩],.agg #[I 1,I 0,ai js]]) (by simp[results,results224,go_sem,d0,d1,eo,aP,ba]) rfl ⟨aD,Or.inl ⟨rfl,bI,cR.o.rem⟩⟩
theorem aqD (w:World)(ak n:Nat)(t:ByteArray)(a:Nat)(key el:ByteArray)(hG:Int)(fj:hG=2∨hG=3)(m:Bool)(u:List UInt8)(h:ga w ak n t a)(hk:kindOf key=115)(av:el.size<=8)(au:fU m (t.data.toList.drop a) (gx key++(gx el++([if hG=2 then 43 else 45]++u))))(al:fI w):
  Calls prog 224 #[bl ak] w (Ends w ak n t m (a+(gx key).length+(gx el).length+1) u (.tuple #[.agg #[ai key,ai el],.agg #[I hG,I 0,ai ⟨#[]⟩]])):=by
 have hK:=GN hk (by omega);have il:=h.U.lt;generalize bj:(w.alloc (.cells #[ai ⟨#[]⟩,ai ⟨#[]⟩] 129)).alloc (.cells #[I 0,I 0,ai ⟨#[]⟩] 132)=W0;have bp:ax w W0:=by rw[<-bj];exact((cj _ _)).alloc (by simp) _
 have fk:Hid (s4 w ak n t m a (gx key++(gx el++([if hG=2 then 43 else 45]++u))) W0):=by
  refine⟨h.later bp,au,Touch.dh bp,?_,?_⟩
  ·rw[<-bj];exact aQ.alloc (cC w _) _
  ·rw[<-bj,show w.heap.size+1=(w.alloc (.cells #[ai ⟨#[]⟩,ai ⟨#[]⟩] 129)).heap.size by simp]
   exact cC _ _
 have cp:=J (Iv W0 ak n t a key 8 m _ fk.o.rd (by omega) (by omega) fk.o.rem (al.later bp));have aO:=J h;have di:=J bj;have fj:=E3 key;rw[hk]at fj;have k7:=J fj;have dA:=J al;clear h au bj bp fj hk al;go_enter func224,ntmps224;go_wp2_with(go_at_call 256;rw[di.o];refine cp.o.mono ?_;rintro e w2 ⟨eD,⟨rfl,ae,b_⟩|⟨hm,rfl⟩⟩<;>refine gE ?_)
 all_goals refine Lib.hid ?_
 rotate_left
 ·exact⟨rfl,fk.o.e2.then eD,Or.inr ⟨by first|exact hm|rfl,rfl⟩⟩
 have bu:=J (fk.o.step il eD ae b_);clear eD ae b_ cp di fk;have dK:=bu.o.bT.lt;go_upto_region 3 with(fail);generalize f_:(w2.alloc (.cells #[ai key,ai ⟨#[]⟩] 129)).alloc (.cells #[I 0,I 0,ai ⟨#[]⟩] 132)=dH;have b0:ax w2 dH:=by rw[<-f_];exact((cj _ _)).alloc (by simp) _
 have ck:=J (bu.o.later b0);have eL:aQ dH w2.heap.size [ai key,ai ⟨#[]⟩] 129:=by rw[<-f_];exact aQ.alloc (cC w2 _) _
 have d_:aQ dH (w2.heap.size+1) [I 0,I 0,ai ⟨#[]⟩] 132:=by
  rw[<-f_,show w2.heap.size+1=(w2.alloc (.cells #[ai key,ai ⟨#[]⟩] 129)).heap.size by simp];exact cC _ _
 have ek:=eL.c0;have wK:=d_.lt;have xk:=J (⟨eL,d_⟩:_∧_);have BA:=J (Iv dH ak n t (a+(gx key).length) el 8 m _ ck.o.rd (by omega) (by omega) ck.o.rem (aO.o.ke dA.o ck.o.e2));clear f_ b0 eL d_ bu;go_wp2_with(first|(go_at_call 61;refine(k7.o _ (by unfold maxLen;omega)).mono ?_;rintro e bN ⟨rfl,rfl⟩)|(go_at_call 256;refine BA.o.mono ?_;rintro e cc ⟨j7,⟨rfl,bd,iw⟩|⟨hm,rfl⟩⟩<;>refine gE ?_))
 all_goals refine Lib.hid ?_
 rotate_left
 ·exact⟨rfl,ck.o.e2.then j7,Or.inr ⟨by first|exact hm|rfl,rfl⟩⟩
 have cd:=J (ck.o.step il j7 bd iw);have fO:=xk.o.1.ay j7 (by omega);have ev:=xk.o.2.ay j7 (by omega);have gr:=fO.c1;have f1:=fO.frozen 1;have R8:=ev.lt;have sS:=J (⟨fO,ev⟩:_∧_);clear j7 bd iw BA ck xk ek fO ev k7;go_upto_region 11 with(fail);have sF:=sS.o.1.set 1 (ai el);have Gf:Touch (fun q=>q=w2.heap.size) cc (cc.setCell (aa (w2.heap.size) 1) (ai el)):=(Touch.refl (fun q=>q=w2.heap.size) cc).setCell (p:=(aa (w2.heap.size) 1)) (Or.inl rfl) _;clear gr f1;generalize World.setCell _ _ _=dv at*;have nf:=sS.o.2.ay Gf (by omega);have dL:Hid (s4 w ak n t m (a+(gx key).length+(gx el).length) ([if hG=2 then 43 else 45]++u) dv):=
  ⟨⟨cd.o.rd.U.ay Gf (by omega),cd.o.rd.le,cd.o.rd.sm,cd.o.rd.hi⟩,cd.o.rem,cd.o.e2.trans (Gf.mono fun q _ e=>Or.inr (by omega)),cd.o.dc.ay Gf (by omega),cd.o.bT.ay Gf (by omega)⟩
 have UZ:=J (agw dv ak n t (a+(gx key).length+(gx el).length) hG fj m u dL.o.rd dL.o.rem);have Pk:=J (⟨sF,nf⟩:_∧_);have ZQ:=nf.lt;clear sF nf Gf cd sS;go_wp2_with(go_at_call 257;refine UZ.o.mono ?_;rintro e kI ⟨Ig,⟨rfl,lI,KD⟩|⟨hm,rfl⟩⟩<;>refine gE ?_)
 all_goals refine Lib.hid ?_
 rotate_left
 ·exact⟨rfl,dL.o.e2.then Ig,Or.inr ⟨by first|exact hm|rfl,rfl⟩⟩
 have kg:=J (dL.o.step il Ig lI KD);have NZ:=Pk.o.1.ay Ig (by omega);have w0:=Pk.o.2.ay Ig (by omega);have Pl:=J (⟨NZ,w0⟩:_∧_);have dm:=w0.c0;have dz:=w0.c1;have ei:=w0.c2;have f0:=w0.frozen 0;have f1:=w0.frozen 1;have f2:=w0.frozen 2;have R9:=w0.lt;clear Ig lI KD UZ dL Pk NZ w0;go_upto_region 12 with(fail);have gv:=((Pl.o.2.set 0 (I hG)).set 1 (I 0)).set 2 (ai ⟨#[]⟩);have eO:Touch (fun q=>q=w2.heap.size+1) kI (((kI.setCell (aa (w2.heap.size+1) 0) (I hG)).setCell (aa (w2.heap.size+1) 1) (I 0)).setCell (aa (w2.heap.size+1) 2) (ai ⟨#[]⟩)):=(((Touch.refl (fun q=>q=w2.heap.size+1) kI).setCell (p:=(aa (w2.heap.size+1) 0)) (Or.inl rfl) _).setCell (p:=(aa (w2.heap.size+1) 1)) (Or.inl rfl) _).setCell (p:=(aa (w2.heap.size+1) 2)) (Or.inl rfl) _;clear dm dz ei f0 f1 f2;generalize World.setCell _ _ _=fY at*;have pM:=Pl.o.1.ay eO (by omega);have cR:Hid (s4 w ak n t m (a+(gx key).length+(gx el).length+1) u fY):=
  ⟨⟨kg.o.rd.U.ay eO (by omega),kg.o.rd.le,kg.o.rd.sm,kg.o.rd.hi⟩,kg.o.rem,kg.o.e2.trans (eO.mono fun q _ e=>Or.inr (by omega)),kg.o.dc.ay eO (by omega),kg.o.bT.ay eO (by omega)⟩
 clear kg Pl eO;have U4:=J (⟨pM,gv⟩:_∧_);have x0:=pM.c0;have gr:=pM.c1;have dm:=gv.c0;have dz:=gv.c1;have ei:=gv.c2;have eE:=cR.o.dc.c0;have cB:=cR.o.dc.c1;have eY:=cR.o.dc.frozen 0;have q1:=cR.o.dc.frozen 1;have cY:=cR.o.bT.c0;have s1:=cR.o.bT.c1;have s2:=cR.o.bT.c2;have g0:=cR.o.bT.frozen 0;have g1:=cR.o.bT.frozen 1;have g2:=cR.o.bT.frozen 2;clear pM gv;go_region;have n1:=cR.o.put il ⟨key,el⟩ ⟨hG,0,⟨#[]⟩⟩;unfold CY at n1;have zS:=J n1;clear n1 eE cB eY q1 cY s1 s2 g0 g1 g2 x0 gr dm dz ei;go_wp2_with fail
 obtain⟨iQ,eA,aD,bI⟩:=zS.o;generalize World.drew _=jT at*;have d0:=iQ.c0;have d1:=iQ.c1;have eo:=eA.c0;have aP:=eA.c1;have ba:=eA.c2;exact iX (v:= .tuple #[.agg #[ai key,ai el],.agg #[I hG,I 0,ai ⟨#[]⟩]]) (by simp[results,results224,go_sem,d0,d1,eo,aP,ba]) rfl ⟨aD,Or.inl ⟨rfl,bI,cR.o.rem⟩⟩
theorem aqA (w:World)(ak n:Nat)(t:ByteArray)(a:Nat)(p:Place)(x:cG)(m:Bool)(u:List UInt8)(h:ga w ak n t a)(aJ:xw p x)(au:fU m (t.data.toList.drop a) (qt p x++u))(al:fI w):
  Calls prog 224 #[bl ak] w (Ends w ak n t m (a+(qt p x).length) u (.tuple #[p.val,x.val])):=by
 obtain⟨key,el⟩:=p;obtain⟨hG,am,js⟩:=x;rcases aJ with⟨h1,ae,aH,bd,cS,ep⟩|⟨h1,ae,aH,bd,cS⟩|⟨h1,ae,aH,bd,cS⟩
 ·simp only at h1 ae aH bd cS ep
  subst ae aH bd;have e:qt ⟨key,⟨#[]⟩⟩ ⟨0,am,⟨#[]⟩⟩=gx key++ec am:=by simp[qt]
  rw[e]at au⊢;have:=aqB w ak n t a key am m u h h1 cS ep (by rw[<-mN];exact au) al;rw[eN,<-Fl];exact this
 ·simp only at h1 ae aH bd cS
  subst ae aH bd;have e:qt ⟨key,⟨#[]⟩⟩ ⟨1,0,js⟩=gx key++gx js:=by simp[qt]
  rw[e]at au⊢;have:=aqC w ak n t a key js m u h h1 cS (by rw[<-mN];exact au) al;rw[eN,<-Fl];exact this
 ·simp only at h1 ae aH bd cS
  subst aH bd;have e:qt ⟨key,el⟩ ⟨hG,0,⟨#[]⟩⟩=gx key++(gx el++[if hG=2 then 43 else 45]):=by
   rcases ae with rfl|rfl<;>simp[qt]
  rw[e]at au⊢;have:=aqD w ak n t a key el hG ae m u h h1 cS (by rw[<-mN,<-mN,mN (gx key)];exact au) al;rw[eN,eN,ys,<-Fl,<-Fl];exact this
def zl (eB:Place->Option cG)(l:List Place):Place->Option cG:=fun p=>if p∈l then eB p else none
theorem amo (eB:Place->Option cG)(hk:k<ks.length){x:cG}(au:eB ks[k]=some x):(fun q=>if q=ks[k]then some x else zl eB (ks.take k) q)=zl eB (ks.take (k+1)):=by
 funext q;unfold zl;rw[kr hk];by_cases c:q=ks[k]
 ·rw[if_pos c,if_pos (hT.2 (Or.inr (k4.2 c))),c,au]
 ·rw[if_neg c]
  by_cases d:q∈ks.take k
  ·rw[if_pos d,if_pos (hT.2 (Or.inl d))]
  ·rw[if_neg d,if_neg (fun e=>(hT.1 e).elim d (fun e=>c (k4.1 e)))]
theorem amn {eB:Place->Option cG}(h:KeysOf eB ks):zl eB ks=eB:=by
 funext q;unfold zl;by_cases c:q∈ks
 ·rw[if_pos c]
 ·rw[if_neg c]
  have:=mt (h.2 q).2 c;cases e:eB q
  ·rfl
  ·rw[e]at this;simp at this
def AW (ks:List Place)(k:Nat):Place:=if h:0<k∧k-1<ks.length then ks[k-1]'h.2 else⟨⟨#[]⟩,⟨#[]⟩⟩
theorem aai (ks:List Place):AW ks 0=⟨⟨#[]⟩,⟨#[]⟩⟩:=by simp[AW]
theorem aah (hk:k<ks.length):AW ks (k+1)=ks[k]:=by
 unfold AW;rw[dif_pos ⟨by omega,by simpa using hk⟩];simp
theorem aho (h:s.size≠0):strLt ⟨#[]⟩ s=true:=by
 unfold strLt;have h1:(ByteArray.mk #[]).toList=[]:=by rw[Fh]
 have ae:s.toList≠[]:=by
  rw[Fh];intro e;have:=congrArg length e;rw[Array.length_toList]at this;exact h this
 rw[h1];cases e:s.toList with
 |nil=>exact absurd e ae
 |cons x l=>rfl
theorem Sn {k:Int}(h:kindOf s=k)(hk:k≠0):s.size≠0:=by
 unfold kindOf at h;split at h
 ·rename_i dQ;omega
 ·exact absurd h.symm hk
theorem xw.pos {x:cG}(h:xw p x):p.key.size≠0:=by
 rcases h with h|h|h
 ·exact Sn h.1 (by omega)
 ·exact Sn h.1 (by omega)
 ·exact Sn h.1 (by omega)
theorem al3 (aw:ks.Pairwise j0)(hk:k<ks.length)(aS:ks[k].key.size≠0):j0 (AW ks k) ks[k]:=by
 cases k with
 |zero=>rw[aai];exact Or.inl (aho aS)
 |succ j=>
  rw[aah (by omega)];exact(vD.1 aw) j (j+1) (by omega) hk (by omega)
theorem aqN (eB:Place->Option cG)(hk:k<ks.length):jB eB (ks.drop k)=qt ks[k] ((eB ks[k]).getD A1)++jB eB (ks.drop (k+1)):=by
 unfold jB;rw[drop_eq_getElem_cons hk,kf]
theorem hx.below (h:hx w W):ax w W:=by
 obtain⟨q,os,rfl⟩:=h;exact Lib.below_grow _ _ cv _ _
def adT (w:World)(ak n:Nat)(t:ByteArray)(m:Bool)(cf:Nat)(u:List UInt8)(eB:Place->Option cG)(e:Ending)(w':World):Prop:=
 Touch (fun q=>q=ak) w w'∧((∃b,e= .returned (.map (some b))∧w.heap.size<=b∧cV w' 129 b 16 Place.val cG.val eB∧ga w' ak n t cf∧fU m (t.data.toList.drop cf) u)∨(m=false∧e=fault))
structure z7 (w:World)(ak n:Nat)(t:ByteArray)(m:Bool)(cf:Nat)(u:List UInt8)(eB:Place->Option cG)(p:Place)(k:Nat)(wr:World):Prop where
 rd:ga wr ak n t cf
 rem:fU m (t.data.toList.drop cf) u
 e2:Touch (fun q=>q=ak) w wr
 map:cV wr 129 w.heap.size k Place.val cG.val eB
 last:aQ wr (w.heap.size+1) [ai p.key,ai p.el] 129
theorem z7.step {w:World}{ak n:Nat}{t:ByteArray}{m:Bool}{cf a2:Nat}{u u2:List UInt8}{eB:Place->Option cG}{p:Place}{k:Nat}{wr w2:World}(h:z7 w ak n t m cf u eB p k wr)(il:ak<w.heap.size)(T:Touch (fun q=>q=ak) wr w2)(r:ga w2 ak n t a2)(q:fU m (t.data.toList.drop a2) u2):z7 w ak n t m a2 u2 eB p k w2:=
 ⟨r,q,h.e2.then T,h.map.move (T.block _ h.map.lt (by omega)),h.last.ay T (by omega)⟩
theorem z7.later {t:ByteArray}{eB:Place->Option cG}(h:z7 w ak n t m cf u eB p k wr)(hb:ax wr w2):z7 w ak n t m cf u eB p k w2:=
 ⟨h.rd.later hb,h.rem,h.e2.then (Touch.dh hb),h.map.move (hb.block _ h.map.lt),h.last.below hb⟩
theorem adH (w:World)(ak n:Nat)(t:ByteArray)(a:Nat)(eB:Place->Option cG)(ks:List Place)(m:Bool)(u:List UInt8)(h:ga w ak n t a)(hk:KeysOf eB ks)(n2:ks.Pairwise j0)(h1:1<=ks.length)(nt:ks.length<=16)(aJ:∀p x,eB p=some x->xw p x)(au:fU m (t.data.toList.drop a) (ec ks.length++(jB eB ks++u)))(al:fI w):
  Calls prog 205 #[bl ak] w (adT w ak n t m (a+(ec ks.length).length+(jB eB ks).length) u eB):=by
 have il:=h.U.lt;have M1:= @run_makeMap prog;generalize bj:(w.alloc (.map #[] 0)).alloc (.cells #[ai ⟨#[]⟩,ai ⟨#[]⟩] 129)=W0;have bp:ax w W0:=by rw[<-bj];exact((cj _ _)).alloc (by simp) _
 have fk:Hid (z7 w ak n t m a (ec ks.length++(jB eB ks++u)) (zl eB (ks.take 0)) (AW ks 0) 0 W0):=by
  refine⟨h.later bp,au,Touch.dh bp,?_,?_⟩
  ·rw[<-bj]
   have e:zl eB (ks.take 0)=fun _=>none:=by funext q;simp[zl]
   rw[e];exact(cV.made w 129 Place.val cG.val).move (iW _ _ _ (by simp))
  ·rw[aai,<-bj,show w.heap.size+1=(w.alloc (.map #[] 0)).heap.size by simp]
   exact cC _ _
 have cp:=J (GX W0 ak n t a 1 16 ks.length m _ fk.o.rd fk.o.rem (by omega) (by omega) (by omega) (by omega) (al.later bp));have aO:=J h;have di:=J bj;have dA:=J al;have cD:=J (⟨hk,n2,aJ⟩:_∧_∧_);clear h au bj bp al hk n2 aJ;go_enter func205,ntmps205;go_wp2_with(go_at_call 161;rw[di.o];refine cp.o.mono ?_;rintro e w2 ⟨eD,⟨rfl,ae,b_⟩|⟨hm,rfl⟩⟩<;>refine gE ?_)
 all_goals refine Lib.hid ?_
 rotate_left
 ·exact⟨rfl,fk.o.e2.then eD,Or.inr ⟨by first|exact hm|rfl,rfl⟩⟩
 have bu:=J (fk.o.step il eD ae b_);clear eD ae b_ cp di fk;have dK:=bu.o.last.lt;go_upto_region 4 with(fail);go_loopw[5,6,10] (fun _ _ ii wr=>∃k:Nat,k<=ks.length∧ii=I k∧Hid (z7 w ak n t m (a+(ec ks.length).length+(jB eB (ks.take k)).length) (jB eB (ks.drop k)++u) (zl eB (ks.take k)) (AW ks k) k wr)) (fun _ _ ii _=>ks.length-(intOf ii).toNat)
 case atStart=>exact⟨0,ch,rfl,by simpa[jB]using bu⟩
 case round=>
  clear bu;obtain⟨k,hk,rfl,aL⟩:=hrel;by_cases br:k<ks.length
  ·have tp:=(cD.o.1.2 ks[k]).1 (eT br)
   obtain⟨x,au⟩:=mn.1 tp;have o2:=cD.o.2.2 _ _ au;have kC:=al3 cD.o.2.1 br o2.pos;have y8:=aL.o.rem;have eo:=aqN eB br;rw[au,Option.getD_some]at eo;rw[eo,mN]at y8;have es:=adI eB br;rw[au,Option.getD_some]at es;have DC:=J (aqA wr ak n t _ ks[k] x m _ aL.o.rd o2 y8 (aO.o.ke dA.o aL.o.e2));have fs:=J (⟨au,o2,es,amo eB br au,aah br⟩:_∧_∧_∧_∧_);obtain⟨pG,Eo⟩:∃pG,AW ks k=pG:=⟨_,rfl⟩;rw[Eo]at aL kC;clear au o2 y8 eo es Eo tp;generalize ks[k]=p at*;obtain⟨eM,jn⟩:=p;obtain⟨AY,le⟩:=pG;simp only[Place.val]at DC;go_wp2_with(go_at_call 224;refine DC.o.mono ?_;rintro e bN ⟨lE,⟨rfl,aH,dW⟩|⟨hm,rfl⟩⟩<;>refine gE ?_)
   all_goals refine Lib.hid ?_
   rotate_left
   ·exact⟨rfl,aL.o.e2.then lE,Or.inr ⟨by first|exact hm|rfl,rfl⟩⟩
   have ck:=J (aL.o.step il lE aH dW);have wK:=ck.o.last.lt;clear lE aH dW DC aL;go_upto_region 6 with(fail);generalize we:(bN.alloc (.cells #[ai eM,ai jn] 129)).alloc (.cells #[I x.kind,I x.cH,ai x.value] 132)=ie;have hX:ax bN ie:=by rw[<-we];exact((cj _ _)).alloc (by simp) _
   have fO:aQ ie bN.heap.size [ai eM,ai jn] 129:=by rw[<-we];exact aQ.alloc (cC bN _) _
   have ev:aQ ie (bN.heap.size+1) [I x.kind,I x.cH,ai x.value] 132:=by
    rw[<-we,show bN.heap.size+1=(bN.alloc (.cells #[ai eM,ai jn] 129)).heap.size by simp];exact cC _ _
   have cd:=J (ck.o.later hX);have pF:=cd.o.last.c0;have eF:=cd.o.last.c1;have m0:=fO.c0;have m1:=fO.c1;have sS:=J (⟨fO,ev⟩:_∧_);have asg:=(P8 ⟨AY,le⟩ ⟨eM,jn⟩).2 kC;have wv:=acU ⟨AY,le⟩ ⟨eM,jn⟩ ie;simp only[Place.val]at wv;generalize Ag ⟨AY,le⟩ ⟨eM,jn⟩=V1 at*;have Fx:=J wv;clear we hX fO ev ck kC wv;go_wp2_with(first|(go_at_call 165;refine Fx.o.mono ?_;rintro e w5 ⟨rfl,Xz⟩;have Pd:=J Xz;clear Xz)|(go_at_call 159;refine(Qe _ rfl).mono ?_;rintro e eS ⟨rfl,rfl⟩;refine gE ?_))
   refine Lib.hid ?_;have dT:=Pd.o.below;have dL:=J (cd.o.later dT);have sF:=sS.o.1.below dT;have nf:=sS.o.2.below dT;have m0:=sF.c0;have m1:=sF.c1;have pH:=nf.c0;have og:=nf.c1;have fD:=nf.c2;obtain⟨cQ,dU⟩:=fs.o.2.1.fit.ok.lit;obtain⟨qs,akt,Y4,AG⟩:=dL.o.map.store rV underlying120 zn (by unfold maxLen;omega) dU x;simp only[Place.val]at akt;have S4:aQ qs bN.heap.size [ai eM,ai jn] 129:=sF.move (AG.block _ sF.lt (fun e=>by have:=kt e;omega));have eY:=S4.c0;have q1:=S4.c1;have zi:aQ qs (w.heap.size+1) [ai AY,ai le] 129:=dL.o.last.move (AG.block _ dL.o.last.lt (fun e=>by have:=kt e;omega));have v0:=zi.c0;have v1:=zi.c1;have f0:=zi.frozen 0;have f1:=zi.frozen 1;have akp:=dL.o.rd.U.lt;have bc:Hid (z7 w ak n t m (a+(ec ks.length).length+(jB eB (ks.take (k+1))).length) (jB eB (ks.drop (k+1))++u) (zl eB (ks.take (k+1))) (AW ks (k+1)) (k+1) ((qs.setCell (aa (w.heap.size+1) 0) (ai eM)).setCell (aa (w.heap.size+1) 1) (ai jn))):=by
    have aP:a+(ec ks.length).length+(jB eB (ks.take (k+1))).length=a+(ec ks.length).length+(jB eB (ks.take k)).length+(qt ⟨eM,jn⟩ x).length:=by rw[fs.o.2.2.1,eN];omega
    rw[aP,fs.o.2.2.2.2,<-fs.o.2.2.2.1];have aiT:Touch (fun q=>q=ak) w qs:=⟨AG.os.trans dL.o.e2.os,AG.tape.trans dL.o.e2.tape,AG.output.trans dL.o.e2.output,fx dL.o.e2.size AG.size,fun q ad bS=>(AG.block q (hV ad dL.o.e2.size) (fun e=>by have:=kt e;omega)).trans (dL.o.e2.block q ad bS)⟩;have n5:ak≠w.heap.size+1:=by omega
    have eE:=(dL.o.rd.U.move (w':=qs) (AG.block _ akp (fun e=>by have:=kt e;omega))).other (p:=(aa (w.heap.size+1) 0)) n5 (ai eM);have cB:=eE.other (p:=(aa (w.heap.size+1) 1)) n5 (ai jn);have t0:=aiT.setCell (p:=(aa (w.heap.size+1) 0)) (Or.inr (pU _)) (ai eM);have t1:=t0.setCell (p:=(aa (w.heap.size+1) 1)) (Or.inr (pU _)) (ai jn);have n6:w.heap.size≠w.heap.size+1:=by omega
    have g0:=Y4.move (rb qs (aa (w.heap.size+1) 0) (ai eM) w.heap.size n6);have g1:=g0.move (rb _ (aa (w.heap.size+1) 1) (ai jn) w.heap.size n6);have dc:=zi.set 0 (ai eM);have bT:=dc.set 1 (ai jn);exact⟨⟨cB,dL.o.rd.le,dL.o.rd.sm,dL.o.rd.hi⟩,dL.o.rem,t1,g1,bT⟩
   clear dT sF nf S4 zi Y4 AG Pd sS cd dL pF eF Fx dU;go_wp2_with fail
   exact⟨⟨k+1,by omega,by go_num,bc.o⟩,by simp[intOf];omega⟩
  ·have iA:k=ks.length:=by omega
   subst iA;rw[tI,drop_length,amn cD.o.1]at aL;go_wp2_with fail
   go_ret;exact⟨aL.o.e2,Or.inl ⟨_,rfl,cv,aL.o.map.mono nt,aL.o.rd,by simpa[jB]using aL.o.rem⟩⟩
end Go.Proofs.YtiplgdkpnhamaaaGreatDoor
