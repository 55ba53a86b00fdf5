import Derived.Test.YtiplgdkpnhamaaaGreatDoorT32
import Derived.Test.YtiplgdkpnhamaaaGreatDoorT20
set_option maxHeartbeats 40000000
set_option maxRecDepth 100000
namespace Go.Proofs.YtiplgdkpnhamaaaGreatDoor.Tv
open Go.Proofs.Tryz List
open Go.RowKit
variable {b k:Nat}{bw ah v1 bD:Value}{id:Int}{bE:Obj}{an wr:World}
abbrev mq (n:Nat):List Int:=replicate n 0
structure xq (w wr:World)(o:Nat->Tag)(b n k:Nat)(id:Int)(bD ah bw:Value):Prop where
 U:cP wr o (1,0,0) b [I id,bD,.slice none 0 0,ah,bw] 165
 ag:b3 wr o (2,0,0) 3 1 bD n (ints (mq n))
 uf:b3 wr o (5,0,0) 3 1 bw n (ints (mq n))
 known:∃bb:List Value,bb.length=k∧b3 wr o (3,0,0) 44 1 ah k bb∧∀j,j<k->∃dV,bb[j]?=some dV∧b3 wr o (4,j,0) 3 1 dV n (ints (mq n))
 zm:∀q,q<w.heap.size->o q=(0,0,0)
 cZ:ax w wr
theorem xq.low {w:World}{o:Nat->Tag}{n:Nat}(h:xq w wr o b n k id bD ah bw){q:Nat}{t:Tag}(ad:o q=t)(al:t≠(0,0,0)):w.heap.size<=q:=by
 by_cases c:q<w.heap.size
 ·exact absurd ((h.zm q c).symm.trans ad).symm al
 ·omega
theorem aa4 (w:World)(n:Nat)(id:Int)(hn:n<=5)(x y:Nat)(h:(x=w.heap.size∧y=w.heap.size+1)∨(x=w.heap.size+1∧y=w.heap.size)):
  ∃b o bD bw,ptr (w.heap.size+1+1)=ptr b∧xq w (((w.alloc (.cells (madeCells #[I 0] n) 3)).alloc (.cells (madeCells #[I 0] n) 3)).alloc (.cells #[I id,bo x n n,.slice none 0 0,.slice none 0 0,bo y n n] 165)).drew o b n 0 id bD (.slice none 0 0) bw:=by
 have s1:(w.alloc (.cells (madeCells #[I 0] n) 3)).heap.size=w.heap.size+1:=by simp
 have s2:((w.alloc (.cells (madeCells #[I 0] n) 3)).alloc (.cells (madeCells #[I 0] n) 3)).heap.size=w.heap.size+2:=by simp
 have eE:((w.alloc (.cells (madeCells #[I 0] n) 3)).alloc (.cells (madeCells #[I 0] n) 3)).ownsRow 0 3 1 (bo (w.heap.size) n n) n (ints (mq n)):=h2 (TG w n 0 hn ch) _;have cB:((w.alloc (.cells (madeCells #[I 0] n) 3)).alloc (.cells (madeCells #[I 0] n) 3)).ownsRow 0 3 1 (bo (w.heap.size+1) n n) n (ints (mq n)):=by
  have a:=TG (w.alloc (.cells (madeCells #[I 0] n) 3)) n 0 hn ch;rw[s1]at a;exact a
 refine⟨w.heap.size+2,fun q=>if q<w.heap.size then(0,0,0)else if q=w.heap.size+2 then(1,0,0)else if q=x then(2,0,0)else(5,0,0),bo x n n,bo y n n,rfl,⟨?_,?_⟩,⟨?_,fun q ad=>?_⟩,⟨?_,fun q ad=>?_⟩,⟨[],rfl,⟨by simpa using jD _ _ _ _,fun q ad=>by simp[Value.ownBlock]at ad⟩,fun j af=>by omega⟩,fun q ad=>by simp[ad],?_⟩
 ·have:=cC ((w.alloc (.cells (madeCells #[I 0] n) 3)).alloc (.cells (madeCells #[I 0] n) 3)) (.cells #[I id,bo x n n,.slice none 0 0,.slice none 0 0,bo y n n] 165)
  rw[s2]at this;exact this
 ·show(if w.heap.size+2<w.heap.size then _ else _)=_
  rw[if_neg (by omega),if_pos rfl]
 ·rcases h with⟨rfl,rfl⟩|⟨rfl,rfl⟩
  ·exact h2 eE _
  ·exact h2 cB _
 ·have e:x=q:=by simpa[Value.ownBlock]using ad
  subst e;rw[if_neg (by omega),if_neg (by omega),if_pos rfl]
 ·rcases h with⟨rfl,rfl⟩|⟨rfl,rfl⟩
  ·exact h2 cB _
  ·exact h2 eE _
 ·have e:y=q:=by simpa[Value.ownBlock]using ad
  subst e;rw[if_neg (by omega),if_neg (by omega),if_neg (by omega)]
 ·exact((((cj _ _)).alloc (by omega) _).alloc (by omega) _).drew
theorem xq.more {w:World}{o:Nat->Tag}{n:Nat}{sC:Obj}{bb:List Value}(hn:n<=5)(h:xq w wr o b n k id bD ah bw)(mg:bb.length=k)(cx:b3 wr o (3,0,0) 44 1 ah k bb)(Nf:∀j,j<k->∃dV,bb[j]?=some dV∧b3 wr o (4,j,0) 3 1 dV n (ints (mq n)))
  (dd:an.ownsRow 0 44 1 v1 (k+1) (bb++[bo (wr.heap.size) n n]))(aM:((wr.alloc (.cells (madeCells #[I 0] n) 3)).alloc sC).grownBy an ah.ownBlock)(et:v1.ownBlock=ah.ownBlock∨v1.ownBlock=some ((wr.alloc (.cells (madeCells #[I 0] n) 3)).alloc sC).heap.size):
  ∃o',xq w (an.setCell (aa b 3) v1) o' b n (k+1) id bD v1 bw:=by
 have jX:(wr.alloc (.cells (madeCells #[I 0] n) 3)).heap.size=wr.heap.size+1:=by simp
 have hs:((wr.alloc (.cells (madeCells #[I 0] n) 3)).alloc sC).heap.size=wr.heap.size+2:=by simp
 have bP:ax wr ((wr.alloc (.cells (madeCells #[I 0] n) 3)).alloc sC):=((cj _ _)).alloc (by omega) _;obtain⟨o1,ny⟩:∃o1,o1=gX o wr.heap.size fun q=>if q=wr.heap.size then(4,k,0)else(6,0,0):=⟨_,rfl⟩
 have pK:∀q,q<wr.heap.size->o1 q=o q:=fun q ad=>by rw[ny];exact nF ad
 have aK:∀{t:Tag} q,q<wr.heap.size->o q=t->((wr.alloc (.cells (madeCells #[I 0] n) 3)).alloc sC).heap[q]?=wr.heap[q]?:=fun q ad _=>bP.block q ad
 have cI:=h.U.move aK pK;have dq:=h.ag.move aK pK;have eW:=h.uf.move aK pK;have fo:=cx.move aK pK;have iT:b3 ((wr.alloc (.cells (madeCells #[I 0] n) 3)).alloc sC) o1 (4,k,0) 3 1 (bo (wr.heap.size) n n) n (ints (mq n)):=⟨h2 (TG wr n 0 hn ch) _,fun q ad=>by
  have e:wr.heap.size=q:=by simpa[Value.ownBlock]using ad
  subst e;rw[ny,qj cv,if_pos rfl]⟩
 have e:ee o1 ((wr.alloc (.cells (madeCells #[I 0] n) 3)).alloc sC).heap.size (3,0,0) ((aa b 3):Addr).block=(1,0,0):=(cI.dw aM fo.tag (by simp)).tag;refine⟨ee o1 ((wr.alloc (.cells (madeCells #[I 0] n) 3)).alloc sC).heap.size (3,0,0),(cI.dw aM fo.tag (by simp)).set 3 v1,(dq.dw aM fo.tag (by simp)).set e (by simp) v1,(eW.dw aM fo.tag (by simp)).set e (by simp) v1,⟨bb++[bo (wr.heap.size) n n],by simp[mg],(fo.app dd et).set e (by simp) v1,fun j af=>?_⟩,fun q ad=>?_,?_⟩
 ·by_cases c:j<k
  ·obtain⟨dV,aP,p⟩:=Nf j c
   exact⟨dV,by rw[w7 (by omega)];exact aP,((p.move aK pK).dw aM fo.tag (by simp)).set e (by simp) v1⟩
  ·have c':j=k:=by omega
   subst c';refine⟨_,by rw[yq (by omega),mg,Nat.sub_self];rfl,(iT.dw aM fo.tag (by simp)).set e (by simp) v1⟩
 ·have:=h.cZ.size
  rw[sL (by omega),pK q (by omega)];exact h.zm q ad
 ·have e6:=(h.cZ.alloc h.cZ.size (.cells (madeCells #[I 0] n) 3)).alloc (by have:=h.cZ.size;simp;omega) sC
  refine(e6.grown aM (by have:=h.cZ.size;omega) fun q ad=>?_).setCell (h.low h.U.tag (by simp)) v1;exact h.low (cx.tag q ad) (by simp)
theorem amN (w:World)(az n:Nat)(id:Int)(a6 de:Value)(hn:1<=n)(b2:n<=5)(kB:aQ w az [I n,a6,de] 89):
  Calls prog 50 #[ptr az,I id] w fun e w'=>∃b o bD ah bw,e= .returned (ptr b)∧xq w w' o b n n id bD ah bw:=by
 have rI:=amt n b2;have g0:=kB.c0;have fW:=kB.lt;clear kB;go_enter func50,ntmps50;go_upto_region 1 with(fail);go_cut[5] (fun p wc=>∃b o bD bw,p=ptr b∧xq w wc o b n 0 id bD (.slice none 0 0) bw)
 case first=>
  go_region;all_goals go_wp2_with fail
  all_goals go_meet
  all_goals first|exact aa4 w n id b2 _ _ (Or.inl ⟨rfl,rfl⟩)|exact aa4 w n id b2 _ _ (Or.inr ⟨rfl,rfl⟩)
 case rest=>
  obtain⟨b,o,bD,bw,rfl,aS⟩:=hcut;have fk:=J aS;clear aS;obtain⟨i0,aq,dC,dM,dK⟩:=iV Tryz.alc;go_wp2_with fail
  go_loopw[6] (fun i wr=>∃(k:Nat) (o':Nat->Tag) (ah:Value),k<=n∧i=I k∧Hid (xq w wr o' b n k id bD ah bw)) (fun i _=>n-(intOf i).toNat)
  case atStart=>exact⟨0,o,_,ch,rfl,fk.o⟩
  case round=>
   obtain⟨k,o',ah,hk,rfl,a1⟩:=hrel;have g1:=bZ a1.o.cZ g0;have asz:az<wr.heap.size:=by have:=a1.o.cZ.size;omega
   by_cases br:k<n
   ·obtain⟨bb,ll,cx,Nf⟩:=a1.o.known
    obtain⟨St,Sj,rfl,-,-,-⟩:=cx.row.shape;have c3:=a1.o.U.U.c3;have ft:=a1.o.U.U.lt;have cD:=J cx;have aeF:=J Nf;have aeY:=J ll;have mg:Hid (bb.length=k*1):=cx.row.1;clear cx g0 Nf ll;go_wp2_with fail
    go_region_law(refine q6 rfl _ _ 92 rfl 44 i0 (.slice none 0 0) 1 24 underlying92 aq dC dM dK rfl (by decide) (.slice St k Sj) k bb (by simp[Act.eval]) (by exact h2 (h2 cD.o.row _) _) (aa (wr.heap.size+1) 0) 1 1 [bo (wr.heap.size) n n] (by simp[Act.eval]) rfl (by exact SV _ _ _ _) (by intro u hu;simp at hu;subst hu;rfl) (by unfold maxLen;omega) (by omega) ?_;intro v2 w2 fm gh kR;obtain⟨g2,lV,rfl,-,-,-,-,-⟩:=Row.pos fm (by omega);have fi:((wr.alloc (.cells (madeCells #[I 0] n) 3)).alloc (.cells #[bo (wr.heap.size) n n] 44)).grownBy w2 (Value.slice St k Sj).ownBlock:=⟨gh.os,gh.tape,gh.output,gh.size,gh.block⟩;have aF:=((a1.o.U.alloc _).alloc _).dw fi cD.o.tag (by simp);have hf:=aF.U.cell 3;have fO:=aF.U.frozen 3;have gJ:=aF.U.lt;clear aF gh)
    all_goals go_wp2_with fail
    all_goals(obtain⟨dx,ae⟩:=a1.o.more b2 aeY.o cD.o aeF.o fm fi kR;exact⟨⟨k+1,dx,_,by omega,by go_num,ae⟩,by simp[intOf];omega⟩)
   ·have e:k=n:=by omega
    subst e;go_wp2_with fail
    go_ret;exact⟨b,o',bD,ah,bw,rfl,a1.o⟩
structure qy (aX:World->(Nat->Tag)->Tag->Nat->Nat->Nat->aZ->Prop)(bk:Nat->Nat->List Int)(bQ:Nat->List Int)(cr:World)(w:World)(o:Nat->Tag)(s aj az n:Nat)(aI ak:List Nat)(a6 k0:Value)(ar:Int):Prop where
 U:cP w o (s+11,0,0) aj [a6,ptr az,jN,jN,jN,jN,jN,I ar] 94
 rs:b3 w o (s+11,1,0) 45 1 a6 aI.length (vu aI)
 hE:cP w o (s+8,0,0) az [I n,k0,jN] 89
 zs:b3 w o (s+8,1,0) 96 1 k0 ak.length (vu ak)
 prog:∀i (h:i<aI.length),aX w o (s+1,i,0) aI[i] n i (pd n)
 ref:∀i (h:i<ak.length),kv bk bQ w o s i ak[i] n (pd n)
 da:dS (fN s) cr (fun _=>(0,0,0)) w o
section
variable {aX:World->(Nat->Tag)->Tag->Nat->Nat->Nat->aZ->Prop}{bk:Nat->Nat->List Int}{bQ:Nat->List Int}{cr w w':World}{o o':Nat->Tag}{s aj az n:Nat}{aI ak:List Nat}{a6 k0:Value}{ar:Int}
theorem qy.below (P:gH aX)(h:qy aX bk bQ cr w o s aj az n aI ak a6 k0 ar)(ao:ax w w')(f:Nat->Tag):qy aX bk bQ cr w' (gX o w.heap.size f) s aj az n aI ak a6 k0 ar:=by
 have hm:∀t q,q<w.heap.size->o q=t->w'.heap[q]?=w.heap[q]?∧gX o w.heap.size f q=t:=fun t q ad e=>⟨ao.block q ad,(nF ad).trans e⟩
 refine⟨h.U.fp (hm _),h.rs.fp (hm _),h.hE.fp (hm _),h.zs.fp (hm _),fun i aq=>P.move (h.prog i aq) (hm _),fun i aq=>?_,h.da.trans ⟨Touch.dh ao,fun q ad _=>nF ad⟩⟩;exact(h.ref i aq).ay (A:=fun _=>False) ⟨Touch.dh ao,fun q ad=>nF ad⟩ (fun _ _=>id) fun _=>id
theorem qy.acb (P:gH aX)(h:qy aX bk bQ cr w o s aj az n aI ak a6 k0 ar)(ao:ax w w'):qy aX bk bQ cr w' o s aj az n aI ak a6 k0 ar:=by
 have a:=h.below P ao o;have e:gX o w.heap.size o=o:=by funext q;unfold gX;split<;>rfl
 rw[e]at a;exact a
theorem qy.anF (P:gH aX)(h:qy aX bk bQ cr w o s aj az n aI ak a6 k0 ar)(hL:aX w o (s+1,aI.length,0) b n aI.length (pd n))
  (dd:an.ownsRow 0 45 1 v1 (aI.length+1) (vu aI++[ptr b]))(aM:(w.alloc bE).grownBy an a6.ownBlock)(et:v1.ownBlock=a6.ownBlock∨v1.ownBlock=some (w.alloc bE).heap.size):
  qy aX bk bQ cr (an.setCell (aa aj 0) v1) (ee o (w.alloc bE).heap.size (s+11,1,0)) s aj az n (aI++[b]) ak v1 k0 ar∧ct (fun t=>t=(s+11,0,0)∨t=(s+11,1,0)) w o (an.setCell (aa aj 0) v1) (ee o (w.alloc bE).heap.size (s+11,1,0)):=by
 have g1:=(h.U.alloc bE).dw aM h.rs.tag (by simp);have e:ee o (w.alloc bE).heap.size (s+11,1,0) ((aa aj 0):Addr).block=(s+11,0,0):=g1.tag;have T:ct (fun t=>t=(s+11,0,0)∨t=(s+11,1,0)) w o (an.setCell (aa aj 0) v1) (ee o (w.alloc bE).heap.size (s+11,1,0)):=(((ct.refl _ w o).alloc bE).dw aM h.rs.tag (Or.inr rfl)).set (by rw[e];exact Or.inl rfl) v1;have aK:∀{i hz:Nat},aX w o (s+1,i,0) hz n i (pd n)->aX (an.setCell (aa aj 0) v1) (ee o (w.alloc bE).heap.size (s+11,1,0)) (s+1,i,0) hz n i (pd n):=fun aw=>
  P.move aw fun q ad c=>⟨T.ay.block q ad (by rw[c];simp),(T.same q ad).trans c⟩
 refine⟨⟨g1.set 0 v1,?_,h.hE.ay T (by simp),h.zs.ay T (by simp),fun i aq=>?_,fun i aq=>?_,h.da.trans (T.da fun t c=>by rcases c with rfl|rfl<;>exact⟨by simp,by simp⟩)⟩,T⟩
 ·have a:=((h.rs.alloc bE).app dd et).set e (by simp) v1
  rw[eN];simpa[vu]using a
 ·by_cases c:i<aI.length
  ·rw[Dg c];exact aK (h.prog i c)
  ·have c':i=aI.length:=by simp at aq;omega
   subst c';rw[Fj (by omega)];simpa using aK hL
 ·exact(h.ref i aq).ay T (fun t al c=>by rcases al with rfl|rfl|rfl|⟨x,rfl|rfl⟩<;>simp at c) fun j c=>by simp at c
theorem qy.anG (P:gH aX)(h:qy aX bk bQ cr w o s aj az n aI ak a6 k0 ar)(hL:kv bk bQ w o s ak.length b n (pd n))
  (dd:an.ownsRow 0 96 1 v1 (ak.length+1) (vu ak++[ptr b]))(aM:(w.alloc bE).grownBy an k0.ownBlock)(et:v1.ownBlock=k0.ownBlock∨v1.ownBlock=some (w.alloc bE).heap.size):
  qy aX bk bQ cr (an.setCell (aa az 1) v1) (ee o (w.alloc bE).heap.size (s+8,1,0)) s aj az n aI (ak++[b]) a6 v1 ar:=by
 have g1:=(h.hE.alloc bE).dw aM h.zs.tag (by simp);have e:ee o (w.alloc bE).heap.size (s+8,1,0) ((aa az 1):Addr).block=(s+8,0,0):=g1.tag;have T:ct (fun t=>t=(s+8,0,0)∨t=(s+8,1,0)) w o (an.setCell (aa az 1) v1) (ee o (w.alloc bE).heap.size (s+8,1,0)):=(((ct.refl _ w o).alloc bE).dw aM h.zs.tag (Or.inr rfl)).set (by rw[e];exact Or.inl rfl) v1;have aK:∀{i hz:Nat},kv bk bQ w o s i hz n (pd n)->kv bk bQ (an.setCell (aa az 1) v1) (ee o (w.alloc bE).heap.size (s+8,1,0)) s i hz n (pd n):=fun aw=>aw.ay T (fun t al c=>by rcases al with rfl|rfl|rfl|⟨x,rfl|rfl⟩<;>simp at c) fun j c=>by simp at c
 refine⟨h.U.ay T (by simp),h.rs.ay T (by simp),g1.set 1 v1,?_,fun i aq=>P.move (h.prog i aq) fun q ad c=>⟨T.ay.block q ad (by rw[c];simp),(T.same q ad).trans c⟩,fun i aq=>?_,h.da.trans (T.da fun t c=>by rcases c with rfl|rfl<;>exact⟨by simp,by simp⟩)⟩
 ·have a:=((h.zs.alloc bE).app dd et).set e (by simp) v1
  rw[eN];simpa[vu]using a
 ·by_cases c:i<ak.length
  ·rw[Dg c];exact aK (h.ref i c)
  ·have c':i=ak.length:=by simp at aq;omega
   subst c';rw[Fj (by omega)];simpa using aK hL
theorem qy.law (h:qy aX bk bQ cr w o s aj az n aI ak a6 k0 ar)(aC:aI.length=n)(hs:ak.length=n)(m:iM)(hm:∀j,m j []):cU aX bk bQ w o s aj az n aI ak a6 jN jN jN jN jN ar m (replicate n (pd n)) (replicate n (pd n)) []:=by
 have NK:∀(t:Tag) (e:TypeId),∀j:Nat,∃l:List Value,m j l∧b3 w o t e 1 jN l.length l:=fun t e j=>⟨[],hm j,⟨jD _ _ _ _,fun q ad=>by simp[Value.ownBlock]at ad⟩⟩
 refine⟨h.U,h.rs,NK _ _ 2,NK _ _ 3,NK _ _ 4,NK _ _ 5,⟨k0,jN,[],h.hE,h.zs,⟨by simpa using jD _ _ _ _,fun q ad=>by simp[Value.ownBlock]at ad⟩,rfl,fun j af=>by simp at af,by simp⟩,aC,hs,by simp,by simp,fun i aq=>?_,fun i aq=>?_⟩
 ·rw[getElem_replicate];exact h.prog i (by omega)
 ·rw[getElem_replicate];exact h.ref i (by omega)
end
def EY (s k:Nat)(t:Tag):Tag:=if t=(1,0,0)then(s+2,k,0)else if t=(2,0,0)then(s+3,k,0)else if t=(3,0,0)then(s+7,k,0)else if t=(5,0,0)then(s+7,k,1)else if t.1=4 then(s+7,k,t.2.1+2)else(s+12,9,0)
theorem xq.ref {w:World}{o1 on:Nat->Tag}{s n:Nat}(N:xq w an on b n n (k:Int) bD ah bw):
  kv (fun _ _=>mq n) (fun _=>mq n) an (gX o1 w.heap.size fun q=>EY s k (on q)) s k b n (pd n):=by
 have f:∀{q:Nat} {t:Tag},on q=t->t≠(0,0,0)->gX o1 w.heap.size (fun q=>EY s k (on q)) q=EY s k t:=fun{q t} e aS=>by
  rw[qj (N.low e aS),e]
 obtain⟨bb,h1,ae,aH⟩:=N.known;refine⟨ah,bw,⟨bD,jN,[],⟨N.U.U,f N.U.tag (by simp)⟩,⟨?_,fun q ad=>f (N.ag.tag q ad) (by simp)⟩,⟨by simpa using jD _ _ _ _,fun q ad=>by simp[Value.ownBlock]at ad⟩,by simp[pd],by simp,fun k hk=>by simp at hk,fun k _=>rfl,fun k hk=>by simp at hk⟩,⟨⟨bb,h1,⟨ae.row,fun q ad=>f (ae.tag q ad) (by simp)⟩,fun j af=>?_⟩,⟨N.uf.row,fun q ad=>f (N.uf.tag q ad) (by simp)⟩,fun j _=>by simp[mq],by simp[mq]⟩⟩
 ·have a:=N.ag.row
  simp only[pd,length_replicate];exact a
 ·obtain⟨dV,e,p⟩:=aH j af
  refine⟨dV,e,p.row,fun q ad=>(f (p.tag q ad) (by simp)).trans ?_⟩;simp[EY]
structure Ib (aX:World->(Nat->Tag)->Tag->Nat->Nat->Nat->aZ->Prop):Prop where
 SU:∀(w:World) (i n:Int),py i n=false->Calls prog 48 #[I i,I n] w fun e w'=>e= .returned (.tuple #[.pointer none,I 1])∧ax w w'
 aa3:∀(w:World) (i n:Nat),py i n=true->Calls prog 48 #[I i,I n] w fun e w'=>∃b,e= .returned (.tuple #[ptr b,I 0])∧ax w w'∧∀(o:Nat->Tag) (t:Tag),aX w' (gX o w.heap.size fun _=>t) t b n i (pd n)
theorem VM (aX:World->(Nat->Tag)->Tag->Nat->Nat->Nat->aZ->Prop)(yG:Ib aX)(w:World)(n first:Int)(hn:¬(1<=n∧n<=5)):
  Calls prog 16 #[I n,I first] w (bx (.tuple #[.pointer none,.bool true]) fun w'=>ax w w'):=by
 have cz:Hid (∀r,py r n=false):=fun r=>ahS hn
 have vK:Hid (∀v i,Calls prog 48 #[I i,I n] v (bx (.tuple #[.pointer none,I 1]) fun w'=>ax v w')):=fun v i=>yG.SU v i n (cz.o i)
 go_enter func16,ntmps16;go_wp2_with fail
 go_loopw[7] (fun i wr=>∃x:Int,-1<=x∧x<=9∧i=I x∧Hid (Below (w.heap.size+2) ((w.alloc (.cells #[I n,.slice none 0 0,.slice none 0 0] 89)).alloc (.cells #[.slice none 0 0,ptr w.heap.size,.slice none 0 0,.slice none 0 0,.slice none 0 0,.slice none 0 0,.slice none 0 0,I first] 94)) wr)) (fun i _=>(9-intOf i).toNat)
 case atStart=>exact⟨-1,by omega,by omega,rfl,cE⟩
 case round=>
  obtain⟨x,oa,wJ,rfl,ao⟩:=hrel;by_cases hj:x<=n∧x<9
  ·obtain⟨h1,ae⟩:=hj
   go_wp2_with fail
   refine(vK.o _ x).mono ?_;rintro e an ⟨rfl,aF⟩;have dF:Hid (Below (w.heap.size+2) ((w.alloc (.cells #[I n,.slice none 0 0,.slice none 0 0] 89)).alloc (.cells #[.slice none 0 0,ptr w.heap.size,.slice none 0 0,.slice none 0 0,.slice none 0 0,.slice none 0 0,.slice none 0 0,I first] 94)) an):=ao.o.trans (aF.mono (by have:=ao.o.size;simp at this;omega));clear aF ao;go_wp2_with fail
   refine(WZ x n an).mono ?_;rintro e w2 ⟨he,rfl⟩;rw[cz.o x]at he;subst he;go_wp2_with fail
   exact⟨⟨x+1,by omega,by omega,by go_num,dF.o⟩,by simp[intOf];omega⟩
  ·have c0:wr.cell? (aa (w.heap.size+1) 0)=some (.slice none 0 0):=by
    rw[ao.o.cell (p:=(aa (w.heap.size+1) 0)) (by simp)];simp[go_sem]
   have aC:w.heap.size+1<wr.heap.size:=by have:=ao.o.size;simp at this;omega
   have ig:Hid (ax w wr):=(((Hz w.heap.size w).alloc cv _).alloc (by simp) _).trans (ao.o.mono (by omega));clear ao;by_cases aA:x<=n
   ·have mC:¬x<9:=fun h=>hj ⟨aA,h⟩
    clear hj;go_wp2_with fail
    go_ret2
    exact⟨rfl,ig.o⟩
   ·clear hj
    go_wp2_with fail
    go_ret2
    exact⟨rfl,ig.o⟩
theorem PW (aX:World->(Nat->Tag)->Tag->Nat->Nat->Nat->aZ->Prop)(P:gH aX)(yG:Ib aX)(s:Nat)(w:World)(n:Nat)(first:Int)(hn:1<=n)(b2:n<=5):
  Calls prog 16 #[I n,I first] w fun e w'=>∃aj az o aI ak a6 k0,e= .returned (.tuple #[ptr aj,.bool true])∧qy aX (fun _ _=>mq n) (fun _=>mq n) w w' o s aj az n aI ak a6 k0 first∧aI.length=n∧ak.length=n:=by
 have fk:Hid (qy aX (fun _ _=>mq n) (fun _=>mq n) w ((w.alloc (.cells #[I n,.slice none 0 0,.slice none 0 0] 89)).alloc (.cells #[.slice none 0 0,ptr w.heap.size,.slice none 0 0,.slice none 0 0,.slice none 0 0,.slice none 0 0,.slice none 0 0,I first] 94)) (ee (ee (fun _=>(0,0,0)) w.heap.size (s+8,0,0)) (w.heap.size+1) (s+11,0,0)) s (w.heap.size+1) w.heap.size n [] [] jN jN first):=by
  have s1:(w.alloc (.cells #[I n,.slice none 0 0,.slice none 0 0] 89)).heap.size=w.heap.size+1:=by simp
  have hb:=cP.fresh (w.alloc (.cells #[I n,.slice none 0 0,.slice none 0 0] 89)) (ee (fun _=>(0,0,0)) w.heap.size (s+8,0,0)) [.slice none 0 0,ptr w.heap.size,.slice none 0 0,.slice none 0 0,.slice none 0 0,.slice none 0 0,.slice none 0 0,I first] 94 (s+11,0,0);rw[s1]at hb;have aM:=(cP.fresh w (fun _=>(0,0,0)) [I n,.slice none 0 0,.slice none 0 0] 89 (s+8,0,0)).new (.cells #[.slice none 0 0,ptr w.heap.size,.slice none 0 0,.slice none 0 0,.slice none 0 0,.slice none 0 0,.slice none 0 0,I first] 94) (s+11,0,0);rw[s1]at aM;have m1:=tw (B:=fN s) w (fun _=>(0,0,0)) (.cells #[I n,.slice none 0 0,.slice none 0 0] 89) (s+8,0,0);have m2:=tw (B:=fN s) (w.alloc (.cells #[I n,.slice none 0 0,.slice none 0 0] 89)) (ee (fun _=>(0,0,0)) w.heap.size (s+8,0,0)) (.cells #[.slice none 0 0,ptr w.heap.size,.slice none 0 0,.slice none 0 0,.slice none 0 0,.slice none 0 0,.slice none 0 0,I first] 94) (s+11,0,0);rw[s1]at m2;exact⟨hb,⟨by simpa[vu]using jD _ _ _ _,fun q ad=>by simp[Value.ownBlock]at ad⟩,aM,⟨by simpa[vu]using jD _ _ _ _,fun q ad=>by simp[Value.ownBlock]at ad⟩,fun i aq=>by simp at aq,fun i aq=>by simp at aq,m1.trans m2⟩
 obtain⟨i0,aq,dC,dM,dK⟩:=iV Tryz.alf;obtain⟨i1,af,xY,qY,tt⟩:=iV Tryz.alg;have Ln:Hid (∀(r:Int) v,Calls prog 49 #[I r,I n] v (bx (.bool (py r n)) fun w'=>w'=v)):=fun r v=>WZ r n v
 go_enter func16,ntmps16;go_wp2_with fail
 generalize ((w.alloc (.cells #[I n,.slice none 0 0,.slice none 0 0] 89)).alloc (.cells #[.slice none 0 0,ptr w.heap.size,.slice none 0 0,.slice none 0 0,.slice none 0 0,.slice none 0 0,.slice none 0 0,I first] 94))=W0 at*;generalize (ee (ee (fun _=>((0,0,0):Tag)) w.heap.size (s+8,0,0)) (w.heap.size+1) (s+11,0,0))=mJ at*;generalize w.heap.size+1=aj at*;generalize um:w.heap.size=az at*;clear um;go_loopw[7] (fun i wr=>∃(o:Nat->Tag) (aI ak:List Nat) (a6 k0:Value),Hid (qy aX (fun _ _=>mq n) (fun _=>mq n) w wr o s aj az n aI ak a6 k0 first)∧ak.length=aI.length∧((i=I (-1)∧aI.length=0)∨(i=I aI.length∧aI.length<=n)∨(i=I ((n:Int)+1)∧aI.length=n))) (fun i _=>((n:Int)+1-intOf i).toNat)
 case atStart=>exact⟨mJ,[],[],jN,jN,fk.o,rfl,Or.inl ⟨rfl,rfl⟩⟩
 case round=>
  clear fk;obtain⟨o,aI,ak,a6,k0,a1,hlen,Q3⟩:=hrel;rcases Q3 with⟨rfl,Gv⟩|⟨rfl,hle⟩|⟨rfl,ij⟩
  ·go_wp2_with fail
   refine(yG.SU _ (-1) n (W3 n)).mono ?_;rintro e an ⟨rfl,aF⟩;have er:=J (a1.o.acb P aF);clear a1 aF;go_wp2_with fail
   refine(Ln.o (-1) an).mono ?_;rintro e w2 ⟨he,rfl⟩;rw[W3]at he;subst he;go_wp2_with fail
   exact⟨⟨o,aI,ak,a6,k0,er.o,hlen,Or.inr (Or.inl ⟨by rw[Gv];rfl,by omega⟩)⟩,by simp[intOf];omega⟩
  ·by_cases br:aI.length<n
   ·go_wp2_with fail
    refine(yG.aa3 _ aI.length n (W1 br b2)).mono ?_;rintro e an ⟨b,rfl,aF,hL⟩;have uG:=J (hL o (s+1,aI.length,0));have er:=J (a1.o.below P aF fun _=>(s+1,aI.length,0));clear a1 aF hL;generalize gX o wr.heap.size (fun _=>(s+1,aI.length,0))=o1 at*;go_wp2_with fail
    refine(Ln.o aI.length an).mono ?_;rintro e w2 ⟨he,rfl⟩;rw[W1 br b2]at he;subst he;have c1:=er.o.U.U.c1;have ir:=er.o.U.U.lt;have gO:=J er.o.hE.U;go_wp2_with fail
    refine(amN w2 az n aI.length _ _ hn b2 gO.o).mono ?_;rintro e bN ⟨c6,on,bD,ah,bw,rfl,N⟩;have FA:=J (N.ref (s:=s) (o1:=o1));have zU:=J (er.o.below P N.cZ fun q=>EY s aI.length (on q));have ri:=J (P.move uG.o fun q ad (e:o1 q=_)=>⟨N.cZ.block q ad,(nF (f:=fun q=>EY s aI.length (on q)) ad).trans e⟩);clear er uG gO N c1 ir;generalize gX o1 w2.heap.size (fun q=>EY s aI.length (on q))=iv at*;obtain⟨ro,ix,rfl,-,-,-⟩:=zU.o.rs.row.shape;obtain⟨pP,pO,rfl,-,-,-⟩:=zU.o.zs.row.shape;have c0:=zU.o.U.U.c0;have ir:=zU.o.U.U.lt;go_wp2_with(at_builtin;refine tK _ rfl _ _ 40 rfl 0 45 i0 (.pointer none) 1 8 underlying40 aq dC dM dK rfl (by decide) _ _ _ rfl (h2 zU.o.rs.row _) (aa (bN.heap.size) 0) 1 1 [ptr b] rfl rfl (qw _ _ _) (by intro u hu;simp at hu;subst hu;rfl) (by unfold maxLen;omega) (by omega) ch ?_;intro v1 cc hc iI qT kQ;obtain⟨g1,vX,rfl,-,-,-,-,-⟩:=Row.pos hc (by omega);have aF:=(zU.o.U.alloc _).dw iI zU.o.rs.tag (by simp);have fE:=aF.U.cell 0;have eL:=aF.U.frozen 0;have gJ:=aF.U.lt;clear aF)
    obtain⟨Zv,j7⟩:=zU.o.anF P ri.o hc iI kQ;have U8:=J (FA.o.ay j7 (fun t al c=>by rcases al with rfl|rfl|rfl|⟨x,rfl|rfl⟩<;>simp at c) fun j c=>by simp at c);have FD:=J Zv;clear Zv j7 FA zU ri hc iI kQ qT fE eL gJ c0 ir;generalize World.setCell _ _ _=ie at*;generalize ee iv _ (s+11,1,0)=hr at*;have c1:=FD.o.U.U.c1;have aif:=FD.o.hE.U.c1;have ir:=FD.o.U.U.lt;have fW:=FD.o.hE.U.lt;have il:ak.length<=5:=by omega
    have xi:=J hlen;have lz:=J (⟨FD.o,U8.o⟩:_∧_);clear FD U8 Ln aq dC dM dK hlen;go_region_law(refine q6 rfl _ _ 86 rfl 96 i1 (.pointer none) 1 8 underlying86 af xY qY tt rfl (by decide) (.slice pP ak.length pO) ak.length (vu ak) (by simp[Act.eval]) (by exact h2 lz.o.1.zs.row _) (aa (ie.heap.size) 0) 1 1 [ptr c6] (by simp[Act.eval]) rfl (by exact CP _ _ _) (by intro u hu;simp at hu;subst hu;rfl) (by unfold maxLen;omega) (by omega) ?_;intro v2 w5 fm gh kR;obtain⟨g2,lV,rfl,-,-,-,-,-⟩:=Row.pos fm (by omega);have fi:(ie.alloc (.cells #[ptr c6] 96)).grownBy w5 (Value.slice pP ak.length pO).ownBlock:=⟨gh.os,gh.tape,gh.output,gh.size,gh.block⟩;have aF:=(lz.o.1.hE.alloc _).dw fi lz.o.1.zs.tag (by simp);have hf:=aF.U.cell 1;have fO:=aF.U.frozen 1;have gJ:=aF.U.lt;have bP:=(lz.o.1.U.alloc (.cells #[ptr c6] 96)).dw fi lz.o.1.zs.tag (by simp);have nG:=bP.U.cell 1;have ajP:=bP.U.lt;clear aF bP gh)
    all_goals as_aux_lemma=>
     have aeK:=J (lz.o.1.anG P (xi.o.symm▸lz.o.2) fm fi kR);clear lz fm fi kR c1 aif ir fW hf fO gJ nG ajP;go_wp2_with fail
     exact⟨⟨_,aI++[b],ak++[c6],_,_,aeK.o,by simp[xi.o],Or.inr (Or.inl ⟨by simp,by simp;omega⟩)⟩,by simp[intOf];omega⟩
   ·have ij:aI.length=n:=by omega
    subst ij;clear br hle;go_wp2_with fail
    refine(yG.SU _ aI.length aI.length (W4 aI.length)).mono ?_;rintro e an ⟨rfl,aF⟩;have er:=J (a1.o.acb P aF);clear a1 aF;go_wp2_with fail
    refine(Ln.o aI.length an).mono ?_;rintro e w2 ⟨he,rfl⟩;rw[W4]at he;subst he;go_wp2_with fail
    exact⟨⟨o,aI,ak,a6,k0,er.o,hlen,Or.inr (Or.inr ⟨by go_num,rfl⟩)⟩,by simp[intOf]⟩
  ·obtain⟨ro,ix,rfl,-,-,-⟩:=a1.o.rs.row.shape
   have c0:=a1.o.U.U.c0;have ir:=a1.o.U.U.lt;have JL:((aI.length:Int)==0)=false:=Bi (by omega);go_wp2_with fail
   go_ret2
   first|exact⟨aj,az,o,aI,ak,_,k0,rfl,a1.o,ij,by omega⟩|exact⟨aj,rfl,az,o,aI,ak,_,k0,a1.o,ij,by omega⟩|exact⟨aj,rfl,az,o,aI,ak,⟨_,k0,a1.o⟩,ij,by omega⟩|exact⟨aj,rfl,az,o,aI,ak,⟨_,k0,a1.o,ij,by omega⟩⟩
end Go.Proofs.YtiplgdkpnhamaaaGreatDoor.Tv
