import Derived.Test.YtiplgdkpnhamaaaGreatDoorT57
import Derived.Test.YtiplgdkpnhamaaaGreatDoorT06
import Derived.Deep.RegionWith
import Derived.Laws.BytesArg
set_option maxHeartbeats 1000000
set_option maxRecDepth 100000
namespace Go.Proofs.YtiplgdkpnhamaaaGreatDoor
open Go.Proofs.Tryz List
open Go.RowKit
variable {a an bN:World}{mJ:Nat->Tag}
abbrev zj (gp:Bool)(id:Int)(v f t:Value):Value:= .agg #[.bool gp,I id,v,f,t]
def Qs (w:World)(b:Nat)(c8 dr en d_ ev:Value):World:=((((w.setCell (aa b 0) c8).setCell (aa b 1) dr).setCell (aa b 2) en).setCell (aa b 3) d_).setCell (aa b 4) ev
theorem Mm (w:World)(b:Nat)(c8 dr en d_ ev:Value):Touch (fun q=>q=b) w (Qs w b c8 dr en d_ ev):=
 (((((Touch.refl (fun q=>q=b) w).setCell (p:=(aa b 0)) (Or.inl rfl) c8).setCell (p:=(aa b 1)) (Or.inl rfl) dr).setCell (p:=(aa b 2)) (Or.inl rfl) en).setCell (p:=(aa b 3)) (Or.inl rfl) d_).setCell (p:=(aa b 4)) (Or.inl rfl) ev
theorem ahT {w:World}{b:Nat}(h:Below b a w)(c8 dr en d_ ev:Value):Below b a (Qs w b c8 dr en d_ ev):=
 ((((h.setCell (p:=(aa b 0)) cv c8).setCell (p:=(aa b 1)) cv dr).setCell (p:=(aa b 2)) cv en).setCell (p:=(aa b 3)) cv d_).setCell (p:=(aa b 4)) cv ev
theorem ahU {w:World}{s b:Nat}(h:Below s a w)(hb:s<=b)(c8 dr en d_ ev:Value):Below s a (Qs w b c8 dr en d_ ev):=
 ((((h.setCell (p:=(aa b 0)) hb c8).setCell (p:=(aa b 1)) hb dr).setCell (p:=(aa b 2)) hb en).setCell (p:=(aa b 3)) hb d_).setCell (p:=(aa b 4)) hb ev
theorem aoF (w:World)(b n:Nat)(id:Int)(bD:Value)(ag:List Int)(aC:ag.length=n)(oZ:1<=n)(hn:n<=5)(hb:b<w.heap.size)(aS:eh w b 0 (I id))(h1:eh w b 1 bD)(av:Row w 3 1 bD n (ints ag)):
  Calls prog 97 #[.pointer (some (aa b 0))] w fun e w'=>∃v',e= .returned (zj false id v' (.slice none 0 0) (.slice none 0 0))∧Row w' 3 1 v' n (ints ag)∧(∀q,v'.ownBlock=some q->w.heap.size<=q)∧Below w.heap.size w w':=by
 subst aC;have bc:=J av;obtain⟨g,cap,rfl,-⟩:=av.shape;clear av;go_enter func97,ntmps97;go_wp2_with fail
 generalize bY:World.alloc w _=W;have ao:Below w.heap.size w W:=by rw[<-bY];exact cj _ _
 have tY:aQ W w.heap.size [.bool false,I 0,.slice none 0 0,.slice none 0 0,.slice none 0 0] 99:=by rw[<-bY];exact cC w _
 have m0:=bZ ao aS;have m1:=bZ ao h1;have ft:b<W.heap.size:=by have:=ao.size;omega
 have ir:=tY.lt;have mv:=cy (bc.o.below ao.drew);have cD:=J (⟨ao,tY⟩:_∧_);clear aS h1 hb bc bY ao tY;generalize lj:w.heap.size=lb at*;have UU:=J lj;clear lj;have dj:Hid (Calls prog 132 #[.slice g ag.length cap] W.drew fun e w'=>∃a c,e= .returned (.slice a ag.length c)∧w'.cell? (aa lb 0)=some (.bool false)∧w'.cell? (aa lb 1)=some (I 0)∧w'.cell? (aa lb 2)=some (.slice none 0 0)∧w'.cell? (aa lb 3)=some (.slice none 0 0)∧w'.cell? (aa lb 4)=some (.slice none 0 0)∧w'.cell? (aa b 0)=some (I id)∧b<w'.heap.size∧lb<w'.heap.size∧(∀q,w'.frozen? (aa lb q)=false)∧Hid (Row w' 3 1 (.slice a ag.length c) ag.length (ints ag)∧(∀q,(Value.slice a ag.length c).ownBlock=some q->W.heap.size<=q)∧Below W.heap.size W w')):=by
  refine(L8 W.drew _ ag (by omega) (by omega) mv.o).mono ?_;rintro e an ⟨v1,rfl,DY,aF⟩;obtain⟨cO,c1,aP,-⟩:=Row.shape (e3 DY ch);subst aP;have bP:Below W.heap.size W an:=(cE).drew.trans aF;have k:=cD.o.2.below bP;exact⟨cO,c1,rfl,k.cell 0,k.cell 1,k.cell 2,k.cell 3,k.cell 4,bZ bP m0,hV ft bP.size,k.lt,fun q=>k.frozen q,e3 DY ch,fun q ad=>(DY.lt q ad).1,bP⟩
 clear mv;go_region_with(go_at_call 132;refine dj.o.mono ?_;rintro e an ⟨cO,c1,rfl,ek,cI,dq,eW,fo,iT,o_,cQ,atq,H1⟩)
 all_goals go_wp2
 all_goals
  refine iX (v:=zj false id (.slice cO ag.length c1) (.slice none 0 0) (.slice none 0 0)) (by simp[results,results97,go_sem,ek,cI,dq,eW,fo]) rfl ⟨_,rfl,?_,fun q ad=>by rw[UU.o];exact fx (Dd ir) (H1.o.2.1 q ad),?_⟩
  ·exact Row.ay H1.o.1 (Mm an lb _ _ _ _ _) (fun q ad e=>by have:=H1.o.2.1 q ad;omega)
  ·rw[UU.o]
   exact ahT (cD.o.1.trans (H1.o.2.2.mono (Dd ir))) _ _ _ _ _
def qN (gone bz:List Int)(k:Nat):List Int:=(List.range k).map fun j=>max (bz.getD j 0) (gone.getD j 0)
theorem ah6 (gone bz:List Int)(k:Nat):qN gone bz (k+1)=qN gone bz k++[max (bz.getD k 0) (gone.getD k 0)]:=by simp[qN,range_succ]
theorem W9 (gone bz:List Int)(k:Nat):(qN gone bz k).length=k:=by simp[qN]
theorem aly (l:List Int)(x:Int):ints (l++[x])=ints l++[I x]:=by simp[ints]
abbrev Km (t:Tag):Prop:=t≠(0,0,0)
structure rh (w:World)(ef:Nat->Tag)(wr:World)(o:Nat->Tag)(b aE ak n k:Nat)(id:Int)(b8:List Value)(bD bU ah bw v dV:Value)(ag aY bz gone:List Int)(ab:Nat)(v1 f t1:Value):Prop where
 N5:cP wr o (0,0,0) b [I id,bD,bU,ah,bw] 165
 abD:b3 wr o (0,0,0) 3 1 bD n (ints ag)
 S9:b3 wr o (0,0,0) 3 1 bw n (ints gone)
 Tg:b3 wr o (0,0,0) 3 1 v n (ints bz)
 S_:b3 wr o (1,0,0) 3 1 dV n (ints aY)
 Tf:cP wr o (2,0,0) aE b8 99
 zo:cP wr o (2,0,0) ak [.bool false,I 0,.slice none 0 0,.slice none 0 0,.slice none 0 0] 99
 tz:cP wr o (3,0,0) ab [.bool true,I id,v1,f,t1] 99
 Kz:b3 wr o (4,0,0) 3 1 v1 n (ints ag)
 Ks:b3 wr o (4,0,0) 3 1 t1 n (ints ag)
 CV:b3 wr o (5,0,0) 3 1 f k (ints (qN gone bz k))
 ES:ct Km w ef wr o
structure K9 (w:World)(ef:Nat->Tag)(an:World)(mJ:Nat->Tag)(b aE ak n:Nat)(id:Int)(b8:List Value)(bD bU ah bw v dV:Value)(ag aY bz gone:List Int):Prop where
 cO:cP an mJ (0,0,0) b [I id,bD,bU,ah,bw] 165
 a2:b3 an mJ (0,0,0) 3 1 bD n (ints ag)
 a3:b3 an mJ (0,0,0) 3 1 bw n (ints gone)
 a4:b3 an mJ (0,0,0) 3 1 v n (ints bz)
 a5:b3 an mJ (1,0,0) 3 1 dV n (ints aY)
 FO:cP an mJ (2,0,0) aE b8 99
 Ij:cP an mJ (2,0,0) ak [.bool false,I 0,.slice none 0 0,.slice none 0 0,.slice none 0 0] 99
 Ik:ct Km w ef an mJ
section
variable {w wr w':World}{ef o:Nat->Tag}{b aE ak n k:Nat}{id:Int}{b8:List Value}{bD bU ah bw v dV:Value}{ag aY bz gone:List Int}{ab:Nat}{v1 f t1 nr:Value}
theorem rh.app (h:rh w ef wr o b aE ak n k id b8 bD bU ah bw v dV ag aY bz gone ab v1 f t1){bE:Obj}(bf:w'.ownsRow 0 3 1 nr (k+1) (ints (qN gone bz k)++[I (max (bz.getD k 0) (gone.getD k 0))]))(aM:(wr.alloc bE).grownBy w' f.ownBlock)(et:nr.ownBlock=f.ownBlock∨nr.ownBlock=some (wr.alloc bE).heap.size):
  ∃o',rh w ef (w'.setCell (aa ab 3) nr) o' b aE ak n (k+1) id b8 bD bU ah bw v dV ag aY bz gone ab v1 nr t1:=by
 have bm:=h.CV.alloc bE;have g:∀{t:Tag} {e:TypeId} {size:Nat} {u:Value} {m:Nat} {xs:List Value},t≠(5,0,0)->t≠(3,0,0)->b3 wr o t e size u m xs->b3 (w'.setCell (aa ab 3) nr) (ee o (wr.alloc bE).heap.size (5,0,0)) t e size u m xs:=fun cS aH p=>
  ((p.alloc bE).dw aM bm.tag cS).set (p:=(aa ab 3)) (((h.tz.alloc bE).dw aM bm.tag (by simp)).tag) aH _
 have az:∀{t:Tag} {c:Nat} {cs:List Value} {ty:TypeId},t≠(5,0,0)->t≠(3,0,0)->cP wr o t c cs ty->cP (w'.setCell (aa ab 3) nr) (ee o (wr.alloc bE).heap.size (5,0,0)) t c cs ty:=fun cS aH p=>
  ((p.alloc bE).dw aM bm.tag cS).other (p:=(aa ab 3)) (((h.tz.alloc bE).dw aM bm.tag (by simp)).tag) aH _
 refine⟨ee o (wr.alloc bE).heap.size (5,0,0),az (by simp) (by simp) h.N5,g (by simp) (by simp) h.abD,g (by simp) (by simp) h.S9,g (by simp) (by simp) h.Tg,g (by simp) (by simp) h.S_,az (by simp) (by simp) h.Tf,az (by simp) (by simp) h.zo,((h.tz.alloc bE).dw aM bm.tag (by simp)).set 3 nr,g (by simp) (by simp) h.Kz,g (by simp) (by simp) h.Ks,?_,?_⟩
 ·have a:=bm.app bf et
  rw[<-aly,<-ah6]at a;exact a.set (p:=(aa ab 3)) (((h.tz.alloc bE).dw aM bm.tag (by simp)).tag) (by simp) _
 ·refine(((h.ES.alloc bE).dw aM bm.tag (t:=(5,0,0)) (by simp[Km])).set (p:=(aa ab 3)) ?_ _)
  rw[((h.tz.alloc bE).dw aM bm.tag (by simp)).tag];simp[Km]
theorem rh.start {wd:World}(h:K9 w ef an mJ b aE ak n id b8 bD bU ah bw v dV ag aY bz gone)
  (ao:ax an wd)(hb:aQ wd ab [.bool true,I id,v1,.slice none 0 0,t1] 99)(jy:an.heap.size<=ab)(av:Row wd 3 1 v1 n (ints ag))(qf:∀q,v1.ownBlock=some q->an.heap.size<=q∧q≠ab)(al:Row wd 3 1 t1 n (ints ag))(jL:∀q,t1.ownBlock=some q->an.heap.size<=q∧q≠ab):
  ∃ko,rh w ef wd ko b aE ak n 0 id b8 bD bU ah bw v dV ag aY bz gone ab v1 (.slice none 0 0) t1:=by
 have aK:∀{t:Tag} (q:Nat),q<an.heap.size->mJ q=t->wd.heap[q]?=an.heap[q]?:=fun q ad _=>ao.block q ad
 have pK:∀q,q<an.heap.size->gX mJ an.heap.size (fun q=>if q=ab then(3,0,0)else(4,0,0)) q=mJ q:=fun q ad=>nF ad
 refine⟨gX mJ an.heap.size (fun q=>if q=ab then(3,0,0)else(4,0,0)),h.cO.move aK pK,h.a2.move aK pK,h.a3.move aK pK,h.a4.move aK pK,h.a5.move aK pK,h.FO.move aK pK,h.Ij.move aK pK,⟨hb,by rw[qj jy];simp⟩,⟨av,fun q ad=>?_⟩,⟨al,fun q ad=>?_⟩,⟨by simpa[qN,ints]using jD _ _ _ _,fun q ad=>by simp[Value.ownBlock]at ad⟩,h.Ik.af2 ao _⟩
 ·rw[qj (qf q ad).1,if_neg (qf q ad).2]
 ·rw[qj (jL q ad).1,if_neg (jL q ad).2]
theorem rh.ape (h:K9 w ef an mJ b aE ak n id b8 bD bU ah bw v dV ag aY bz gone)
  (ao:ax an bN)(av:Row bN 3 1 v1 n (ints ag))(qf:∀q,v1.ownBlock=some q->an.heap.size<=q)(al:Row bN 3 1 t1 n (ints ag))(jL:∀q,t1.ownBlock=some q->an.heap.size<=q):
  ∃ko,rh w ef (bN.alloc (.cells #[.bool true,I id,v1,.slice none 0 0,t1] 99)) ko b aE ak n 0 id b8 bD bU ah bw v dV ag aY bz gone bN.heap.size v1 (.slice none 0 0) t1:=
 rh.start h (ao.alloc ao.size _) (cC bN _) ao.size (h2 av _) (fun q ad=>⟨qf q ad,by have:=av.lt ad;omega⟩) (h2 al _) (fun q ad=>⟨jL q ad,by have:=al.lt ad;omega⟩)
theorem rh.acE (h:K9 w ef an mJ b aE ak n id b8 bD bU ah bw v dV ag aY bz gone)
  (ao:ax an bN)(cF:aQ bN ab [.bool false,I 0,.slice none 0 0,.slice none 0 0,.slice none 0 0] 99)(jy:an.heap.size<=ab)(av:Row bN 3 1 v1 n (ints ag))(qf:∀q,v1.ownBlock=some q->an.heap.size<=q∧q≠ab)(al:Row bN 3 1 t1 n (ints ag))(jL:∀q,t1.ownBlock=some q->an.heap.size<=q∧q≠ab):
  ∃ko,rh w ef (((((bN.setCell (aa ab 0) (.bool true)).setCell (aa ab 1) (I id)).setCell (aa ab 2) v1).setCell (aa ab 3) (.slice none 0 0)).setCell (aa ab 4) t1) ko b aE ak n 0 id b8 bD bU ah bw v dV ag aY bz gone ab v1 (.slice none 0 0) t1:=
 rh.start h (ahU ao jy _ _ _ _ _) (((((cF.set 0 _).set 1 _).set 2 _).set 3 _).set 4 _) jy (Row.ay av (Mm bN ab _ _ _ _ _) fun q ad e=>(qf q ad).2 e) qf (Row.ay al (Mm bN ab _ _ _ _ _) fun q ad e=>(jL q ad).2 e) jL
end
def py (r n:Int):Bool:=decide (1<=n∧n<=5∧0<=r∧r<n)
theorem WZ (r n:Int)(w:World):Calls prog 49 #[I r,I n] w (bx (.bool (py r n)) fun w'=>w'=w):=by
 by_cases h1:1<=n
 ·by_cases ae:n<=5
  ·by_cases aH:0<=r
   ·by_cases bd:r<n
    ·have aL:Hid (py r n=true):=yu ⟨h1,ae,aH,bd⟩
     go_enter func49,ntmps49;go_wp2;go_ret;exact⟨q2 (by rw[aL.o]),rfl⟩
    ·have aL:Hid (py r n=false):=vG (fun h=>bd h.2.2.2)
     go_enter func49,ntmps49;go_wp2;go_ret;exact⟨q2 (by rw[aL.o]),rfl⟩
   ·have aL:Hid (py r n=false):=vG (fun h=>aH h.2.2.1)
    go_enter func49,ntmps49;go_wp2;go_ret;exact⟨q2 (by rw[aL.o]),rfl⟩
  ·have aL:Hid (py r n=false):=vG (fun h=>ae h.2.1)
   go_enter func49,ntmps49;go_wp2;go_ret;exact⟨q2 (by rw[aL.o]),rfl⟩
 ·have aL:Hid (py r n=false):=vG (fun h=>h1 h.1)
  go_enter func49,ntmps49;go_wp2;go_ret;exact⟨q2 (by rw[aL.o]),rfl⟩
def lq (c:Int)(n:Nat):Nat:=if c<0 then((-(c+1))%n).toNat else(c%n).toNat
theorem Kq (c:Int)(n:Nat)(h:0<n):lq c n<n:=by
 have h1:=Int.emod_lt_of_pos (-(c+1)) (show(0:Int)<n by omega);have ae:=Int.emod_lt_of_pos c (show(0:Int)<n by omega);have aH:=Fi (-(c+1)) (show(n:Int)≠0 by omega);have bd:=Fi c (show(n:Int)≠0 by omega);unfold lq;split<;>omega
theorem abt (c:Int)(n:Nat)(w:World)(hn:0<n)(sq:n<=5)(aA: -9223372036854775808<=c)(mY:c<=9223372036854775807):
  Calls prog 51 #[I c,I n] w (bx (I (lq c n)) fun w'=>w'=w):=by
 by_cases h:c<0
 ·have aL:Hid ((lq c n:Int)=(-(c+1))%n):=by
   have aH:=Fi (-(c+1)) (show(n:Int)≠0 by omega);unfold Hid lq;rw[if_pos h];omega
  go_enter func51,ntmps51;go_wp2;all_goals go_ret
  all_goals refine⟨om ?_,rfl⟩
  all_goals rw[aL.o,<-Int.neg_tmod,Int.tmod_eq_emod_of_nonneg (by omega)]
 ·have aL:Hid ((lq c n:Int)=c%n):=by
   have aH:=Fi c (show(n:Int)≠0 by omega);unfold Hid lq;rw[if_neg h];omega
  go_enter func51,ntmps51;go_wp2;all_goals go_ret
  all_goals refine⟨om ?_,rfl⟩
  all_goals rw[aL.o]
def EZ (a b:Int)(l m:List ByteArray):Bool:=decide (a=b∧l=m)
theorem Ol (w:World)(a b:Int)(bz aK:Value)(l m:List ByteArray)(aC:Row w 9 1 bz l.length (strs l))(hm:Row w 9 1 aK m.length (strs m))(hb:l.length<=100000000)(D_:m.length<=100000000):
  Calls prog 89 #[.agg #[I a,bz],.agg #[I b,aK]] w (bx (.bool (EZ a b l m)) fun w'=>ax w w'):=by
 obtain⟨e_,iD,rfl,-,-,lc⟩:=aC.shape;obtain⟨gy,pb,rfl,-,-,mI⟩:=hm.shape;have atz:=fun q ad=>aC.lt (k:=q) ad
 have mlt:=fun q ad=>hm.lt (k:=q) ad
 clear aC hm;have bp:ax w ((w.alloc (.cells #[I a,.slice e_ l.length iD] 66)).alloc (.cells #[I b,.slice gy m.length pb] 66)):=((cj _ _)).alloc (by simp) _;by_cases jy:a=b
 ·have X0:(a !=b)=false:=by rw[jy];simp
  by_cases hlen:l.length=m.length
  ·have MZ:((l.length:Int) !=m.length)=false:=by rw[hlen];simp
   have dn:=J hlen;have adV:=J jy;clear hlen jy;go_enter func89,ntmps89;go_wp2_with fail
   go_loopw[5] (fun i wr=>∃k:Nat,k<=l.length∧i=I k∧(∀j (af:j<l.length) (mF:j<m.length),j<k->l[j]=m[j])∧Below (w.heap.size+2) ((w.alloc (.cells #[I a,.slice e_ l.length iD] 66)).alloc (.cells #[I b,.slice gy m.length pb] 66)) wr) (fun i _=>l.length-(intOf i).toNat)
   case atStart=>exact⟨0,ch,rfl,fun j _ _ h=>by omega,cE⟩
   case round=>
    obtain⟨k,hk,rfl,qP,ki⟩:=hrel;have cM:=J qP;have ao:Hid (ax w wr):=bp.trans (ki.mono (by omega));have c1:wr.cell? (aa (w.heap.size) 1)=some (.slice e_ l.length iD):=by rw[ki.cell (p:=(aa (w.heap.size) 1)) (by simp)];simp[go_sem]
    have c2:wr.cell? (aa (w.heap.size+1) 1)=some (.slice gy m.length pb):=by rw[ki.cell (p:=(aa (w.heap.size+1) 1)) (by simp)];simp[go_sem]
    clear qP;by_cases cW:k<l.length
    ·have rI:k<m.length:=by have:=dn.o;omega
     obtain⟨g1,rfl,u1⟩:=lc k (by omega);obtain⟨g2,rfl,u2⟩:=mI k (by omega);rw[Hf _ _ cW]at u1;rw[Hf _ _ rI]at u2;have v1:=bZ ao.o u1;have v2:=bZ ao.o u2;clear lc mI u1 u2;by_cases he:l[k]=m[k]
     ·have rF:(l[k].toList==m[k].toList)=true:=yb.2 he
      have HK:Hid (∀j (af:j<l.length) (mF:j<m.length),j<k+1->l[j]=m[j]):=fun j af mF h=>by
       by_cases e:j=k
       ·subst e;exact he
       ·exact cM.o j af mF (by omega)
      clear he cM;generalize l[k]=x at*;generalize m[k]=y at*;go_wp2;go_quiet(fail);go_wp2;exact⟨⟨k+1,by omega,by go_num,HK.o,ym ki _⟩,by simp[intOf];omega⟩
     ·have rF:(l[k].toList==m[k].toList)=false:=A8.2 he
      have aL:Hid (EZ a b l m=false):=vG (fun h=>by obtain⟨_,rfl⟩:=h;exact he rfl);clear he cM;generalize l[k]=x at*;generalize m[k]=y at*;go_wp2;go_quiet(fail);go_wp2;go_ret;exact⟨q2 (by rw[aL.o]),ym ao.o _⟩
    ·have aL:Hid (EZ a b l m=true):=yu ⟨adV.o,yp dn.o fun j h1 ae=>cM.o j h1 ae (by omega)⟩
     clear cM lc mI;go_wp2;go_ret;exact⟨q2 (by rw[aL.o]),ao.o⟩
  ·have MZ:((l.length:Int) !=m.length)=true:=by simp;omega
   have aL:Hid (EZ a b l m=false):=vG (fun h=>hlen (by rw[h.2]));clear hlen jy;go_enter func89,ntmps89;go_wp2_with fail
   go_ret;exact⟨q2 (by rw[aL.o]),bp⟩
 ·have X0:(a !=b)=true:=by simp;exact jy
  have aL:Hid (EZ a b l m=false):=vG (fun h=>jy h.1);clear jy;go_enter func89,ntmps89;go_wp2_with fail
  go_ret;exact⟨q2 (by rw[aL.o]),bp⟩
def G0 (c:Int):ByteArray:=strOfNums [c]
theorem abf (c:Int):(G0 c).size=1:=rfl
def ON:Nat->Int->ByteArray->ByteArray
 |0,_,s=>s
 |k+1,q,s=>ON k (q/16) (s++G0 (97+q%16))
def r2 (mark:Int):ByteArray:=ON 9 mark ⟨#[35]⟩
theorem agP (w:World)(c:Int):(convert 135 9 (bo (w.heap.size) 1 1)).run prog (w.alloc (.cells #[.int .u8 c] 5))= .ok (ai (G0 c)) (w.alloc (.cells #[.int .u8 c] 5)):=by
 refine run_convert_bytes_arg (w:=w.alloc (.cells #[.int .u8 c] 5)) 135 5 underlying135 underlying5 w.heap.size 0 1 1 [c] rfl ?_ 9 underlying9;intro i aq;have:i=0:=by omega
 subst this;simp
theorem Uh (mark:Int)(w:World)(aS:0<=mark)(h1:mark<=4000000000):
  Calls prog 55 #[I mark] w (bx (ai (r2 mark)) fun w'=>ax w w'):=by
 have oU:=agP;go_enter func55,ntmps55;go_wp2;go_loopw[0,3,4] (fun m t i wr=>∃(k:Nat) (q:Int) (s:ByteArray),k<=9∧i=I k∧m=I q∧0<=q∧q<=4000000000∧t=ai s∧s.size=k+1∧ON (9-k) q s=r2 mark∧ax w wr) (fun _ _ i _=>9-(intOf i).toNat)
 case atStart=>exact⟨0,mark,_,by omega,rfl,rfl,aS,h1,rfl,rfl,rfl,cE⟩
 case round=>
  obtain⟨k,q,s,hk,rfl,rfl,RF,l9,rfl,hs,ZL,ao⟩:=hrel;have ew:=J ZL;have aL:=J hs;clear ZL hs;by_cases cW:k<9
  ·have jX:s.size<=10:=by have:=aL.o;omega
   have sw:(G0 (97+q%16)).size<=1:=by rw[abf];exact cv
   have LF:Hid (ON (9-(k+1)) (q/16) (s++G0 (97+q%16))=r2 mark):=by
    have e:9-k=(9-(k+1))+1:=by omega
    have h:=ew.o;rw[e]at h;exact h
   have aeG:Hid ((s++G0 (97+q%16)).size=k+1+1):=by
    unfold Hid;rw[ByteArray.size_append,aL.o,abf]
   go_wp2;exact⟨⟨k+1,q/16,_,by omega,by go_num,rfl,by omega,by omega,rfl,aeG.o,LF.o,ao.alloc ao.size _⟩,by simp[intOf];omega⟩
  ·have e:9-k=0:=by omega
   rw[e]at ew;clear e;go_wp2;go_ret;refine⟨?_,ao⟩;rw[<-ew.o];rfl
end Go.Proofs.YtiplgdkpnhamaaaGreatDoor
