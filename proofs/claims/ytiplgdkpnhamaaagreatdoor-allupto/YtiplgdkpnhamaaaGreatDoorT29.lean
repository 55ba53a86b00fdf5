import Derived.Test.YtiplgdkpnhamaaaGreatDoorT28
set_option maxHeartbeats 16000000
set_option maxRecDepth 100000
namespace Go.Proofs.YtiplgdkpnhamaaaGreatDoor.Tv
open Go.Proofs.Tryz
open Go.RowKit
variable {W w:World}{b i k n aE:Nat}{d:aZ}{av aY:List Value}{cX b8 tbs:Nat->Nat}{o:db}{p:Nat->Own}{st:b5}{t:aT}{bg:dD}
theorem vT {eL:Nat->Own}{e8 aV mb:Nat}(h:fH bg w p b n i d aE st b8 tbs cX av aY)(hk:k<6)(bm:d.bH k=none)(ao:OZ w p k aE (48*d.hs.length) e8 aV mb st W eL):
  gP bg (W.setCell (aa b (33+k)) (bl aV)) eL b n i {d with bH:=fP d.bH k (some ⟨0,0,d.ag,[]⟩)}∧bA kn w p (W.setCell (aa b (33+k)) (bl aV)) eL:=by
 have bT:=h.U.ay ao.G6 (by simp[dN]);have dy:bA (·= .rep) W eL (W.setCell (aa b (33+k)) (bl aV)) eL:=(bA.refl _ _ _).set (p:=(aa b (33+k))) bT.tag _;have KC:bA kn w p (W.setCell (aa b (33+k)) (bl aV)) eL:=(ao.G6.mono fun u hu=>Ox hu).trans (dy.mono fun u hu=>by rw[hu];simp[kn]);have vm:e8∉st.bW.map ej.U:=fun aA=>by
  obtain⟨s,hs,e⟩:=gF.1 aA;obtain⟨cg,bM,b6,bU,b4,bB,ah,a1⟩:=h.hR;have:=(a1.snap s hs).U.lt;have:=ao.fresh;omega
 have c6:=bT.set (33+k) (bl aV);rw[ab4 h.hlen h.lL]at c6;have v8:=am2 (d:=d) (tbs:=tbs) (tE:=some ⟨0,0,d.ag,[]⟩) hk aV;simp only[Option.isSome_some,uC]at v8;rw[v8]at c6;refine⟨⟨aE,wO st e8,fun q=>if q=k then e8 else b8 q,fun q=>if q=k then aV else tbs q,fun q=>if q=k then mb else cX q,av,aY,c6,h.hlen,h.lL,?_,h.ok.PU hk bm vm,fun r aJ=>?_,fun gC ed dI=>?_,fun c aA=>?_,h.known,h.xF⟩,KC⟩
 ·obtain⟨cg,bM,b6,bU,b4,bB,ah,jX⟩:=ao.hR
  exact⟨cg,bM,b6,bU,b4,bB,ah,jX.ay dy (fun u hu e=>by rw[e]at hu;exact hu)⟩
 ·exact((h.held r aJ).ay ao.G6 (by simp[dN]) (by simp[dN])).ay dy (by simp) (by simp)
 ·by_cases c':gC=k
  ·subst c'
   rw[show({d with bH:=fP d.bH gC (some ⟨0,0,d.ag,[]⟩)}:aZ).bH gC=some ⟨0,0,d.ag,[]⟩from qp _ _ _]at dI;cases dI;simp only[uC];exact⟨ao.tx.ay dy (by simp),ao.oj,ao.own.hP dy (by rw[ao.oj];simp)⟩
  ·rw[show({d with bH:=fP d.bH k (some ⟨0,0,d.ag,[]⟩)}:aZ).bH gC=d.bH gC from nJ c']at dI
   have au:=h.tx gC ed dI;simp only[c',if_false];have o1:eL (cX gC)= .own gC:=(ao.G6.same _ au.own.lt).trans au.oj;exact⟨(au.U.ay ao.G6 (by simp[dN])).ay dy (by simp),o1,(au.own.hP ao.G6 (by rw[au.oj];simp[dN])).hP dy (by rw[o1];simp)⟩
 ·have mY:c∈(st.bW++[(⟨e8,st.ag,[]⟩:ej)]).map ej.U:=aA
  rw[tJ,hT]at mY;rcases mY with mY|mY
  ·obtain⟨j,gr,gK⟩:=h.A7 c mY
   refine⟨j,?_,?_⟩
   ·show(fP d.bH k _ j).isSome
    by_cases VY:j=k
    ·subst VY;rw[qp];rfl
    ·rw[nJ VY];exact gr
   ·have:j≠k:=fun e=>by subst e;rw[bm]at gr;cases gr
    simp[this,gK]
  ·refine⟨k,?_,by simpa using mY⟩
   show(fP d.bH k _ k).isSome
   rw[qp];rfl
theorem G1 (h:fH bg w p b n i d aE st b8 tbs cX av aY)(hk:k<6)(bm:d.bH k=none):
  Calls prog 59 #[bl aE] w.drew (bx (bl w.heap.size) fun w'=>w'.cell? (aa b (33+k))=some (.pointer none)∧w'.frozen? (aa b (33+k))=false∧b<w'.heap.size∧Hid (∃dk,fR w' dk aE (48*d.hs.length) (wO st w.heap.size)∧bA dN w p w' dk)):=by
 have ez:fR w.drew p aE (48*d.hs.length) st:=by
  obtain⟨cg,bM,b6,bU,b4,bB,ah,hs⟩:=h.hR;exact⟨cg,bM,b6,bU,b4,bB,ah,hs.move fun q ad _=>⟨rfl,rfl⟩⟩
 refine(abi ez (by have:=h.acr;omega)).mono ?_;rintro e w' ⟨rfl,dk,h1,ae⟩;have bT:=h.U.ay ae.OF (by simp[dN]);refine⟨rfl,?_,bT.U.frozen _,bT.U.lt,dk,h1,ae.OF⟩;rw[bT.U.cell (33+k),Od h.hlen h.lL,NS hk];unfold lO;rw[bm];rfl
theorem G2 (h:fH bg w p b n i d aE st b8 tbs cX av aY)(hk:k<6)(bm:d.bH k=none):
  Calls prog 59 #[bl aE] (w.alloc (.map #[] 0)).drew (bx (bl (w.heap.size+1)) fun w'=>w'.cell? (aa b (33+k))=some (.pointer none)∧w'.frozen? (aa b (33+k))=false∧b<w'.heap.size∧Hid (∃eu,fR w' eu aE (48*d.hs.length) (wO st (w.heap.size+1))∧bA dN (w.alloc (.map #[] 0)) (jQ p w.heap.size (.own k)) w' eu)):=by
 have cF:(w.alloc (.map #[] 0)).drew.heap.size=w.heap.size+1:=by simp[World.drew]
 have dQ:fH bg (w.alloc (.map #[] 0)) (jQ p w.heap.size (.own k)) b n i d aE st b8 tbs cX av aY:=h.move fun q ad _=>⟨iW _ _ _ ad,qq (by omega)⟩
 have ez:fR (w.alloc (.map #[] 0)).drew (jQ p w.heap.size (.own k)) aE (48*d.hs.length) st:=by
  obtain⟨cg,bM,b6,bU,b4,bB,ah,hs⟩:=dQ.hR;exact⟨cg,bM,b6,bU,b4,bB,ah,hs.move fun q ad _=>⟨rfl,rfl⟩⟩
 have a:=abi ez (by have:=h.acr;omega);rw[cF]at a;refine a.mono ?_;rintro e w' ⟨rfl,dk,h1,ae⟩;have bT:=dQ.U.ay ae.OF (by simp[dN]);refine⟨rfl,?_,bT.U.frozen _,bT.U.lt,dk,h1,ae.OF⟩;rw[bT.U.cell (33+k),Od h.hlen h.lL,NS hk];unfold lO;rw[bm];rfl
theorem afX (h:gP bg w p b n i d):
  Calls prog 27 #[bl b] w (bx (tX d) fun w'=>∃p',gP bg w' p' b n i (pt d)∧bA kn w p w' p'):=by
 obtain⟨aE,st,b8,tbs,cX,av,aY,h⟩:=h;have M1:= @run_makeMap prog;have c2:=h.cellOf.2.2;have ef:w.cell? (aa b 33)=some (lO d tbs 0):=h.Ae (k:=0) (by omega);have o1:w.cell? (aa b 34)=some (lO d tbs 1):=h.Ae (k:=1) (by omega);have dx:w.cell? (aa b 35)=some (lO d tbs 2):=h.Ae (k:=2) (by omega);have iv:w.cell? (aa b 36)=some (lO d tbs 3):=h.Ae (k:=3) (by omega);have hr:w.cell? (aa b 37)=some (lO d tbs 4):=h.Ae (k:=4) (by omega);have nD:w.cell? (aa b 38)=some (lO d tbs 5):=h.Ae (k:=5) (by omega);have aC:=h.U.U.lt;have bm:∀j,w.frozen? (aa b j)=false:=fun j=>h.U.U.frozen j
 have Ze:∀j,((d.bH j).isSome=true∧lO d tbs j=bl (tbs j))∨(d.bH j=none∧lO d tbs j= .pointer none):=fun j=>by
  unfold lO;cases e:d.bH j with
  |none=>exact Or.inr ⟨rfl,rfl⟩
  |some t=>exact Or.inl ⟨rfl,rfl⟩
 generalize eo:lO d tbs 0=v0 at*;generalize aP:lO d tbs 1=v1 at*;generalize ba:lO d tbs 2=v2 at*;generalize ey:lO d tbs 3=v3 at*;generalize hB:lO d tbs 4=v4 at*;generalize gS:lO d tbs 5=v5 at*;have bX:=J (⟨eo,aP,ba,ey,hB,gS⟩:_∧_∧_∧_∧_∧_);have h4:=J Ze;have aO:=J h;have arc:=J bm;clear eo aP ba ey hB gS Ze h bm;go_enter func27,ntmps27;go_wp2_with fail
 go_loopw[10] (fun j wr=>∃k:Nat,k<=6∧j=I k∧wr=w∧Hid (∀q,q<k->(d.bH q).isSome=true)) (fun j _=>6-(intOf j).toNat)
 case atStart=>exact⟨0,by omega,rfl,rfl,fun q ad=>by omega⟩
 case round=>
  obtain⟨k,Cp,rfl,rfl,gn⟩:=hrel;have Rj:k=6∨k=0∨k=1∨k=2∨k=3∨k=4∨k=5:=by omega
  rcases Rj with rfl|Rj
  ·have pk:=J (afZ (d:=d) (fun j af=>gn.o j af))
   go_wp2_with fail
   go_ret2
   exact⟨by rw[pk.o.1];rfl,p,by rw[pk.o.2];exact⟨aE,st,b8,tbs,cX,av,aY,aO.o⟩,bA.refl _ _ _⟩
  ·rcases Rj with rfl|rfl|rfl|rfl|rfl|rfl
   ·rw[show((0:Nat):Int)=0 from rfl]
    have mE:=akU;rcases h4.o 0 with⟨hs,e⟩|⟨hs,e⟩
    ·rw[bX.o.1]at e
     subst e;have qU:∀q,q<1->(d.bH q).isSome=true:=fun q ad=>by
      rcases vE q 0 with c|c
      ·exact gn.o q c
      ·have:q=0:=by omega
       subst this;exact hs
     have xj:=J qU;clear hs qU;go_wp2_with fail
     exact⟨⟨1,by omega,by go_num,by first|rfl|trivial,xj.o⟩,by simp[intOf]⟩
    ·rw[bX.o.1]at e
     subst e;have pk:=J (FU (d:=d) (k:=0) (by omega) gn.o hs);have cM:=J (G1 aO.o (k:=0) (by omega) hs);have bO:=J (G2 aO.o (k:=0) (by omega) hs);have aL:=J hs;clear hs;go_wp2_with fail
     go_region_with(first|(go_at_call 59;show Calls _ _ _ (World.drew (World.alloc _ _)) _;refine bO.o.mono ?_;rintro e w5 ⟨rfl,cI,dq,eW,fo⟩)|(go_at_call 59;refine cM.o.mono ?_;rintro e w5 ⟨rfl,cI,dq,eW,fo⟩))
     all_goals go_wp2_with fail
     all_goals go_ret2
     all_goals
      refine⟨by rw[pk.o.1];rfl,?_⟩;rw[pk.o.2];obtain⟨pM,g1,g2⟩:=fo.o;first
       |(have M:=vT (k:=0) aO.o (by omega) aL.o (FT g1 g2);rw[rf _ _ _ _ (by simp;omega),rf _ _ _ _ eW]at M;exact⟨_,M⟩)
       |(have M:=vT (k:=0) aO.o (by omega) aL.o (FR g1 g2);rw[rf _ _ _ _ eW]at M;exact⟨_,M⟩)
   ·rw[show((1:Nat):Int)=1 from rfl]
    have mE:=akV;rcases h4.o 1 with⟨hs,e⟩|⟨hs,e⟩
    ·rw[bX.o.2.1]at e
     subst e;have qU:∀q,q<2->(d.bH q).isSome=true:=fun q ad=>by
      rcases vE q 1 with c|c
      ·exact gn.o q c
      ·have:q=1:=by omega
       subst this;exact hs
     have xj:=J qU;clear hs qU;go_wp2_with fail
     exact⟨⟨2,by omega,by go_num,by first|rfl|trivial,xj.o⟩,by simp[intOf]⟩
    ·rw[bX.o.2.1]at e
     subst e;have pk:=J (FU (d:=d) (k:=1) (by omega) gn.o hs);have cM:=J (G1 aO.o (k:=1) (by omega) hs);have bO:=J (G2 aO.o (k:=1) (by omega) hs);have aL:=J hs;clear hs;go_wp2_with fail
     go_region_with(first|(go_at_call 59;show Calls _ _ _ (World.drew (World.alloc _ _)) _;refine bO.o.mono ?_;rintro e w5 ⟨rfl,cI,dq,eW,fo⟩)|(go_at_call 59;refine cM.o.mono ?_;rintro e w5 ⟨rfl,cI,dq,eW,fo⟩))
     all_goals go_wp2_with fail
     all_goals go_ret2
     all_goals
      refine⟨by rw[pk.o.1];rfl,?_⟩;rw[pk.o.2];obtain⟨pM,g1,g2⟩:=fo.o;first
       |(have M:=vT (k:=1) aO.o (by omega) aL.o (FT g1 g2);rw[rf _ _ _ _ (by simp;omega),rf _ _ _ _ eW]at M;exact⟨_,M⟩)
       |(have M:=vT (k:=1) aO.o (by omega) aL.o (FR g1 g2);rw[rf _ _ _ _ eW]at M;exact⟨_,M⟩)
   ·rw[show((2:Nat):Int)=2 from rfl]
    have mE:=akW;rcases h4.o 2 with⟨hs,e⟩|⟨hs,e⟩
    ·rw[bX.o.2.2.1]at e
     subst e;have qU:∀q,q<3->(d.bH q).isSome=true:=fun q ad=>by
      rcases vE q 2 with c|c
      ·exact gn.o q c
      ·have:q=2:=by omega
       subst this;exact hs
     have xj:=J qU;clear hs qU;go_wp2_with fail
     exact⟨⟨3,by omega,by go_num,by first|rfl|trivial,xj.o⟩,by simp[intOf]⟩
    ·rw[bX.o.2.2.1]at e
     subst e;have pk:=J (FU (d:=d) (k:=2) (by omega) gn.o hs);have cM:=J (G1 aO.o (k:=2) (by omega) hs);have bO:=J (G2 aO.o (k:=2) (by omega) hs);have aL:=J hs;clear hs;go_wp2_with fail
     go_region_with(first|(go_at_call 59;show Calls _ _ _ (World.drew (World.alloc _ _)) _;refine bO.o.mono ?_;rintro e w5 ⟨rfl,cI,dq,eW,fo⟩)|(go_at_call 59;refine cM.o.mono ?_;rintro e w5 ⟨rfl,cI,dq,eW,fo⟩))
     all_goals go_wp2_with fail
     all_goals go_ret2
     all_goals
      refine⟨by rw[pk.o.1];rfl,?_⟩;rw[pk.o.2];obtain⟨pM,g1,g2⟩:=fo.o;first
       |(have M:=vT (k:=2) aO.o (by omega) aL.o (FT g1 g2);rw[rf _ _ _ _ (by simp;omega),rf _ _ _ _ eW]at M;exact⟨_,M⟩)
       |(have M:=vT (k:=2) aO.o (by omega) aL.o (FR g1 g2);rw[rf _ _ _ _ eW]at M;exact⟨_,M⟩)
   ·rw[show((3:Nat):Int)=3 from rfl]
    have mE:=akX;rcases h4.o 3 with⟨hs,e⟩|⟨hs,e⟩
    ·rw[bX.o.2.2.2.1]at e
     subst e;have qU:∀q,q<4->(d.bH q).isSome=true:=fun q ad=>by
      rcases vE q 3 with c|c
      ·exact gn.o q c
      ·have:q=3:=by omega
       subst this;exact hs
     have xj:=J qU;clear hs qU;go_wp2_with fail
     exact⟨⟨4,by omega,by go_num,by first|rfl|trivial,xj.o⟩,by simp[intOf]⟩
    ·rw[bX.o.2.2.2.1]at e
     subst e;have pk:=J (FU (d:=d) (k:=3) (by omega) gn.o hs);have cM:=J (G1 aO.o (k:=3) (by omega) hs);have bO:=J (G2 aO.o (k:=3) (by omega) hs);have aL:=J hs;clear hs;go_wp2_with fail
     go_region_with(first|(go_at_call 59;show Calls _ _ _ (World.drew (World.alloc _ _)) _;refine bO.o.mono ?_;rintro e w5 ⟨rfl,cI,dq,eW,fo⟩)|(go_at_call 59;refine cM.o.mono ?_;rintro e w5 ⟨rfl,cI,dq,eW,fo⟩))
     all_goals go_wp2_with fail
     all_goals go_ret2
     all_goals
      refine⟨by rw[pk.o.1];rfl,?_⟩;rw[pk.o.2];obtain⟨pM,g1,g2⟩:=fo.o;first
       |(have M:=vT (k:=3) aO.o (by omega) aL.o (FT g1 g2);rw[rf _ _ _ _ (by simp;omega),rf _ _ _ _ eW]at M;exact⟨_,M⟩)
       |(have M:=vT (k:=3) aO.o (by omega) aL.o (FR g1 g2);rw[rf _ _ _ _ eW]at M;exact⟨_,M⟩)
   ·rw[show((4:Nat):Int)=4 from rfl]
    have mE:=akY;rcases h4.o 4 with⟨hs,e⟩|⟨hs,e⟩
    ·rw[bX.o.2.2.2.2.1]at e
     subst e;have qU:∀q,q<5->(d.bH q).isSome=true:=fun q ad=>by
      rcases vE q 4 with c|c
      ·exact gn.o q c
      ·have:q=4:=by omega
       subst this;exact hs
     have xj:=J qU;clear hs qU;go_wp2_with fail
     exact⟨⟨5,by omega,by go_num,by first|rfl|trivial,xj.o⟩,by simp[intOf]⟩
    ·rw[bX.o.2.2.2.2.1]at e
     subst e;have pk:=J (FU (d:=d) (k:=4) (by omega) gn.o hs);have cM:=J (G1 aO.o (k:=4) (by omega) hs);have bO:=J (G2 aO.o (k:=4) (by omega) hs);have aL:=J hs;clear hs;go_wp2_with fail
     go_region_with(first|(go_at_call 59;show Calls _ _ _ (World.drew (World.alloc _ _)) _;refine bO.o.mono ?_;rintro e w5 ⟨rfl,cI,dq,eW,fo⟩)|(go_at_call 59;refine cM.o.mono ?_;rintro e w5 ⟨rfl,cI,dq,eW,fo⟩))
     all_goals go_wp2_with fail
     all_goals go_ret2
     all_goals
      refine⟨by rw[pk.o.1];rfl,?_⟩;rw[pk.o.2];obtain⟨pM,g1,g2⟩:=fo.o;first
       |(have M:=vT (k:=4) aO.o (by omega) aL.o (FT g1 g2);rw[rf _ _ _ _ (by simp;omega),rf _ _ _ _ eW]at M;exact⟨_,M⟩)
       |(have M:=vT (k:=4) aO.o (by omega) aL.o (FR g1 g2);rw[rf _ _ _ _ eW]at M;exact⟨_,M⟩)
   ·rw[show((5:Nat):Int)=5 from rfl]
    have mE:=akZ;rcases h4.o 5 with⟨hs,e⟩|⟨hs,e⟩
    ·rw[bX.o.2.2.2.2.2]at e
     subst e;have qU:∀q,q<6->(d.bH q).isSome=true:=fun q ad=>by
      rcases vE q 5 with c|c
      ·exact gn.o q c
      ·have:q=5:=by omega
       subst this;exact hs
     have xj:=J qU;clear hs qU;go_wp2_with fail
     exact⟨⟨6,by omega,by go_num,by first|rfl|trivial,xj.o⟩,by simp[intOf]⟩
    ·rw[bX.o.2.2.2.2.2]at e
     subst e;have pk:=J (FU (d:=d) (k:=5) (by omega) gn.o hs);have cM:=J (G1 aO.o (k:=5) (by omega) hs);have bO:=J (G2 aO.o (k:=5) (by omega) hs);have aL:=J hs;clear hs;go_wp2_with fail
     go_region_with(first|(go_at_call 59;show Calls _ _ _ (World.drew (World.alloc _ _)) _;refine bO.o.mono ?_;rintro e w5 ⟨rfl,cI,dq,eW,fo⟩)|(go_at_call 59;refine cM.o.mono ?_;rintro e w5 ⟨rfl,cI,dq,eW,fo⟩))
     all_goals go_wp2_with fail
     all_goals go_ret2
     all_goals
      refine⟨by rw[pk.o.1];rfl,?_⟩;rw[pk.o.2];obtain⟨pM,g1,g2⟩:=fo.o;first
       |(have M:=vT (k:=5) aO.o (by omega) aL.o (FT g1 g2);rw[rf _ _ _ _ (by simp;omega),rf _ _ _ _ eW]at M;exact⟨_,M⟩)
       |(have M:=vT (k:=5) aO.o (by omega) aL.o (FR g1 g2);rw[rf _ _ _ _ eW]at M;exact⟨_,M⟩)
def ae0 (w:World)(p:Nat->Own)(b r m:Nat)(cs xs bb:List Value)(w':World):Prop:=
 ∃p' v',fS w' p' .rep b (cs.set (3+r) v') 114∧gZ w' p' (.held r) 139 8 v' (m+1) (xs++bb)∧bA (fun u=>u= .rep∨u= .held r) w p w' p'
theorem ajg {r m:Nat}{cs:List Value}{v:Value}{xs:List Value}(ao:fS w p .rep b cs 114)(aA:eh w b (3+r) v)(aJ:r<5)(bf:gZ w p (.held r) 139 8 v m xs)(hm:m<=2000000)(seq a c6 c d e:Int)(mb:Nat):
  Calls prog 106 #[.pointer (some (aa b 3)),.agg #[I r,I seq,I a,I c6,I c,I d,I e,.map (some mb)]] w fun dI w'=>dI= .returned (.tuple #[])∧ae0 w p b r m cs xs [I r,I seq,I a,I c6,I c,I d,I e,.map (some mb)] w':=by
 obtain⟨i0,aq,dC,dM,dK⟩:=iV Tryz.Sf;have cw:=J (⟨aq,dC,dM,dK⟩:_∧_∧_∧_);clear aq dC dM dK;generalize bj:w.alloc (.cells #[I r,I seq,I a,I c6,I c,I d,I e,.map (some mb)] 139)=W0;have bp:ax w W0:=by rw[<-bj];exact cj _ _
 have fV:aQ W0 w.heap.size [I r,I seq,I a,I c6,I c,I d,I e,.map (some mb)] 139:=by rw[<-bj];exact cC w _
 have c8:=fV.c0;have dr:=fV.c1;have en:=fV.c2;have d_:=fV.c3;have ev:=fV.c4;have gv:=fV.c5;have nf:=fV.iG;have wZ:=fV.hA;have uj:eh W0 b (3+r) v:=bZ bp aA;have FQ:=ao.below bp;have Ev:=bf.below bp;have aC:=fV.lt;have ft:=FQ.U.lt;have aP:¬(r:Int)<0:=by omega
 have ba:(r:Int)<5:=by omega
 obtain⟨cA,cap,sx,gg,jJ,-⟩:=bf.row.shape;subst sx;have AS:∀q,(Value.slice cA m cap).ownBlock=some q->p q= .held r:=bf.tag;have bS:¬(Value.slice cA m cap).ownBlock=some b:=fun e=>by have:=AS b e;rw[ao.tag]at this;cases this
 have br:∀q,(Value.slice cA m cap).ownBlock=some q->q<w.heap.size:=fun q ad=>bf.lt ad
 have xI:aQ (W0.alloc (.cells #[I r,I seq,I a,I c6,I c,I d,I e,.map (some mb)] 139)).drew W0.heap.size [I r,I seq,I a,I c6,I c,I d,I e,.map (some mb)] 139:=cC W0 _;have Dt:=J (A0 xI);have cD:Hid (∀w5,(W0.alloc (.cells #[I r,I seq,I a,I c6,I c,I d,I e,.map (some mb)] 139)).drew.grownBy w5 (Value.slice cA m cap).ownBlock->w5.cell? (aa b (3+r))=some (.slice cA m cap)∧w5.frozen? (aa b (3+r))=false∧b<w5.heap.size∧w5.cell? (aa (w.heap.size) 0)=some (I r)∧w.heap.size<w5.heap.size):=fun w5 g=>by
  have oS:∀q,q<W0.heap.size->¬(Value.slice cA m cap).ownBlock=some q->w5.heap[q]?=W0.heap[q]?:=fun q ad hn=>(g.block q (by show q<(W0.alloc _).heap.size;simp;omega) (fun e=>hn e.symm)).trans (iW _ _ _ ad)
  have ow:aQ w5 b cs 114:=FQ.U.move (oS b ft bS);have adL:aQ w5 w.heap.size _ 139:=fV.move (oS _ aC (fun e=>by have:=br _ e;omega));exact⟨ua (oS b ft bS) uj,ow.frozen _,ow.lt,adL.cell 0,adL.lt⟩
 have aO:=J (⟨ao,bf,bp,FQ,Ev,AS⟩:_∧_∧_∧_∧_∧_);have di:=J bj;have fr:=J hm;clear ao bf bp FQ Ev bj xI fV aA AS bS br hm gg jJ;go_enter func106,ntmps106;go_upto_region 1 with(fail);rw[di.o];go_region_law(refine q6 rfl _ _ 106 rfl 139 i0 (.agg #[I 0,I 0,I 0,I 0,I 0,I 0,I 0,.map none]) 8 64 underlying106 cw.o.1 cw.o.2.1 cw.o.2.2.1 cw.o.2.2.2 rfl (by decide) (.slice cA m cap) m xs (by simp[Act.eval]) (by exact h2 aO.o.2.2.2.2.1.row _) (aa (W0.heap.size) 0) 1 1 [I r,I seq,I a,I c6,I c,I d,I e,.map (some mb)] (by simp[Act.eval]) rfl (by exact Dt.o) (by intro u hu;simp at hu;rcases hu with rfl|rfl|rfl|rfl|rfl|rfl|rfl|rfl<;>rfl) (by have:=fr.o;unfold maxLen;omega) (by have:=fr.o;omega) ?_;intro v5 w5 cB b_ dW;obtain⟨cI,dq,eW,fo,iT⟩:=cD.o w5 b_;obtain⟨g5,t_,rfl,-,-,-,-,-⟩:=Row.pos cB (by omega);have rj:=J (⟨cB,b_,dW⟩:_∧_∧_);clear cB b_ dW)
 all_goals go_wp2_with fail
 all_goals
  go_end0;obtain⟨cB,b_,dW⟩:=rj.o;obtain⟨ao,bf,bp,FQ,Ev,AS⟩:=aO.o;have G8:(W0.alloc (.cells #[I r,I seq,I a,I c6,I c,I d,I e,.map (some mb)] 139)).grownBy w5 (Value.slice cA m cap).ownBlock:=⟨b_.os,b_.tape,b_.output,b_.size,b_.block⟩;have J7:=(FQ.alloc (.cells #[I r,I seq,I a,I c6,I c,I d,I e,.map (some mb)] 139)).dw G8 AS (by simp);have q1:=(((bA.dh (A:=fun u=>u=Own.rep∨u= .held r) (o:=p) bp)).alloc (.cells #[I r,I seq,I a,I c6,I c,I d,I e,.map (some mb)] 139)).dw G8 AS (Or.inr rfl);have dy:=q1.set (p:=(aa b (3+r))) (by show _∨_;rw[J7.tag];exact Or.inl rfl) (bo g5 (m+1) t_);have BN:=((Ev.alloc (.cells #[I r,I seq,I a,I c6,I c,I d,I e,.map (some mb)] 139)).app cB dW).set (p:=(aa b (3+r))) J7.tag (by simp) (bo g5 (m+1) t_);exact⟨rfl,_,_,J7.set (3+r) (bo g5 (m+1) t_),BN,dy⟩
theorem aqF (h:fH bg w p b n i d aE st b8 tbs cX av aY)(al:d.bH k=some t)(cu:mx o)(qW:¬o.kind=1->o.value.size<=8)(has:o.kind=1-> -1000000<=o.cH∧o.cH<=1000000):
  Calls prog 62 #[bl (tbs k),(ht o).val,(iL o).val] w (bx (I (if 16<=t.ops.length then 5 else 0)) fun w'=>∃p',gP bg w' p' b n i (zF d k t o)∧bA kn w p w' p'):=by
 have aD:=h.tx k t al;obtain⟨eP,-⟩:=h.ok.bH k t al;have sj:=eP.ops.ea;unfold zF;by_cases c:16<=t.ops.length
 ·rw[if_pos c,if_pos c]
  have ahf:((t.ops.length:Nat):Int)=16:=by omega
  have ao:=aD.U.U;rw[ahf]at ao;refine(apZ w (tbs k) _ _ (ht o) (iL o) ao).mono ?_;rintro e w' ⟨rfl,hb⟩;exact⟨rfl,p,⟨aE,st,b8,tbs,cX,av,aY,h.below hb⟩,bA.dh hb⟩
 ·rw[if_neg c,if_neg c]
  obtain⟨s1,s2⟩:=anm (acq (Nv cu)) (fun c=>acq (qW c));have bS:tbs k≠cX k:=fun e=>by have:=aD.U.tag;rw[e,aD.oj]at this;cases this
  refine(ap0 w (tbs k) (cX k) t.ops.length _ _ (gz t.ops) (ht o) (iL o) aD.U.U aD.own bS (by omega) (by omega) s1 s2 (by unfold maxLen;omega)).mono ?_;rintro e w' ⟨rfl,aF,nW,h7⟩;have q1:bA (fun u=>u= .tx k∨u= .own k) w p w' p:=⟨h7.mono fun q _ e=>by rcases e with rfl|rfl;exact Or.inl aD.U.tag;exact Or.inr aD.oj,fun _ _=>rfl⟩;have hlen:(t.ops++[o]).length=t.ops.length+1:=by simp
  refine⟨rfl,p,⟨aE,st,b8,tbs,cX,av,aY,?_,h.hlen,h.lL,?_,h.ok.ag4 al cu qW has (by omega),fun r aJ=>?_,fun gC ed dI=>?_,fun c aA=>?_,h.known,h.xF⟩,q1.mono fun u hu=>by rcases hu with rfl|rfl<;>simp[kn]⟩
  ·rw[am1 al];exact h.U.ay q1 (by simp)
  ·obtain⟨cg,bM,b6,bU,b4,bB,ah,jX⟩:=h.hR
   exact⟨cg,bM,b6,bU,b4,bB,ah,jX.ay q1 (fun u hu e=>by rcases e with rfl|rfl<;>exact hu)⟩
  ·exact(h.held r aJ).ay q1 (by simp) (by simp)
  ·by_cases c':gC=k
   ·subst c'
    rw[show({d with bH:=fP d.bH gC (some {t with ops:=t.ops++[o]})}:aZ).bH gC=some {t with ops:=t.ops++[o]}from qp _ _ _]at dI;cases dI;refine⟨⟨?_,aD.U.tag⟩,aD.oj,?_⟩
    ·show aQ w' (tbs gC) [bl (b8 gC),I ((t.ops++[o]).length:Nat),.map (some (cX gC))] _
     rw[hlen];exact aF
    ·show cV w' _ (cX gC) (t.ops++[o]).length Place.val cG.val (gz (t.ops++[o]))
     rw[hlen,CU];exact nW
   ·rw[show({d with bH:=fP d.bH k (some {t with ops:=t.ops++[o]})}:aZ).bH gC=d.bH gC from nJ c']at dI
    have au:=h.tx gC ed dI;exact⟨au.U.ay q1 (by simp[c']),au.oj,au.own.hP q1 (by rw[au.oj];simp[c'])⟩
  ·obtain⟨j,gr,gK⟩:=h.A7 c aA
   refine⟨j,?_,gK⟩;show(fP d.bH k (some {t with ops:=t.ops++[o]}) j).isSome
   by_cases c':j=k
   ·subst c';rw[qp];rfl
   ·rw[nJ c'];exact gr
theorem Um (h:fH bg w p b n i d aE st b8 tbs cX av aY)(al:d.bH k=some t)(cu:mx o)(qW:¬o.kind=1->o.value.size<=8)(has:o.kind=1-> -1000000<=o.cH∧o.cH<=1000000)(ao:ax w W):
  Calls prog 62 #[bl (tbs k),(ht o).val,(iL o).val] W fun e w'=>e= .returned (I (if 16<=t.ops.length then 5 else 0))∧∃p',gP bg w' p' b n i (zF d k t o)∧bA kn w p w' p':=
 (aqF (h.below ao) al cu qW has).mono (by
  rintro e w' ⟨rfl,p',h1,ae⟩;exact⟨rfl,p',h1,(bA.dh ao).trans ae⟩)
theorem afm (h:gP bg w p b n i d)(tx:Int)(o:db)(fj:o.kind=1)(hK:o.key.size<=maxLen):
  Calls prog 28 #[bl b,I tx,ai o.key,I o.cH] w (bx (I (h6 (du d tx) o)) fun w'=>∃p',gP bg w' p' b n i (jx d tx o)∧bA kn w p w' p'):=by
 obtain⟨aE,st,b8,tbs,cX,av,aY,h⟩:=h;have wG:=fun W=>E3 o.key W hK
 have k7:=J wG;have aO:=J h;clear wG;cases cu:du d tx with
 |none=>
  have bm:=h.IN cu;have cz:=J bm;have iN:jx d tx o=d:=by unfold jx;rw[cu]
  have eH:h6 none o=4:=rfl;rw[iN,eH];clear bm h cu iN eH;go_enter func28,ntmps28;go_wp2_with(go_at_call 60;refine cz.o.mono ?_;rintro e an ⟨rfl,rfl⟩)
  go_ret;exact⟨rfl,p,⟨aE,st,b8,tbs,cX,av,aY,aO.o⟩,bA.refl _ _ _⟩
 |some t=>
  obtain⟨k,rfl,hk,fK,bm⟩:=h.F7 cu;have cz:=J bm;have zR:=J fK;have dV:kF o.kind=99:=by rw[fj];rfl
  by_cases c1:kindOf o.key=99
  ·by_cases c2:o.cH< -1000000∨1000000<o.cH
   ·have eH:h6 (some t) o=3:=by unfold h6;simp only;rw[if_neg (by rw[dV,c1];simp),if_pos (Or.inl ⟨fj,c2⟩)]
    have iN:jx d k o=d:=by unfold jx;rw[cu];simp only;rw[eH];rfl
    rw[eH,iN];have aP:((kindOf o.key:Int) !=99)=false:=by rw[c1];rfl
    rw[c1]at k7;clear bm h cu eH iN fK dV aP;by_cases c3:o.cH< -1000000
    ·clear c2
     go_enter func28,ntmps28;go_wp2_with(first|(go_at_call 60;refine cz.o.mono ?_;rintro e an ⟨rfl,rfl⟩)|(go_at_call 61;refine(k7.o _).mono ?_;rintro e an ⟨rfl,rfl⟩))
     go_ret;exact⟨rfl,p,⟨aE,st,b8,tbs,cX,av,aY,aO.o⟩,bA.refl _ _ _⟩
    ·have c4:1000000<o.cH:=by omega
     clear c2;go_enter func28,ntmps28;go_wp2_with(first|(go_at_call 60;refine cz.o.mono ?_;rintro e an ⟨rfl,rfl⟩)|(go_at_call 61;refine(k7.o _).mono ?_;rintro e an ⟨rfl,rfl⟩))
     go_ret;exact⟨rfl,p,⟨aE,st,b8,tbs,cX,av,aY,aO.o⟩,bA.refl _ _ _⟩
   ·have eI:mx o:=⟨Or.inl fj,by rw[dV];exact c1⟩
    have eH:h6 (some t) o=if 16<=t.ops.length then 5 else 0:=by
     unfold h6;simp only;rw[if_neg (by rw[dV,c1];simp),if_neg (by rintro (⟨-,e⟩|⟨e,-⟩);exact c2 e;exact e fj)]
    have iN:jx d k o=zF d k t o:=by
     unfold jx zF;rw[cu];simp only;rw[eH];by_cases c:16<=t.ops.length
     ·rw[if_pos c,if_pos c,if_neg (by omega)]
     ·rw[if_neg c,if_neg c,if_pos rfl];rfl
    rw[eH,iN];rw[c1]at k7;have fh:=fun W=>F2 o.key (by have:=Nv eI;omega) W
    have jm:∀W,ax w W->Calls prog 62 #[bl (tbs k),.agg #[ai o.key,ai ⟨#[]⟩],.agg #[I 0,I o.cH,ai ⟨#[]⟩]] W (bx (I (if 16<=t.ops.length then 5 else 0)) fun w'=>∃p',gP bg w' p' b n i (zF d k t o)∧bA kn w p w' p'):=fun W ao=>by
     have a:=Um h fK eI (fun e=>absurd fj e) (fun _=>⟨by omega,by omega⟩) ao;have aP:(ht o).val= .agg #[ai o.key,ai ⟨#[]⟩]:=by unfold ht;rw[if_pos (Or.inl fj)];rfl
     have ba:(iL o).val= .agg #[I 0,I o.cH,ai ⟨#[]⟩]:=by unfold iL;rw[if_pos fj]
     rw[aP,ba]at a;exact a
    obtain⟨fl,pC⟩:∃fl:Int,(if 16<=t.ops.length then 5 else 0)=fl:=⟨_,rfl⟩;rw[pC]at jm⊢;have qB:=J fh;have DA:=J jm;have c3:¬o.cH< -1000000:=fun e=>c2 (Or.inl e)
    have c4:¬1000000<o.cH:=fun e=>c2 (Or.inr e)
    clear bm h cu eH iN fK dV fh jm c2 eI pC;go_enter func28,ntmps28;go_wp2_with(first|(go_at_call 60;refine cz.o.mono ?_;rintro e an ⟨rfl,rfl⟩)|(go_at_call 61;refine(k7.o _).mono ?_;rintro e an ⟨rfl,rfl⟩)|(go_at_call 63;refine(qB.o _).mono ?_;rintro e w2 ⟨rfl,bP⟩)|(go_at_call 62;refine(DA.o _ bP).mono ?_;rintro e bN ⟨rfl,l8⟩;have dp:=J l8;clear l8))
    go_ret;exact⟨rfl,dp.o⟩
  ·have eH:h6 (some t) o=2:=by unfold h6;simp only;rw[if_pos (by rw[dV];exact c1)]
   have iN:jx d k o=d:=by unfold jx;rw[cu];simp only;rw[eH];rfl
   rw[eH,iN];clear bm h cu eH iN fK dV;go_enter func28,ntmps28;go_wp2_with(first|(go_at_call 60;refine cz.o.mono ?_;rintro e an ⟨rfl,rfl⟩)|(go_at_call 61;refine(k7.o _).mono ?_;rintro e an ⟨rfl,rfl⟩))
   go_ret;exact⟨rfl,p,⟨aE,st,b8,tbs,cX,av,aY,aO.o⟩,bA.refl _ _ _⟩
theorem adF (h:fH bg w p b n i d aE st b8 tbs cX av aY)(tx tF:Int)(key val:ByteArray)(hK:key.size<=maxLen)(Jj:¬pg (du d tx) tF key val=0):
  Calls prog 64 #[bl b,I tx,.int .u8 tF,ai key,ai val] w (bx (.tuple #[.pointer none,I (pg (du d tx) tF key val)]) fun w'=>w'=w):=by
 have wG:=fun W=>E3 key W hK
 have k7:=J wG;clear wG;cases cu:du d tx with
 |none=>
  have bm:=h.IN cu;have cz:=J bm;have eH:pg none tF key val=4:=rfl;rw[eH];clear bm h cu eH Jj;go_enter func64,ntmps64;go_wp2_with(first|(go_at_call 60;refine cz.o.mono ?_;rintro e an ⟨rfl,rfl⟩))
  go_ret2
  exact⟨rfl,rfl⟩
 |some t=>
  obtain⟨k,rfl,hk,fK,bm⟩:=h.F7 cu;rw[cu]at Jj;have cz:=J bm;by_cases c1:kindOf key=tF
  ·have c2:8<val.size:=by
    by_cases c:8<val.size
    ·exact c
    ·exact absurd (by unfold pg;simp[c1,c]) Jj
   have eH:pg (some t) tF key val=3:=by unfold pg;simp[c1,c2]
   rw[eH];rw[c1]at k7;clear bm h cu eH fK Jj c1;go_enter func64,ntmps64;go_wp2_with(first|(go_at_call 60;refine cz.o.mono ?_;rintro e an ⟨rfl,rfl⟩)|(go_at_call 61;refine(k7.o _).mono ?_;rintro e an ⟨rfl,rfl⟩))
   go_ret2
   exact⟨rfl,rfl⟩
  ·have eH:pg (some t) tF key val=2:=by unfold pg;simp[c1]
   rw[eH];clear bm h cu eH fK Jj;go_enter func64,ntmps64;go_wp2_with(first|(go_at_call 60;refine cz.o.mono ?_;rintro e an ⟨rfl,rfl⟩)|(go_at_call 61;refine(k7.o _).mono ?_;rintro e an ⟨rfl,rfl⟩))
   go_ret2
   exact⟨rfl,rfl⟩
theorem adG (h:fH bg w p b n i d aE st b8 tbs cX av aY)(tx tF:Int)(key val:ByteArray)(hK:key.size<=maxLen)(xQ:pg (du d tx) tF key val=0):
  ∃(k:Nat) (t:aT),tx=k∧d.bH k=some t∧du d tx=some t∧kindOf key=tF∧val.size<=8∧Calls prog 64 #[bl b,I tx,.int .u8 tF,ai key,ai val] w (bx (.tuple #[bl (tbs k),I 0]) fun w'=>w'=w):=by
 cases cu:du d tx with
 |none=>rw[cu]at xQ;cases xQ
 |some t=>
  rw[cu]at xQ;unfold pg at xQ;simp only at xQ;have c1:kindOf key=tF:=by
   by_cases c:kindOf key=tF
   ·exact c
   ·rw[if_pos c]at xQ;cases xQ
  rw[if_neg (by simp[c1])]at xQ;have c2:¬8<val.size:=fun c=>by rw[if_pos c]at xQ;cases xQ
  obtain⟨k,rfl,hk,fK,bm⟩:=h.F7 cu;refine⟨k,t,rfl,fK,rfl,c1,by omega,?_⟩;have wG:=fun W=>E3 key W hK
  rw[c1]at wG;have k7:=J wG;have cz:=J bm;clear wG bm xQ h cu fK c1;go_enter func64,ntmps64;go_wp2_with(first|(go_at_call 60;refine cz.o.mono ?_;rintro e an ⟨rfl,rfl⟩)|(go_at_call 61;refine(k7.o _).mono ?_;rintro e an ⟨rfl,rfl⟩))
  go_ret2
  exact⟨rfl,rfl⟩
theorem aqE (h:gP bg w p b n i d)(tx:Int)(o:db)(fj:o.kind=2)(hK:o.key.size<=maxLen)(_:o.value.size<=maxLen):
  Calls prog 30 #[bl b,I tx,ai o.key,ai o.value] w (bx (I (h6 (du d tx) o)) fun w'=>∃p',gP bg w' p' b n i (jx d tx o)∧bA kn w p w' p'):=by
 obtain⟨aE,st,b8,tbs,cX,av,aY,h⟩:=h;have e7:¬o.kind=1:=by omega
 have dV:kF o.kind=114:=by rw[fj];rfl
 by_cases aM:pg (du d tx) 114 o.key o.value=0
 ·obtain⟨k,t,rfl,fK,cu,c1,c2,hw⟩:=adG h tx 114 o.key o.value hK aM
  obtain⟨eH,iN⟩:=Wr cu e7 (by rw[dV];exact aM);rw[eH,iN];have eI:mx o:=⟨Or.inr (Or.inl fj),by rw[dV];exact c1⟩;have Jm:=fun W=>F2 o.key (by have:=Nv eI;omega) W
  have Cc:=fun W=>F2 o.value (by omega) W
  have jm:∀W,ax w W->Calls prog 62 #[bl (tbs k),.agg #[ai o.key,ai ⟨#[]⟩],.agg #[I 1,I 0,ai o.value]] W (bx (I (if 16<=t.ops.length then 5 else 0)) fun w'=>∃p',gP bg w' p' b n i (zF d k t o)∧bA kn w p w' p'):=fun W ao=>by
   have a:=Um h fK eI (fun _=>c2) (fun e=>absurd e e7) ao;have aP:(ht o).val= .agg #[ai o.key,ai ⟨#[]⟩]:=by unfold ht;rw[if_pos (Or.inr fj)];rfl
   have ba:(iL o).val= .agg #[I 1,I 0,ai o.value]:=by unfold iL;rw[if_neg e7,if_pos fj]
   rw[aP,ba]at a;exact a
  obtain⟨fl,pC⟩:∃fl:Int,(if 16<=t.ops.length then 5 else 0)=fl:=⟨_,rfl⟩;rw[pC]at jm⊢;have ew:=J hw;have Fu:=J Jm;have Dp:=J Cc;have DA:=J jm;clear h aM fK cu c1 c2 hw eH iN eI Jm Cc jm pC;go_enter func30,ntmps30;go_wp2_with(first|(go_at_call 64;refine ew.o.mono ?_;rintro e an ⟨rfl,rfl⟩))
  refine(Fu.o _).mono ?_;rintro e w2 ⟨rfl,bP⟩;go_wp2_with fail
  refine(Dp.o _).mono ?_;rintro e bN ⟨rfl,b0⟩;have ao:=bP.trans (b0.mono bP.size);clear bP b0;go_wp2_with fail
  refine(DA.o _ ao).mono ?_;rintro e cc ⟨rfl,l8⟩;have dp:=J l8;clear l8;go_wp2_with fail
  go_ret;exact⟨rfl,dp.o⟩
 ·have hw:=adF h tx 114 o.key o.value hK aM
  obtain⟨eH,iN⟩:=Wp (d:=d) (tx:=tx) e7 (by rw[dV];exact aM);rw[eH,iN,dV];obtain⟨fl,pC⟩:∃fl:Int,pg (du d tx) 114 o.key o.value=fl:=⟨_,rfl⟩;rw[pC]at hw aM⊢;have bS:(fl !=0)=true:=by simpa using aM
  have ew:=J hw;have aO:=J h;clear h aM eH iN hw pC;go_enter func30,ntmps30;go_wp2_with(first|(go_at_call 64;refine ew.o.mono ?_;rintro e an ⟨rfl,rfl⟩))
  go_ret;exact⟨rfl,p,⟨aE,st,b8,tbs,cX,av,aY,aO.o⟩,bA.refl _ _ _⟩
theorem V4 (h:gP bg w p b n i d)(tx:Int)(o:db)(hG:Int)(fj:(o.kind=3∧hG=2)∨(o.kind=4∧hG=3))(hK:o.key.size<=maxLen)(_:o.value.size<=maxLen):
  Calls prog 73 #[bl b,I tx,ai o.key,ai o.value,I hG] w (bx (I (h6 (du d tx) o)) fun w'=>∃p',gP bg w' p' b n i (jx d tx o)∧bA kn w p w' p'):=by
 obtain⟨aE,st,b8,tbs,cX,av,aY,h⟩:=h;have e7:¬o.kind=1:=by omega
 have tj:¬o.kind=2:=by omega
 have dV:kF o.kind=115:=by unfold kF;rw[if_neg e7,if_neg tj]
 by_cases aM:pg (du d tx) 115 o.key o.value=0
 ·obtain⟨k,t,rfl,fK,cu,c1,c2,hw⟩:=adG h tx 115 o.key o.value hK aM
  obtain⟨eH,iN⟩:=Wr cu e7 (by rw[dV];exact aM);rw[eH,iN];have eI:mx o:=⟨by omega,by rw[dV];exact c1⟩;have Jm:=fun W=>F2 o.key (by have:=Nv eI;omega) W
  have Cc:=fun W=>F2 o.value (by omega) W
  have jm:∀W,ax w W->Calls prog 62 #[bl (tbs k),.agg #[ai o.key,ai o.value],.agg #[I hG,I 0,ai ⟨#[]⟩]] W (bx (I (if 16<=t.ops.length then 5 else 0)) fun w'=>∃p',gP bg w' p' b n i (zF d k t o)∧bA kn w p w' p'):=fun W ao=>by
   have a:=Um h fK eI (fun _=>c2) (fun e=>absurd e e7) ao;have aP:(ht o).val= .agg #[ai o.key,ai o.value]:=by unfold ht;rw[if_neg (by omega)];rfl
   have ba:(iL o).val= .agg #[I hG,I 0,ai ⟨#[]⟩]:=by
    unfold iL;rw[if_neg e7,if_neg tj];rcases fj with⟨c,rfl⟩|⟨c,rfl⟩
    ·rw[if_pos c]
    ·rw[if_neg (by omega)]
   rw[aP,ba]at a;exact a
  obtain⟨fl,pC⟩:∃fl:Int,(if 16<=t.ops.length then 5 else 0)=fl:=⟨_,rfl⟩;rw[pC]at jm⊢;have ew:=J hw;have Fu:=J Jm;have Dp:=J Cc;have DA:=J jm;clear h aM fK cu c1 c2 hw eH iN eI Jm Cc jm pC fj;go_enter func73,ntmps73;go_wp2_with(first|(go_at_call 64;refine ew.o.mono ?_;rintro e an ⟨rfl,rfl⟩))
  refine(Fu.o _).mono ?_;rintro e w2 ⟨rfl,bP⟩;go_wp2_with fail
  refine(Dp.o _).mono ?_;rintro e bN ⟨rfl,b0⟩;have ao:=bP.trans (b0.mono bP.size);clear bP b0;go_wp2_with fail
  refine(DA.o _ ao).mono ?_;rintro e cc ⟨rfl,l8⟩;have dp:=J l8;clear l8;go_wp2_with fail
  go_ret;exact⟨rfl,dp.o⟩
 ·have hw:=adF h tx 115 o.key o.value hK aM
  obtain⟨eH,iN⟩:=Wp (d:=d) (tx:=tx) e7 (by rw[dV];exact aM);rw[eH,iN,dV];obtain⟨fl,pC⟩:∃fl:Int,pg (du d tx) 115 o.key o.value=fl:=⟨_,rfl⟩;rw[pC]at hw aM⊢;have bS:(fl !=0)=true:=by simpa using aM
  have ew:=J hw;have aO:=J h;clear h aM eH iN hw pC fj;go_enter func73,ntmps73;go_wp2_with(first|(go_at_call 64;refine ew.o.mono ?_;rintro e an ⟨rfl,rfl⟩))
  go_ret;exact⟨rfl,p,⟨aE,st,b8,tbs,cX,av,aY,aO.o⟩,bA.refl _ _ _⟩
theorem alv (h:gP bg w p b n i d)(tx:Int)(o:db)(fj:o.kind=3)(hK:o.key.size<=maxLen)(qW:o.value.size<=maxLen):
  Calls prog 38 #[bl b,I tx,ai o.key,ai o.value] w (bx (I (h6 (du d tx) o)) fun w'=>∃p',gP bg w' p' b n i (jx d tx o)∧bA kn w p w' p'):=by
 have dj:=J (V4 h tx o 2 (Or.inl ⟨fj,rfl⟩) hK qW);clear h;obtain⟨fl,pC⟩:∃fl,h6 (du d tx) o=fl:=⟨_,rfl⟩;unfold Hid at dj;rw[pC]at dj⊢;have HN:=J dj;clear dj pC;go_enter func38,ntmps38;go_wp2_with fail
 refine HN.o.mono ?_;rintro e cc ⟨rfl,l8⟩;have dp:=J l8;clear l8;go_wp2_with fail
 go_ret;exact⟨rfl,dp.o⟩
theorem aoq (h:gP bg w p b n i d)(tx:Int)(o:db)(fj:o.kind=4)(hK:o.key.size<=maxLen)(qW:o.value.size<=maxLen):
  Calls prog 44 #[bl b,I tx,ai o.key,ai o.value] w (bx (I (h6 (du d tx) o)) fun w'=>∃p',gP bg w' p' b n i (jx d tx o)∧bA kn w p w' p'):=by
 have dj:=J (V4 h tx o 3 (Or.inr ⟨fj,rfl⟩) hK qW);clear h;obtain⟨fl,pC⟩:∃fl,h6 (du d tx) o=fl:=⟨_,rfl⟩;unfold Hid at dj;rw[pC]at dj⊢;have HN:=J dj;clear dj pC;go_enter func44,ntmps44;go_wp2_with fail
 refine HN.o.mono ?_;rintro e cc ⟨rfl,l8⟩;have dp:=J l8;clear l8;go_wp2_with fail
 go_ret;exact⟨rfl,dp.o⟩
end Go.Proofs.YtiplgdkpnhamaaaGreatDoor.Tv
