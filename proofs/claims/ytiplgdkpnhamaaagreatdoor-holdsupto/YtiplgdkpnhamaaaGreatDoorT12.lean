import Derived.Test.YtiplgdkpnhamaaaGreatDoorT09
import Derived.Deep.DeepCutAuto
import Derived.Deep.RegionHeld3
set_option maxHeartbeats 16000000
set_option maxRecDepth 100000
namespace Go.Proofs.YtiplgdkpnhamaaaGreatDoor
open Go.Proofs.Tryz
open Go.RowKit
theorem anV (w:World)(b i n:Nat)(id:Int)(rW:Bool)(bD bU ah bw v rY st dV:Value)(ks:List Value)(ag l bz gone:List Int)(jY:ag.length=n)(aC:l.length=n)(oY:bz.length=n)(fW:gone.length=n)(oZ:1<=n)(hn:n<=5)(aq:i<n)(hK:ks.length=n)
  (hb:aQ w b [I id,bD,bU,ah,bw] 165)(wI:Row w 3 1 bD n (ints ag))(hk:Row w 44 1 ah n ks)(tk:ks[i]?=some dV)(aJ:Row w 3 1 dV n (ints l))(av:Row w 3 1 v n (ints bz))(aM:Row w 3 1 bw n (ints gone))
  (bS:∀q,dV.ownBlock=some q->q≠b∧¬ah.ownBlock=some q∧¬v.ownBlock=some q∧¬bD.ownBlock=some q∧¬bw.ownBlock=some q):
  Calls prog 98 #[.pointer (some (aa b 0)),zj rW i v rY st] w fun e w'=>∃v' nr ed,e= .returned (zj true id v' nr ed)∧Row w' 3 1 dV n (ints (fB l bz n))∧Row w' 3 1 v' n (ints ag)∧Row w' 3 1 nr n (ints (qN gone bz n))∧Row w' 3 1 ed n (ints ag)∧(∀q,v'.ownBlock=some q∨nr.ownBlock=some q∨ed.ownBlock=some q->w.heap.size<=q)∧Touch (fun q=>dV.ownBlock=some q) w w':=by
 obtain⟨i0,Cl,dC,dM,dK⟩:=iV Tryz.GL;have cw:=J (⟨Cl,dC,dM,dK⟩:_∧_∧_∧_);clear Cl dC dM dK;obtain⟨o,o1,dx⟩:∃o:Nat->Tag,(∀q,dV.ownBlock=some q->o q=(1,0,0))∧∀q,¬dV.ownBlock=some q->o q=(0,0,0):=by
  classical
  exact⟨fun q=>if dV.ownBlock=some q then(1,0,0)else(0,0,0),fun q h=>by simp[h],fun q h=>by simp[h]⟩
 have LL:cP w o (0,0,0) b [I id,bD,bU,ah,bw] 165:=⟨hb,dx b fun e=>(bS b e).1 rfl⟩;have LM:b3 w o (0,0,0) 3 1 bD n (ints ag):=⟨wI,fun q ad=>dx q fun e=>(bS q e).2.2.2.1 ad⟩;have LN:b3 w o (0,0,0) 3 1 bw n (ints gone):=⟨aM,fun q ad=>dx q fun e=>(bS q e).2.2.2.2 ad⟩;have LO:b3 w o (0,0,0) 3 1 v n (ints bz):=⟨av,fun q ad=>dx q fun e=>(bS q e).2.2.1 ad⟩;have dp:=J (⟨LL,LM,LN,LO⟩:_∧_∧_∧_);have cM:=J (⟨jY,aC,oY,fW,hK⟩:_∧_∧_∧_∧_);have cD:=J (⟨hk,tk,aJ,bS⟩:_∧_∧_∧_);have h4:=J (⟨o1,dx⟩:_∧_);clear LL LM LN LO jY aC oY fW hK hb wI hk tk aJ av aM bS o1 dx;go_enter func98,ntmps98;go_upto_region 1 with(fail);generalize bY:World.alloc (World.alloc w _) _=W0;have tN:Below w.heap.size w W0:=by rw[<-bY];exact((cj _ _)).alloc (by simp) _
 have cY:aQ W0 w.heap.size [.bool rW,I i,v,rY,st] 99:=by rw[<-bY];exact aQ.alloc (cC w _) _
 have eE:aQ W0 (w.heap.size+1) [.bool false,I 0,.slice none 0 0,.slice none 0 0,.slice none 0 0] 99:=by
  rw[<-bY];have a:=cC (w.alloc (.cells #[.bool rW,I i,v,rY,st] 99)) (.cells #[.bool false,I 0,.slice none 0 0,.slice none 0 0,.slice none 0 0] 99);have e:(w.alloc (.cells #[.bool rW,I i,v,rY,st] 99)).heap.size=w.heap.size+1:=by simp
  rw[e]at a;exact a
 have c1:=cY.c1;have c2:=cY.c2;have cl:=cY.lt;have bO:=J (⟨tN,cY,eE⟩:_∧_∧_);clear bY tN cY eE;generalize CA:w.heap.size=aE at*;have FC:=J CA;clear CA;go_wp2_with fail
 have RF:Below w.heap.size w W0:=FC.o▸bO.o.1;refine(ab_ W0 b i n ah v dV ks l bz cM.o.2.1 cM.o.2.2.1 oZ hn aq cM.o.2.2.2.2 (dp.o.1.U.below RF).lt ((dp.o.1.U.below RF).cell 3) (cD.o.1.below RF) cD.o.2.1 (cD.o.2.2.1.below RF) (dp.o.2.2.2.row.below RF) (fun q ad=>⟨(cD.o.2.2.2 q ad).1,(cD.o.2.2.2 q ad).2.1,(cD.o.2.2.2 q ad).2.2.1⟩)).mono ?_;clear RF;rintro e an ⟨rfl,e7,h7⟩;have sT:Hid (K9 w o an (gX o aE fun _=>(2,0,0)) b aE (aE+1) n id [.bool rW,I i,v,rY,st] bD bU ah bw v dV ag (fB l bz n) bz gone):=by
  obtain⟨tN,cY,eE⟩:=bO.o;obtain⟨LL,LM,LN,LO⟩:=dp.o;have fb:=FC.o;have cQ:∀q,dV.ownBlock=some q->q<aE:=fun q ad=>by have:=cD.o.2.2.1.lt ad;omega
  have aS:∀q,q<aE->¬dV.ownBlock=some q->an.heap[q]?=w.heap[q]?:=fun q ad hn=>(h7.block q (by have:=tN.size;omega) hn).trans (tN.block q (by omega))
  have aK:∀q,q<w.heap.size->o q=(0,0,0)->an.heap[q]?=w.heap[q]?:=fun q ad e=>aS q (by omega) (fun c=>by rw[h4.o.1 q c]at e;simp at e)
  have pK:∀q,q<w.heap.size->gX o aE (fun _=>(2,0,0)) q=o q:=fun q ad=>nF (by omega)
  refine⟨LL.move aK pK,LM.move aK pK,LN.move aK pK,LO.move aK pK,⟨e7,fun q ad=>by rw[nF (cQ q ad)];exact h4.o.1 q ad⟩,⟨cY.move (h7.block aE cY.lt fun c=>by have:=cQ _ c;omega),qj cv⟩,⟨eE.move (h7.block (aE+1) eE.lt fun c=>by have:=cQ _ c;omega),qj (pU _)⟩,⟨⟨?_,?_,?_,?_,?_⟩,pK⟩⟩
  ·exact h7.os.trans tN.os
  ·exact h7.tape.trans tN.tape
  ·exact h7.output.trans tN.output
  ·exact fx tN.size h7.size
  ·exact fun q ad hn=>aS q (by omega) fun c=>hn (by rw[h4.o.1 q c];simp[Km])
 clear e7 h7 bO c1 c2 cl dp cD;go_upto_region 2 with(fail);generalize akg:gX o aE (fun _=>(2,0,0))=mJ at*;clear akg;go_cut[5] (fun p wd=>∃(ko:Nat->Tag) (ab:Nat) (v1 t1:Value),p= .pointer (some (aa ab 0))∧rh w o wd ko b aE (aE+1) n 0 id [.bool rW,I i,v,rY,st] bD bU ah bw v dV ag (fB l bz n) bz gone ab v1 (.slice none 0 0) t1)
 case first=>
  as_aux_lemma=>
   obtain⟨F_,Mf,Qp,-⟩:=sT.o.a2.row.shape;subst Qp;have c0:=sT.o.cO.U.c0;have c1:=sT.o.cO.U.c1;have cl:=sT.o.cO.U.lt;have dj:Hid (∀W,Below an.heap.size an W->Calls prog 132 #[.slice F_ n Mf] W fun e w'=>∃a c,e= .returned (.slice a n c)∧(w'.cell? (aa b 0)=some (I id)∧w'.cell? (aa b 1)=some (.slice F_ n Mf))∧b<w'.heap.size∧Hid (Row w' 3 1 (.slice a n c) n (ints ag)∧(∀q,(Value.slice a n c).ownBlock=some q->W.heap.size<=q)∧Below an.heap.size an w'∧Below W.heap.size W w')):=fun W ao=>by
    have jY:=cM.o.1;have a:=L8 W (.slice F_ n Mf) ag (by omega) (by omega) (by rw[jY];exact sT.o.a2.row.below ao);rw[jY]at a;refine a.mono ?_;rintro e w2 ⟨v1,rfl,DY,aF⟩;obtain⟨cO,ky,aP,-⟩:=Row.shape (e3 DY ch);subst aP;have bP:=ao.trans (aF.mono ao.size);exact⟨cO,ky,rfl,⟨bZ bP c0,bZ bP c1⟩,hV cl bP.size,e3 DY ch,fun q ad=>(DY.lt q ad).1,bP,aF⟩
   have O7:Hid (Below an.heap.size an an.drew):=(cE).drew;have UD:Hid (Below an.heap.size an (an.alloc (.cells #[.bool false,I 0,.slice none 0 0,.slice none 0 0,.slice none 0 0] 99)).drew∧aQ (an.alloc (.cells #[.bool false,I 0,.slice none 0 0,.slice none 0 0,.slice none 0 0] 99)).drew an.heap.size [.bool false,I 0,.slice none 0 0,.slice none 0 0,.slice none 0 0] 99):=⟨((cj _ _)).drew,cC an _⟩;have UE:Hid (∀W,Below an.heap.size an W->Below an.heap.size an (W.alloc (.cells #[.bool false,I 0,.slice none 0 0,.slice none 0 0,.slice none 0 0] 99))∧aQ (W.alloc (.cells #[.bool false,I 0,.slice none 0 0,.slice none 0 0,.slice none 0 0] 99)) W.heap.size [.bool false,I 0,.slice none 0 0,.slice none 0 0,.slice none 0 0] 99):=fun W ao=>⟨ao.alloc ao.size _,cC W _⟩
   have aaN:¬an.heap.size=b:=by omega
   have aaO:¬b=an.heap.size:=by omega
   have aaR:=World.new_ne an _ c0;have NI:=World.new_ne an _ c1;go_region_held3(fun W=>W.cell? (aa b 0)=some (I id)∧W.cell? (aa b 1)=some (.slice F_ n Mf)) (go_keep) (first
    |(go_at_call 132;show Calls _ _ _ (World.drew (World.alloc _ _)) _;refine(dj.o _ UD.o.1).mono ?_;rintro e w2 ⟨cO,q1,rfl,⟨ek,cI⟩,cQ,H1⟩;have lB:=J (UD.o.2.below H1.o.2.2.2);have dm:=lB.o.cell 0;have dz:=lB.o.cell 1;have ei:=lB.o.cell 2;have fG:=lB.o.cell 3;have ib:=lB.o.cell 4;have zH:=lB.o.lt;have aqV:=lB.o.frozen)
    |(go_at_call 132;refine(dj.o _ O7.o).mono ?_;rintro e w2 ⟨cO,q1,rfl,⟨ek,cI⟩,cQ,H1⟩;have SP:¬w2.heap.size=b:=(by omega);have SQ:¬b=w2.heap.size:=(by omega);have NJ:=World.new_ne w2 _ ek;have aaS:=World.new_ne w2 _ cI)
    |(go_at_call 132;show Calls _ _ _ (World.alloc _ _) _;refine(dj.o _ (UE.o _ H1.o.2.2.1).1).mono ?_;rintro e bN ⟨a2,dy,rfl,⟨x0,gr⟩,Z4,bu⟩;have lB:=J ((UE.o _ H1.o.2.2.1).2.below bu.o.2.2.2);have dm:=lB.o.cell 0;have dz:=lB.o.cell 1;have ei:=lB.o.cell 2;have fG:=lB.o.cell 3;have ib:=lB.o.cell 4;have zH:=lB.o.lt;have aqV:=lB.o.frozen)
    |(go_at_call 132;refine(dj.o _ H1.o.2.2.1).mono ?_;rintro e bN ⟨a2,dy,rfl,⟨x0,gr⟩,Z4,bu⟩;have BF:=J (lB.o.below bu.o.2.2.2);have c8:=BF.o.cell 0;have dr:=BF.o.cell 1;have en:=BF.o.cell 2;have d_:=BF.o.cell 3;have ev:=BF.o.cell 4;have OU:=BF.o.lt;have at7:=BF.o.frozen)
    |(go_at_call 132;refine(dj.o _ H1.o.2.2.1).mono ?_;rintro e bN ⟨a2,dy,rfl,⟨x0,gr⟩,Z4,bu⟩;have aaP:¬bN.heap.size=b:=(by omega);have SR:¬b=bN.heap.size:=(by omega);have aaT:=World.new_ne bN _ x0;have SS:=World.new_ne bN _ gr))
   all_goals go_wp2_with fail
   all_goals go_meet
   all_goals
    first
     |(have hs:w2.heap.size<(w2.alloc (.cells #[.bool false,I 0,.slice none 0 0,.slice none 0 0,.slice none 0 0] 99)).heap.size:=by simp
       obtain⟨ko,JI⟩:=rh.acE (ab:=w2.heap.size) (v1:= .slice cO n q1) (t1:= .slice a2 n dy) sT.o bu.o.2.2.1 lB.o H1.o.2.2.1.size (Row.below (h2 H1.o.1 _) bu.o.2.2.2) (fun q ad=>⟨fx O7.o.size (H1.o.2.1 q ad),by have:=H1.o.1.lt ad;omega⟩) bu.o.1 (fun q ad=>by have:=bu.o.2.1 q ad;have:=H1.o.2.2.1.size;exact⟨by omega,by omega⟩);exact⟨ko,_,_,_,rfl,JI⟩)
     |(have hs:an.heap.size<(an.alloc (.cells #[.bool false,I 0,.slice none 0 0,.slice none 0 0,.slice none 0 0] 99)).drew.heap.size:=by simp
       obtain⟨ko,JI⟩:=rh.acE (ab:=an.heap.size) (v1:= .slice cO n q1) (t1:= .slice a2 n dy) sT.o bu.o.2.2.1 BF.o cv (Row.below H1.o.1 bu.o.2.2.2) (fun q ad=>by have:=H1.o.2.1 q ad;exact⟨by omega,by omega⟩) bu.o.1 (fun q ad=>by have:=bu.o.2.1 q ad;have:=H1.o.2.2.2.size;exact⟨by omega,by omega⟩);exact⟨ko,_,_,_,rfl,JI⟩)
     |(obtain⟨ko,JI⟩:=rh.ape (v1:= .slice cO n q1) (t1:= .slice a2 n dy) sT.o bu.o.2.2.1 (Row.below H1.o.1 bu.o.2.2.2) (fun q ad=>fx O7.o.size (H1.o.2.1 q ad)) bu.o.1 (fun q ad=>fx H1.o.2.2.1.size (bu.o.2.1 q ad))
       exact⟨ko,_,_,_,rfl,JI⟩)
 case rest=>
  obtain⟨ko,ab,v1,t1,rfl,cy⟩:=hcut;have bn:=J cy;obtain⟨g1,Wi,rfl,-,-,ail,-,-⟩:=cy.abD.row.pos (by omega);obtain⟨g2,Wj,rfl,-,-,Xf,-,-⟩:=cy.S9.row.pos (by omega);obtain⟨g3,Mc,rfl,-,-,Xg,-,-⟩:=cy.Tg.row.pos (by omega);obtain⟨g4,Md,rfl,-⟩:=cy.Kz.row.shape;obtain⟨g5,Me,rfl,-⟩:=cy.Ks.row.shape;clear cy sT ail Xf Xg;go_wp2_with fail
  go_loopw[6,7] (fun kc _ wr=>∃(k:Nat) (CR:Nat->Tag) (f:Value),k<=n∧kc=I k∧Hid (rh w o wr CR b aE (aE+1) n k id [.bool rW,I i,bo g3 n Mc,rY,st] (bo g1 n Wi) bU ah (bo g2 n Wj) (bo g3 n Mc) dV ag (fB l bz n) bz gone ab (.slice g4 n Md) f (.slice g5 n Me))) (fun kc _ _=>n-(intOf kc).toNat)
  case atStart=>exact⟨0,ko,_,ch,rfl,bn.o⟩
  case round=>
   clear bn;obtain⟨k,CR,f,hk,rfl,bX⟩:=hrel;obtain⟨Mn,uZ,IF,-⟩:=bX.o.CV.row.shape;subst IF;have bT:=bX.o.N5.U.c1;have fZ:=bX.o.N5.U.c4;have uT:=bX.o.N5.U.lt;by_cases br:k<n
   ·as_aux_lemma=>
     obtain⟨_,_,e,-,-,Xf,sh,-⟩:=bX.o.S9.row.pos (by omega);cases e;obtain⟨_,_,e,-,-,Xg,yY,-⟩:=bX.o.Tg.row.pos (by omega);cases e;have en:=sh k (by omega);have d_:=yY k (by omega);rw[o9 _ _ (by have:=cM.o.2.2.2.1;omega),<-yS]at en;rw[o9 _ _ (by have:=cM.o.2.2.1;omega),<-yS]at d_;have s2:=bX.o.Tf.U.c2;have b8:=bX.o.Tf.U.lt;have a3:=bX.o.tz.U.c3;have afp:=bX.o.tz.U.lt;have cz:=J bX.o.CV.row;have UA:Hid (∀{x:Int} {w':World} {nr:Value},x=max (bz.getD k 0) (gone.getD k 0)->∀{bE:Obj},w'.ownsRow 0 3 1 nr (k+1) (ints (qN gone bz k)++[I x])->(wr.alloc bE).grownBy w' (Value.slice Mn k uZ).ownBlock->(nr.ownBlock=(Value.slice Mn k uZ).ownBlock∨nr.ownBlock=some (wr.alloc bE).heap.size)->∃o',rh w o (w'.setCell (aa ab 3) nr) o' b aE (aE+1) n (k+1) id [.bool rW,I i,bo g3 n Mc,rY,st] (bo g1 n Wi) bU ah (bo g2 n Wj) (bo g3 n Mc) dV ag (fB l bz n) bz gone ab (.slice g4 n Md) nr (.slice g5 n Me)):=fun e _ aJ aM et=>bX.o.app (e▸aJ) aM et
     clear sh yY;generalize au:gone.getD k 0=x at*;generalize b9:bz.getD k 0=y at*;have arl:=J (⟨au,b9⟩:_∧_);clear au b9;by_cases c:y<x
     ·go_wp2_with(at_builtin;refine tK _ rfl _ _ 44 rfl 0 3 i0 (I 0) 1 8 underlying44 cw.o.1 cw.o.2.1 cw.o.2.2.1 cw.o.2.2.2 rfl (by decide) _ _ _ rfl (h2 cz.o _) (aa (wr.heap.size) 0) 1 1 [I x] rfl rfl (qw _ _ _) (by intro u hu;simp at hu;subst hu;rfl) (by unfold maxLen;omega) (by omega) ch ?_;intro v9 E8 JJ Jr aj9 QZ;obtain⟨g9,agW,rfl,-,-,-,-,-⟩:=Row.pos JJ (by omega);have pB:=(bX.o.tz.alloc _).dw Jr bX.o.CV.tag (by simp);have anL:=pB.U.cell 3;have S5:=pB.U.frozen 3;have Kb:=pB.U.lt;clear pB)
      obtain⟨o',e5⟩:=UA.o (x:=x) (by omega) JJ Jr QZ;exact⟨⟨k+1,o',_,by omega,by go_num,e5⟩,by simp[intOf];omega⟩
     ·go_wp2_with(at_builtin;refine tK _ rfl _ _ 44 rfl 0 3 i0 (I 0) 1 8 underlying44 cw.o.1 cw.o.2.1 cw.o.2.2.1 cw.o.2.2.2 rfl (by decide) _ _ _ rfl (h2 cz.o _) (aa (wr.heap.size) 0) 1 1 [I y] rfl rfl (qw _ _ _) (by intro u hu;simp at hu;subst hu;rfl) (by unfold maxLen;omega) (by omega) ch ?_;intro v9 E8 JJ Jr aj9 QZ;obtain⟨g9,agW,rfl,-,-,-,-,-⟩:=Row.pos JJ (by omega);have pB:=(bX.o.tz.alloc _).dw Jr bX.o.CV.tag (by simp);have anL:=pB.U.cell 3;have S5:=pB.U.frozen 3;have Kb:=pB.U.lt;clear pB)
      obtain⟨o',e5⟩:=UA.o (x:=y) (by omega) JJ Jr QZ;exact⟨⟨k+1,o',_,by omega,by go_num,e5⟩,by simp[intOf];omega⟩
   ·as_aux_lemma=>
     have Cs:¬(k:Int)<n:=by omega
     have mG:k=n:=by omega
     subst mG;have a0:=bX.o.tz.U.c0;have cO:=bX.o.tz.U.c1;have a2:=bX.o.tz.U.c2;have a3:=bX.o.tz.U.c3;have a4:=bX.o.tz.U.c4;have afp:=bX.o.tz.U.lt;have eE:=bX.o.zo.U.c0;have cB:=bX.o.zo.U.c1;have b_:=bX.o.zo.U.c2;have dW:=bX.o.zo.U.c3;have iw:=bX.o.zo.U.c4;have zr:=bX.o.zo.U.lt;have Oh:=bX.o.zo.U.frozen;go_wp2_with fail
     have hold:∀q,q<w.heap.size->CR q=(0,0,0)∨CR q=(1,0,0):=fun q ad=>by
      rw[bX.o.ES.same q ad];by_cases c:dV.ownBlock=some q
      ·exact Or.inr (h4.o.1 q c)
      ·exact Or.inl (h4.o.2 q c)
     have hL:∀{t:Tag} {q:Nat},CR q=t->t≠(0,0,0)->t≠(1,0,0)->w.heap.size<=q:=fun{t q} e aS h1=>by
      by_cases c:q<w.heap.size
      ·rcases hold q c with a|a
       ·exact absurd (e.symm.trans a) aS
       ·exact absurd (e.symm.trans a) h1
      ·omega
     have il:∀{t:Tag} {q:Nat},CR q=t->t≠(2,0,0)->¬q=aE+1:=fun{t q} e ae c=>by
      subst c;exact ae (e.symm.trans bX.o.zo.tag)
     have F:=Mm wr (aE+1) (.bool true) (I id) (.slice g4 k Md) (.slice Mn k uZ) (.slice g5 k Me);refine iX (v:=zj true id (.slice g4 k Md) (.slice Mn k uZ) (.slice g5 k Me)) (by simp[results,results98,go_sem,eE,cB,b_,dW,iw]) rfl ⟨_,_,_,rfl,?_,?_,?_,?_,?_,?_⟩
     ·exact bX.o.S_.row.ay F fun q ad e=>il (bX.o.S_.tag q ad) (by simp) e
     ·exact bX.o.Kz.row.ay F fun q ad e=>il (bX.o.Kz.tag q ad) (by simp) e
     ·exact bX.o.CV.row.ay F fun q ad e=>il (bX.o.CV.tag q ad) (by simp) e
     ·exact bX.o.Ks.row.ay F fun q ad e=>il (bX.o.Ks.tag q ad) (by simp) e
     ·rintro q (ad|ad|ad)
      ·exact hL (bX.o.Kz.tag q ad) (by simp) (by simp)
      ·exact hL (bX.o.CV.tag q ad) (by simp) (by simp)
      ·exact hL (bX.o.Ks.tag q ad) (by simp) (by simp)
     ·refine(bX.o.ES.ay.trans (F.mono fun q ad e=>?_)).mono fun q ad c=>?_
      ·subst e
       exact Or.inr (hL bX.o.zo.tag (by simp) (by simp))
      ·by_cases c2:dV.ownBlock=some q
       ·exact c2
       ·exact absurd (h4.o.2 q c2) c
end Go.Proofs.YtiplgdkpnhamaaaGreatDoor
