import Derived.Test.YtiplgdkpnhamaaaGreatDoorT59
import Derived.Test.YtiplgdkpnhamaaaGreatDoorT29
import Derived.Deep.RegionHeld3
import Derived.ControlIn
set_option maxHeartbeats 8000000
set_option maxRecDepth 100000
namespace Go.Proofs.YtiplgdkpnhamaaaGreatDoor.Tv
open Go.Proofs.Tryz List
open Go.RowKit
variable {W0 w an w2:World}{av aY op:List Value}{k mb aE:Nat}{l:List Int}{cX b8 tbs:Nat->Nat}{p dk:Nat->Own}{st:b5}{u:aT}
theorem fH.ao0 {bg:dD}{b n i:Nat}{d:aZ}{t:aT}(h:fH bg w p b n i d aE st b8 tbs cX av aY)(bI:d.hs.length<=1100000)(al:d.bH k=some t):
  (∃kept,s3 w p aE (48*d.hs.length) (b8 k) st (bJ t.saw) kept)∧vO w (tbs k) (b8 k) (cX k) t.ops.length (t.ops.length:Nat) (gz t.ops)∧xu n d.hs t∧∃s,s∈st.bW∧s.saw=bJ t.saw:=by
 obtain⟨eP,s,hs,hb,im⟩:=h.ok.bH k t al;have aD:=h.tx k t al;refine⟨?_,⟨aD.U.U,aD.own⟩,eP,s,hs,im⟩;obtain⟨cg,bM,b6,bU,b4,bB,ah,a1⟩:=h.hR;refine⟨ah s.U,⟨cg,bM,b6,bU,b4,bB,ah,a1⟩,?_,h.ok.ns.wf,fun q=>fx (h.ok.agk q) (by omega)⟩;have a:=(a1.snap s hs).U;rw[im,hb]at a;rw[hb];exact a
theorem an3 {bg:dD}{b n i:Nat}{d:aZ}(h:gP bg w p b n i d)(bI:d.hs.length<=1100000)(tx:Int)(key:ByteArray)(hK:key.size<=maxLen):
  Calls prog 33 #[bl b,I tx,ai key] w fun e w'=>∃bz,e= .returned (oM (fu (du d tx) key d.hs n).1 bz (fu (du d tx) key d.hs n).2.2)∧
   w'.ownsRow w.heap.size 9 1 bz (fu (du d tx) key d.hs n).2.1.length (strs (fu (du d tx) key d.hs n).2.1)∧ax w w':=by
 obtain⟨aE,st,b8,tbs,cX,av,aY,h⟩:=h;have wG:=fun W=>E3 key W hK
 have k7:=J wG;clear wG;generalize bj:w.alloc (.cells #[I 0,.slice none 0 0] 66)=W0;have bp:ax w W0:=by rw[<-bj];exact cj _ _
 have dC:W0.heap.size=w.heap.size+1:=by rw[<-bj];simp
 have bv:aQ W0 w.heap.size [I 0,.slice none 0 0] 66:=by rw[<-bj];exact cC w _
 have aS:=h.below bp;clear h;cases cu:du d tx with
 |none=>
  have cz:=J (aS.IN cu);have eH:fu none key d.hs n=(0,[],4):=rfl;rw[eH];have di:=J bj;have bO:=J (⟨bp,bv⟩:_∧_);have v0:=bv.c0;have v1:=bv.c1;have f0:=bv.frozen 0;have f1:=bv.frozen 1;have aC:=bv.lt;clear aS cu eH bj bp bv dC;go_enter func33,ntmps33;go_upto_region 1 with(fail);rw[di.o];go_wp2_with(go_at_call 60;refine cz.o.mono ?_;rintro e an ⟨rfl,rfl⟩)
  refine iX (v:=oM 0 (.slice none 0 0) 4) (by simp[results,results33,go_sem,v0,v1]) rfl ⟨_,rfl,by simpa[strs]using jD _ _ _ _,(bO.o.1.setCell cv _).setCell cv _⟩
 |some t=>
  obtain⟨k,rfl,hk,fK,bm⟩:=aS.F7 cu;obtain⟨⟨kept,dJ⟩,aD,eP,s,hs,im⟩:=aS.ao0 bI fK;have cz:=J bm;have di:=J bj;have bO:=J (⟨bp,bv⟩:_∧_);have v0:=bv.c0;have v1:=bv.c1;have f0:=bv.frozen 0;have f1:=bv.frozen 1;have aC:=bv.lt;have oG:∀o,o∈t.ops->mx o:=fun o h=>(eP.ops.ops o h).1
  have D6:=aS.ok;by_cases c1:kindOf key=99
  ·have eH:fu (some t) key d.hs n=(wrap64 (nV t.saw key d.hs+sumOf key t.ops),[],0):=by unfold fu;simp only;rw[if_pos c1]
   rw[eH];obtain⟨g1,g2⟩:=S1 c1 t.ops oG;have aA:=apV dJ aD key hK;rw[aqu g2,g1,show sK st.bh ⟨key,cK⟩ (jq (bJ t.saw) st ⟨key,cK⟩)=nV t.saw key d.hs from D6.apC (by omega) eP hs im c1 (List.Perm.refl _)]at aA;have dj:=J aA;rw[c1]at k7;generalize wrap64 (nV t.saw key d.hs+sumOf key t.ops)=res at*;clear aS cu eH bj bp bv dC bm dJ aD eP hs im fK aA D6 oG g1 g2;go_enter func33,ntmps33;go_upto_region 1 with(fail);rw[di.o];go_wp2_with(first|(go_at_call 60;refine cz.o.mono ?_;rintro e an ⟨rfl,rfl⟩)|(go_at_call 61;refine(k7.o _).mono ?_;rintro e an ⟨rfl,rfl⟩))
   refine dj.o.mono ?_;rintro e w2 ⟨rfl,bP⟩;have lU:=bO.o.2.below bP;have eE:=lU.c0;have cB:=lU.c1;have ab7:=lU.frozen 0;have ab8:=lU.frozen 1;have zr:=lU.lt;have nu:=bO.o.1.trans (bP.mono bO.o.1.size);have Dn:=J nu;clear v0 v1 f0 f1 aC lU bP nu;go_wp2_with fail
   refine iX (v:=oM res (.slice none 0 0) 0) (by simp[results,results33,go_sem,eE,cB]) rfl ⟨_,rfl,by simpa[strs]using jD _ _ _ _,(Dn.o.setCell cv _).setCell cv _⟩
  ·by_cases c2:kindOf key=114
   ·have eH:fu (some t) key d.hs n=(0,(match dR key cK t.ops with|some o=>[o.value]|none=>lr t.saw key d.hs n),0):=by unfold fu;simp only;rw[if_neg c1,if_pos c2];rfl
    rw[eH];obtain⟨res,kl⟩:∃res,(match dR key cK t.ops with|some o=>[o.value]|none=>lr t.saw key d.hs n)=res:=⟨_,rfl⟩;have aA:Calls prog 69 #[bl (tbs k),ai key] W0 fun e w'=>∃v,e= .returned v∧w'.ownsRow W0.heap.size 9 1 v res.length (strs res)∧ax W0 w':=by
     have y5:=S2 c2 t.ops oG;cases kj:dR key cK t.ops with
     |some o=>
      rw[kj]at y5 kl;refine(apX aD key hK y5).mono ?_;rintro e w' ⟨v,rfl,cO,a2⟩;refine⟨v,rfl,?_,a2⟩;rw[<-kl];exact cO
     |none=>
      rw[kj]at y5 kl;refine(apY dJ aD key hK y5).mono ?_;rintro e w' ⟨v,l,cO,a2,rfl,a3,a4⟩;refine⟨v,rfl,?_,a4⟩;have aP:=D6.apA (by omega) eP hs im c2 cO a2;rw[<-kl,<-aP];exact a3
    rw[kl];have dj:=J aA;rw[c2]at k7;clear aS cu eH bj bp bv dC bm dJ aD eP hs im fK aA D6 oG kl;go_enter func33,ntmps33;go_upto_region 1 with(fail);rw[di.o];go_wp2_with(first|(go_at_call 60;refine cz.o.mono ?_;rintro e an ⟨rfl,rfl⟩)|(go_at_call 61;refine(k7.o _).mono ?_;rintro e an ⟨rfl,rfl⟩))
    refine dj.o.mono ?_;rintro e w2 ⟨v,rfl,dd,bP⟩;obtain⟨e_,iD,oY,-,-,-⟩:=Row.shape (e3 dd ch);subst oY;have lU:=bO.o.2.below bP;have eE:=lU.c0;have cB:=lU.c1;have ab7:=lU.frozen 0;have ab8:=lU.frozen 1;have zr:=lU.lt;have nu:=bO.o.1.trans (bP.mono bO.o.1.size);have Dn:=J (⟨nu,dd⟩:_∧_);clear v0 v1 f0 f1 lU bP nu dd;go_wp2_with fail
    refine iX (v:=oM 0 (.slice e_ res.length iD) 0) (by simp[results,results33,go_sem,eE,cB]) rfl ⟨_,rfl,?_,(Dn.o.1.setCell cv _).setCell cv _⟩;exact e3 (Df (Df Dn.o.2 (a:=(aa (w.heap.size) 0)) aC _) (a:=(aa (w.heap.size) 1)) aC _) (Dd aC)
   ·by_cases c3:kindOf key=115
    ·have eH:fu (some t) key d.hs n=(0,uy key t.ops (setOf t.saw key d.hs),0):=by unfold fu;simp only;rw[if_neg c1,if_neg c2,if_pos c3]
     rw[eH];have aA:Calls prog 70 #[bl (tbs k),ai key] W0 fun e w'=>∃v,e= .returned v∧w'.ownsRow W0.heap.size 9 1 v (uy key t.ops (setOf t.saw key d.hs)).length (strs (uy key t.ops (setOf t.saw key d.hs)))∧ax W0 w':=by
      refine(apz dJ aD (fun q x ad=>(NX t.ops eP.ops.zm x ad).2) key hK (by have:=eP.ops.ea;omega)).mono ?_;rintro e w' ⟨v,l,rfl,cO,a2,-,a3,a4⟩;have aP:l=uy key t.ops (setOf t.saw key d.hs):=an2 c3 oG cO (fun a=>by
       rw[a2 a];obtain⟨t1,t2⟩:=D6.apB (by omega) eP hs im c3 a;rw[<-t1];constructor
       ·rintro (⟨⟨-,en⟩,d_⟩|x)
        ·exact Or.inl ⟨en,d_⟩
        ·exact Or.inr x
       ·rintro (⟨en,d_⟩|x)
        ·exact Or.inl ⟨⟨t2 en,en⟩,d_⟩
        ·exact Or.inr x)
      exact⟨v,rfl,by rw[<-aP];exact a3,a4⟩
     obtain⟨res,kl⟩:∃res,uy key t.ops (setOf t.saw key d.hs)=res:=⟨_,rfl⟩;rw[kl]at aA;rw[kl];have dj:=J aA;rw[c3]at k7;clear aS cu eH bj bp bv dC bm dJ aD eP hs im fK aA D6 oG kl;go_enter func33,ntmps33;go_upto_region 1 with(fail);rw[di.o];go_wp2_with(first|(go_at_call 60;refine cz.o.mono ?_;rintro e an ⟨rfl,rfl⟩)|(go_at_call 61;refine(k7.o _).mono ?_;rintro e an ⟨rfl,rfl⟩))
     refine dj.o.mono ?_;rintro e w2 ⟨v,rfl,dd,bP⟩;obtain⟨e_,iD,oY,-,-,-⟩:=Row.shape (e3 dd ch);subst oY;have lU:=bO.o.2.below bP;have eE:=lU.c0;have cB:=lU.c1;have ab7:=lU.frozen 0;have ab8:=lU.frozen 1;have zr:=lU.lt;have nu:=bO.o.1.trans (bP.mono bO.o.1.size);have Dn:=J (⟨nu,dd⟩:_∧_);clear v0 v1 f0 f1 lU bP nu dd;go_wp2_with fail
     refine iX (v:=oM 0 (.slice e_ res.length iD) 0) (by simp[results,results33,go_sem,eE,cB]) rfl ⟨_,rfl,?_,(Dn.o.1.setCell cv _).setCell cv _⟩;exact e3 (Df (Df Dn.o.2 (a:=(aa (w.heap.size) 0)) aC _) (a:=(aa (w.heap.size) 1)) aC _) (Dd aC)
    ·have eH:fu (some t) key d.hs n=(0,[],2):=by unfold fu;simp only;rw[if_neg c1,if_neg c2,if_neg c3]
     rw[eH];have aP:=Bi c1;have ba:=Bi c2;have ey:=Bi c3;generalize kindOf key=mH at*;clear aS cu eH bj bp bv dC bm dJ aD eP hs im fK D6 oG c1 c2 c3;go_enter func33,ntmps33;go_upto_region 1 with(fail);rw[di.o];go_wp2_with(first|(go_at_call 60;refine cz.o.mono ?_;rintro e an ⟨rfl,rfl⟩)|(go_at_call 61;refine(k7.o _).mono ?_;rintro e an ⟨rfl,rfl⟩))
     refine iX (v:=oM 0 (.slice none 0 0) 2) (by simp[results,results33,go_sem,v0,v1]) rfl ⟨_,rfl,by simpa[strs]using jD _ _ _ _,(bO.o.1.setCell cv _).setCell cv _⟩
theorem amL (w:World)(i n:Nat)(h:py i n=true):Calls prog 48 #[I i,I n] w fun e w'=>∃b,e= .returned (.tuple #[ptr b,I 0])∧ax w w'∧∀(o:Nat->Tag) (t:Tag),aX rU w' (gX o w.heap.size fun _=>t) t b n i (pd n):=by
 have bm:(1:Int)<=n∧(n:Int)<=5∧(0:Int)<=i∧(i:Int)<n:=sM h;clear h;obtain⟨f1,f2,f3,f4⟩:=bm;have hn:=ao5 w (fun q=>if q=w.heap.size+4 then .rep else .other);have cp:=J hn;have g1:¬(n:Int)<1:=by omega
 have g2:¬(5:Int)<n:=by omega
 have g3:¬(i:Int)<0:=by omega
 have g4:¬(n:Int)<=i:=by omega
 clear hn;go_enter func48,ntmps48;go_wp2_with(go_at_call 86;refine cp.o.mono ?_;rintro e an ⟨rfl,l8⟩;have dp:=J l8;clear l8)
 go_ret2
 obtain⟨ao,cF,dJ⟩:=dp.o;have hblk:=cC an (.cells (nH i n (w.heap.size+3) [km,km,km,km,km] (replicate 25 (I 0)) (replicate 6 (.pointer none))).toArray 114);have nu:ax w (an.alloc (.cells (nH i n (w.heap.size+3) [km,km,km,km,km] (replicate 25 (I 0)) (replicate 6 (.pointer none))).toArray 114)):=ao.alloc ao.size _;refine⟨an.heap.size,rfl,nu,fun o t=>?_⟩;have aF:ax an (an.alloc (.cells (nH i n (w.heap.size+3) [km,km,km,km,km] (replicate 25 (I 0)) (replicate 6 (.pointer none))).toArray 114)):=cj _ _;refine⟨_,fun q ad bS=>?_,w.heap.size+3,pI,fun _=>0,fun _=>0,fun _=>0,[km,km,km,km,km],replicate 25 (I 0),⟨hblk,?_⟩,rfl,rfl,dJ.below aF,jw.new (by omega) (by omega) _,fun r aJ=>⟨[],rfl,?_,fun y b9=>by simp at b9⟩,fun k u e=>?_,fun c aA=>by simp[pI]at aA,rfl,fun r=>ch⟩
 ·by_cases c:q<w.heap.size
  ·exfalso
   apply bS;simp[show q≠w.heap.size by omega,show q≠w.heap.size+1 by omega,show q≠w.heap.size+2 by omega,show q≠w.heap.size+3 by omega,show q≠w.heap.size+4 by omega]
  ·rw[qj (by omega)]
 ·rw[cF];simp
 ·have:r=0∨r=1∨r=2∨r=3∨r=4:=by simp at aJ;omega
  rcases this with rfl|rfl|rfl|rfl|rfl<;>exact⟨⟨rfl,.inl ⟨rfl,rfl⟩⟩,fun q ad=>by simp[Value.ownBlock,km]at ad⟩
 ·cases e
theorem aqj {bg:dD}{b n i:Nat}{d:aZ}(h:gP bg w p b n i d):
  Calls prog 22 #[bl b] w fun e w'=>∃bz,e= .returned bz∧w'.ownsRow w.heap.size 3 1 bz d.ag.length (ints d.ag)∧ax w w':=by
 obtain⟨aE,st,b8,tbs,cX,av,aY,h⟩:=h;obtain⟨-,c1,c2⟩:=h.cellOf;have aC:=h.U.U.lt;have jY:d.ag.length=n:=by rw[h.ok.ag,kH]
 have b2:=h.ok.df.n5;have aq:=h.ok.aq;have hp:=h.ok.zx;have gU:Calls prog 57 #[bl aE] w fun e w'=>e= .returned (bJ d.ag).val∧ax w w':=by
  obtain⟨cg,bM,b6,bU,b4,bB,ah,hs⟩:=h.hR;rw[<-hp];exact Ud w aE st.ag (hs.U.U.cell 0) (hs.U.U.cell 1) (hs.U.U.cell 2) (hs.U.U.cell 3) (hs.U.U.cell 4)
 have dj:=J gU;have ff:=J jY;have dA:=J (aqd jY b2);have g1:¬(n:Int)<0:=by omega
 have g2:(n:Int)<=5:=by omega
 have g3:¬(5:Int)<n:=by omega
 obtain⟨v,wI⟩:∃v,bJ d.ag=v:=⟨_,rfl⟩;unfold Hid at dj dA;rw[wI]at dj dA;have HN:=J dj;have aeM:=J dA;clear gU jY hp dj dA wI;have aO:=J h;clear h;go_enter func22,ntmps22;go_wp2_with(go_at_call 57;refine HN.o.mono ?_;rintro e an ⟨rfl,aF⟩;have ky:=bZ aF c1;have gJ:b<an.heap.size:=hV aC aF.size;have dF:=J aF;clear aF)
 generalize fg:an.alloc (.cells #[I v.a,I v.b,I v.c,I v.d,I v.e] 104)=W2;have bP:ax an W2:=by rw[<-fg];exact cj _ _
 have c6:aQ W2 an.heap.size [I v.a,I v.b,I v.c,I v.d,I v.e] 104:=by rw[<-fg];exact cC an _
 have fh:=agA W2 an.heap.size 5 n (ints d.ag) (by rw[alx,ff.o];simp) (fun j u hu=>by
  rw[<-aeM.o]at hu;rw[getElem?_take]at hu;split at hu
  ·rw[Bj,vF,c6.cell j];exact hu
  ·cases hu) (fun u hu=>by
  unfold ints at hu;obtain⟨x,-,rfl⟩:=gF.1 hu;rfl) (by omega)
 have qB:=J fh;have dG:=J bP;clear fh bP c6 fg ky gJ;refine qB.o.mono ?_;rintro e bN ⟨v',rfl,dd,b0⟩;have cz:=J (⟨dd,b0⟩:_∧_);clear dd b0;go_wp2_with fail
 go_ret;have B3:ax w W2:=dF.o.trans (dG.o.mono dF.o.size);refine⟨_,rfl,?_,B3.trans (cz.o.2.mono B3.size)⟩;rw[ff.o];exact e3 cz.o.1 B3.size
theorem anK {n:Nat}(aC:l.length=n)(hn:n<=5){r:Nat}(aJ:r<n)(s:Int):(bJ l).put r s=bJ (l.set r s):=by
 refine T6 fun k hk=>?_
 rw[KW _ (by omega),pS (by omega),pS (by simp;omega)];simp only[kL,tL,Bm];by_cases c:k=r
 ·subst c;rw[if_pos rfl,if_pos rfl,if_pos (by omega)];rfl
 ·rw[if_neg c,if_neg (fun e=>c e.symm)]
theorem afC {n i:Nat}{d:aZ}(h:jw n i d st b8)(bI:d.hs.length<=1100000)(hu:oO n d.hs u):
  Ut (fun left jP=>vN (eR (d.hs++[u])) C2 d.hs.length left st jP) (gz u.ops) (bJ u.saw) ((eR (d.hs++[u])).dot d.hs.length):=by
 have bY:=h.aqt (by omega) hu;refine⟨fun left jP bK=>bK.wf,fun left jP q bK=>?_,fun left jP bK s hs=>?_,fun q x au=>?_,fun left jP q x bK aC au=>aqG bK bY (by rw[aqw];exact au) aC⟩
 ·have:=VZ (N:=d.hs.length+1) bK.wf (bK.pl q) (by split<;>omega)
  omega
 ·have hH:dB n (d.hs++[u]):=h.df.snoc hu
  have hlen:(d.hs++[u]).length=d.hs.length+1:=by simp
  have:=aac (H:=eR (d.hs++[u])) (N:=d.hs.length+1) bK.aY (fun p=>⟨_,by split<;>omega,bK.pl p⟩) (pl:=fun j=>(e9 (d.hs++[u]) j).ops.map ht) (fun j=>by
   rw[mO];by_cases c:j<(d.hs++[u]).length
   ·rw[jf c];exact(hH.tx j c).ops.ea
   ·have e:(d.hs++[u])[j]?=none:=yr (by omega)
    have ba:e9 (d.hs++[u]) j=⟨0,0,[],[]⟩:=by unfold e9;rw[tL,e];rfl
    rw[ba];simp) (fun j p _ hw=>adD _ j p hw) s hs
  omega
 ·have:=NX u.ops hu.ops.zm x au
  refine⟨?_,this.2⟩;rcases this.1 with c|c|c
  ·exact Or.inl c.1
  ·exact Or.inr (Or.inl c.1)
  ·rcases c.1 with c|c
   ·exact Or.inr (Or.inr (Or.inl c))
   ·exact Or.inr (Or.inr (Or.inr c))
abbrev ac6 (r:Nat)(gM:Int)(v:aW)(mb:Nat):Value:= .agg #[I r,I gM,I v.a,I v.b,I v.c,I v.d,I v.e,.map (some mb)]
theorem afI {bg:dD}{b n i:Nat}{d:aZ}(h:fH bg w p b n i d aE st b8 tbs cX av aY)(bI:d.hs.length<=1100000)(hu:oO n d.hs u)(bK:nT w (cL u,mb))(AO:p mb= .held 5){W:World}(ao:ax w W):
  Calls prog 105 #[bl aE,ac6 u.rep.toNat u.seq (bJ u.saw) mb] W fun e w'=>e= .returned (.tuple #[])∧
   ∃p' jP,fR w' p' aE (48*(d.hs.length+1)) jP∧jw n i (zu d u) jP b8∧(jP.bW.map ej.U=st.bW.map ej.U)∧bA dN w p w' p':=by
 have hH:dB n (d.hs++[u]):=h.ok.df.snoc hu;have aB:(eR (d.hs++[u])).dot d.hs.length=⟨(u.rep.toNat:Nat),u.seq⟩:=by
  rw[hH.Am (by simp),hu.G_];simp
 have dJ:=afC h.ok bI hu;rw[aB]at dJ;have cS:=h.ok.df.n5;have su:=hu.vw;have aA:=qL d.hs u.rep.toNat;have rE:(⟨(u.rep.toNat:Nat),u.seq⟩:bF).Ok:=⟨by show(0:Int)<=((u.rep.toNat:Nat):Int);omega,by show((u.rep.toNat:Nat):Int)<5;omega,ach (by show(0:Int)<=u.seq;rw[hu.seq];omega) (by show u.seq<=3000000;rw[hu.seq];omega)⟩;have a1:=h.ok.start u;have a:=afJ (P:=fun left jP=>vN (eR (d.hs++[u])) C2 d.hs.length left st jP) (h.hR.below ao) (cV.move bK (ao.block _ bK.lt)) (by rw[AO];simp[dN]) (aqY 16) dJ a1 rE (by omega);refine a.mono ?_;rintro e w' ⟨rfl,p',jP,⟨left,QP,aC⟩,ez,ad⟩;have av:jP.ag.put (u.rep.toNat:Nat) u.seq=bJ (cb n (d.hs++[u])):=by
  rw[QP.ag,h.ok.zx,h.ok.ag,anK (kH _ _) cS su,adm hu.eE hu.hQ,k2 su,hu.seq]
 refine⟨rfl,p',_,ez,?_,?_,(bA.dh ao).trans ad⟩
 ·show jw n i _ {jP with ag:=jP.ag.put (u.rep.toNat:Nat) u.seq} b8
  rw[av];exact h.ok.finish hu QP aC
 ·exact QP.qK
theorem ajf (hs:List aT)(u:aT)(r g:Nat)(aM:g<=e1 hs r):h8 (hs++[u]) r g=h8 hs r g++if u.rep=(r:Int)then[u]else[]:=by
 unfold h8;rw[filter_append,drop_append_of_le_length aM];by_cases c:u.rep=(r:Int)<;>simp[c]
theorem acn {bg:dD}{b n i:Nat}{d:aZ}(h:fH bg w p b n i d aE st b8 tbs cX av aY)(bI:d.hs.length<=1100000)(hu:oO n d.hs u)(bK:nT w (cL u,mb))(AO:p mb= .held 5):
  Calls prog 66 #[bl b,ac6 u.rep.toNat u.seq (bJ u.saw) mb] w fun e w'=>e= .returned (.tuple #[])∧
   ∃p',gP bg w' p' b n i (zu d u)∧bA (fun t=>dN t∨t= .rep∨t= .held u.rep.toNat) w p w' p':=by
 have cJ:u.rep.toNat<5:=by have:=hu.vw;have:=h.ok.df.n5;omega
 have pE:fH bg w (je p w.heap.size others) b n i d aE st b8 tbs cX av aY:=h.move fun q ad _=>⟨rfl,jz ad⟩
 have Y8:je p w.heap.size others mb= .held 5:=(jz bK.lt).trans AO;have Jh:=fun W (ao:ax w W)=>afI (W:=W) (pE.below ao) bI hu (cV.move bK (ao.block _ bK.lt)) Y8 cE
 obtain⟨sv,jl⟩:∃sv,bJ u.saw=sv:=⟨_,rfl⟩;obtain⟨gM,o5⟩:∃gM:Int,u.seq=gM:=⟨_,rfl⟩;obtain⟨eJ,gW⟩:∃eJ:Nat,u.rep.toNat=eJ:=⟨_,rfl⟩;rw[jl,o5,gW]at Jh;rw[jl,o5,gW];rw[gW]at cJ;generalize bj:w.alloc (.cells #[I eJ,I gM,I sv.a,I sv.b,I sv.c,I sv.d,I sv.e,.map (some mb)] 139)=W0;have bp:ax w W0:=by rw[<-bj];exact cj _ _
 have fV:aQ W0 w.heap.size [I eJ,I gM,I sv.a,I sv.b,I sv.c,I sv.d,I sv.e,.map (some mb)] 139:=by rw[<-bj];exact cC w _
 have iQ:=h.below bp;obtain⟨-,-,c2⟩:=iQ.cellOf;have ei:=aR.cell c2;have dm:=aR.cell (show W0.cell? (aa (w.heap.size) 0)=some (I eJ)from fV.cell 0);have dz:=aR.cell (show W0.cell? (aa (w.heap.size) 1)=some (I gM)from fV.cell 1);have fG:=aR.cell (show W0.cell? (aa (w.heap.size) 2)=some (I sv.a)from fV.cell 2);have ib:=aR.cell (show W0.cell? (aa (w.heap.size) 3)=some (I sv.b)from fV.cell 3);have j2:=aR.cell (show W0.cell? (aa (w.heap.size) 4)=some (I sv.c)from fV.cell 4);have Be:=aR.cell (show W0.cell? (aa (w.heap.size) 5)=some (I sv.d)from fV.cell 5);have K6:=aR.cell (show W0.cell? (aa (w.heap.size) 6)=some (I sv.e)from fV.cell 6);have OV:=aR.cell (show W0.cell? (aa (w.heap.size) 7)=some (.map (some mb))from fV.cell 7);have adY:=J Jh;have di:=J bj;have aO:=J (⟨h,bp,fV,pE,o5,jl,gW,bK,AO⟩:_∧_∧_∧_∧_∧_∧_∧_∧_);clear Jh h bK AO bp fV pE Y8 iQ c2 bj jl o5 gW;go_enter func66,ntmps66;go_upto_region 1 with(fail);rw[di.o];refine kd (aR W0) 5 (by kernel_rfl) (by kernel_rfl) (cE).drew ?_;simp only[jC,ju,j4,jR];repeat(go_big_quiet_step (fail))
 refine gG ?_;intro _ ds;obtain⟨fq,rfl⟩:=ds;obtain⟨bR,aF⟩:=fq;try dsimp only
 clear dm dz ei fG ib j2 Be K6 OV;have v_:ax w bR:=aO.o.2.1.trans (aF.mono aO.o.2.1.size);go_wp2_with fail
 refine(adY.o bR v_).mono ?_;rintro e w2 ⟨rfl,eu,st2,wa,M5,td,jW⟩;obtain⟨h,bp,fV,pE,o5,jl,gW,bK,AO⟩:=aO.o;have jd:=pE.below v_;have LZ:=jd.U.ay jW (by simp[dN]);have uU:aQ w2 w.heap.size [I eJ,I gM,I sv.a,I sv.b,I sv.c,I sv.d,I sv.e,.map (some mb)] 139:=by
  have bT:=fV.below aF;exact bT.move (jW.ay.block _ bT.lt (by rw[sE cv];exact rZ))
 obtain⟨iE,dM,bf,wK⟩:=(jd.held eJ (by rw[h.hlen];exact cJ)).ex;have Nd:=bf.ay jW (by simp[dN]);have X9:w2.cell? (aa b (3+eJ))=some (av[eJ]'(by rw[h.hlen];exact cJ)):=by
  rw[LZ.U.cell (3+eJ),KE h.hlen eJ cJ];simp
 have EE:iE.length<=2000000:=by
  have aP:=congrArg length dM;have ba:=qL d.hs eJ;simp only[mO]at aP;unfold h8 at aP;rw[length_drop]at aP;have ey:(d.hs.filter fun u=>decide (u.rep=(eJ:Int))).length=e1 d.hs eJ:=rfl;omega
 have X1:=fun W (ao:ax w2 W)=>ajg (LZ.below ao) (bZ ao X9) cJ (Nd.below ao) EE gM sv.a sv.b sv.c sv.d sv.e mb
 have adW:=J X1;have dY:=LZ.U.lt;have dm:=aR.cell (show w2.cell? (aa (w.heap.size) 0)=some (I eJ)from uU.cell 0);have dz:=aR.cell (show w2.cell? (aa (w.heap.size) 1)=some (I gM)from uU.cell 1);have fG:=aR.cell (show w2.cell? (aa (w.heap.size) 2)=some (I sv.a)from uU.cell 2);have ib:=aR.cell (show w2.cell? (aa (w.heap.size) 3)=some (I sv.b)from uU.cell 3);have j2:=aR.cell (show w2.cell? (aa (w.heap.size) 4)=some (I sv.c)from uU.cell 4);have Be:=aR.cell (show w2.cell? (aa (w.heap.size) 5)=some (I sv.d)from uU.cell 5);have K6:=aR.cell (show w2.cell? (aa (w.heap.size) 6)=some (I sv.e)from uU.cell 6);have OV:=aR.cell (show w2.cell? (aa (w.heap.size) 7)=some (.map (some mb))from uU.cell 7);have bu:=J (⟨wa,M5,td,jW,jd,dM,wK,v_⟩:_∧_∧_∧_∧_∧_∧_∧_);clear X1 wa M5 td jW jd dM wK EE v_ bf Nd X9 uU LZ h bp fV pE o5 jl gW bK AO aF;go_upto_region 2 with(fail);refine kd (aR w2) 4 (by kernel_rfl) (by kernel_rfl) (cE).drew ?_;simp only[jC,ju,j4,jR];repeat(go_big_quiet_step (fail))
 refine gG ?_;intro _ ds;obtain⟨fq,rfl⟩:=ds;obtain⟨dH,b0⟩:=fq;try dsimp only
 clear dm dz fG ib j2 Be K6 OV;go_wp2_with fail
 refine(adW.o dH b0).mono ?_;rintro e cc ⟨rfl,fO,v4,fZ,iw,hf⟩;have cd:=J (⟨fZ,iw,hf⟩:_∧_∧_);clear fZ iw hf;go_wp2_with fail
 go_end0;obtain⟨h,bp,fV,pE,o5,jl,gW,bK,AO⟩:=aO.o;obtain⟨wa,M5,td,jW,jd,dM,wK,v_⟩:=bu.o;obtain⟨fZ,iw,hf⟩:=cd.o;rw[ab5 h.hlen eJ cJ]at fZ;have A6:bA (fun t=>dN t∨t= .rep∨t= .held eJ) bR (je p w.heap.size others) cc fO:=((jW.below b0).mono fun u hu=>Or.inl hu).trans (hf.mono fun u hu=>Or.inr hu);have eY:bA (fun t=>dN t∨t= .rep∨t= .held eJ) w (je p w.heap.size others) bR (je p w.heap.size others):=bA.dh v_;have b7:=eY.trans A6;have KC:bA (fun t=>dN t∨t= .rep∨t= .held eJ) w p cc fO:=⟨b7.ay.mono fun q ad e=>by rw[jz ad]at e;exact e,fun q ad=>(b7.same q ad).trans (jz ad)⟩;have hlen:(d.hs++[u]).length=d.hs.length+1:=by simp
 have aj0:mb<bR.heap.size:=hV bK.lt v_.size;have Y9:je p w.heap.size others mb= .held 5:=(jz bK.lt).trans AO;have nW:nT bR (cL u,mb):=cV.move bK (v_.block _ bK.lt);have XE:nT cc (cL u,mb)∧fO mb= .held 5:=⟨cV.hP nW A6 (by show ¬_;rw[Y9];simp[dN];omega),(A6.same _ aj0).trans Y9⟩;refine⟨rfl,fO,⟨aE,st2,b8,tbs,cX,av.set eJ v4,aY,fZ,by simp[h.hlen],h.lL,?_,M5,fun r aJ=>?_,fun gC ed dI=>?_,fun c aA=>?_,h.known,fun r=>?_⟩,KC⟩
 ·show fR cc fO aE (48*(d.hs++[u]).length) st2
  rw[hlen];obtain⟨cg,bM,b6,bU,b4,bB,ah,jX⟩:=wa.below b0;exact⟨cg,bM,b6,bU,b4,bB,ah,jX.ay hf (fun u hu e=>by rcases e with rfl|rfl<;>exact hu)⟩
 ·show BG cc fO r _ (h8 (d.hs++[u]) r (bg.gone r))
  rw[ajf _ _ _ _ (h.xF r)];by_cases c:eJ=r
  ·subst c
   rw[if_pos (by rw[<-gW];exact hu.G_.symm)];refine⟨iE++[(cL u,mb)],by rw[tJ,tJ,dM];rfl,?_,fun y b9=>?_⟩
   ·rw[w_,r3,eN]
    have:[(cL u,mb)].flatMap ia=[I eJ,I gM,I sv.a,I sv.b,I sv.c,I sv.d,I sv.e,.map (some mb)]:=by
     rw[<-gW,<-o5,<-jl];rfl
    rw[this];exact iw
   ·rw[hT,k4]at b9
    rcases b9 with b9|rfl
    ·obtain⟨cO,a2⟩:=wK y b9
     exact⟨(A6.same _ a2.lt).trans cO,cV.hP a2 A6 (by show ¬_;rw[cO];simp[dN];omega)⟩
    ·exact⟨XE.2,XE.1⟩
  ·rw[if_neg (by have:=hu.G_;omega),qu]
   rw[k5]at aJ;rw[w9 c];have n4:r<5:=by rw[<-h.hlen];exact aJ
   exact(jd.held r aJ).ay A6 (by simp[dN];omega) (by simp[dN];omega)
 ·have An:d.bH gC=some ed:=dI
  have au:=jd.tx gC ed An;have o1:fO (cX gC)= .own gC:=(A6.same _ au.own.lt).trans au.oj;exact⟨au.U.ay A6 (by simp[dN]),o1,au.own.hP A6 (by rw[au.oj];simp[dN])⟩
 ·rw[td]at aA
  exact h.A7 c aA
 ·show bg.gone r<=e1 (d.hs++[u]) r
  rw[DP];have:=h.xF r;omega
def adQ:Prop:=∀(bg:dD) (w:World) (p:Nat->Own) (b n i:Nat) (d:aZ) (tx:Int),gP bg w p b n i d->d.hs.length<=1100000->
 Calls prog 32 #[bl b,I tx] w fun e w'=>e= .returned (sa i d tx)∧∃p',gP bg w' p' b n i (p4 i d tx)∧nQ w p w' p'
theorem nQ.abk (bp:ax w W0)(q:nQ W0 (je p w.heap.size others) an dk)(T:Touch (fun q=>q=w.heap.size) an w2):nQ w p w2 dk:=by
 have eY:nQ w p an dk:=by
  refine⟨(Touch.dh bp).trans (q.ay.mono fun c aA e=>?_),fun c aA e=>?_⟩
  ·by_cases h:c<w.heap.size
   ·rw[jz h]at e;exact Or.inl e
   ·exact Or.inr (by omega)
  ·have:=q.stay c (hV aA bp.size) e
   rw[jz aA]at this;exact this
 exact⟨eY.ay.trans (T.mono fun c _ e=>Or.inr (by omega)),eY.stay⟩
theorem nQ.below (h:nQ w p an dk)(hb:ax an w2):nQ w p w2 dk:=⟨h.ay.trans (Touch.dh hb),h.stay⟩
theorem fH.jo {bg:dD}{b n i:Nat}{d:aZ}(h:fH bg w p b n i d aE st b8 tbs cX av aY)(hk:d.bH k=none)(hm:p mb= .own k)(u:Own):fH bg w (jQ p mb u) b n i d aE st b8 tbs cX av aY:=by
 have f:∀q v,p q=v->v≠.own k->jQ p mb u q=p q:=fun q v e av=>qq fun c=>av (by rw[<-e,c];exact hm)
 have g:∀v,v≠Own.own k->∀q,q<w.heap.size->p q=v->w.heap[q]?=w.heap[q]?∧jQ p mb u q=v:=fun v av q ad e=>⟨rfl,(f q v e av).trans e⟩
 obtain⟨cg,bM,b6,bU,b4,bB,ah,hs⟩:=h.hR;refine⟨h.U.fp (g _ (by simp)),h.hlen,h.lL,⟨cg,bM,b6,bU,b4,bB,ah,hs.move fun q ad e=>⟨rfl,f q _ rfl fun c=>by rw[c]at e;exact e⟩⟩,h.ok,fun r aJ=>(h.held r aJ).fp fun q ad e=>⟨rfl,by rcases e with e|e<;>exact f q _ e (by simp)⟩,fun gC t e=>?_,h.A7,h.known,h.xF⟩;have bS:gC≠k:=fun c=>by rw[c,hk]at e;cases e
 have au:=h.tx gC t e;exact⟨au.U.fp (g _ (by simp)),(f _ _ au.oj (by simp[bS])).trans au.oj,au.own⟩
theorem gP.res {bg:dD}{b n i:Nat}{d:aZ}(h:gP bg an dk b n i d)(cF:w.heap.size<W0.heap.size)(q:nQ W0 (je p w.heap.size others) an dk)(T:Touch (fun q=>q=w.heap.size) an w2):gP bg w2 dk b n i d:=
 h.move fun c aA bS=>⟨T.block c aA (fun e=>q.stay c (by omega) bS (by rw[e,sE cv])),rfl⟩
theorem agO:adQ:=by
 intro bg w p b n i d tx h bI;obtain⟨aE,st,b8,tbs,cX,av,aY,h⟩:=h;generalize bj:w.alloc (.cells #[I 0,I 0] 62)=W0;have bp:ax w W0:=by rw[<-bj];exact cj _ _
 have bv:aQ W0 w.heap.size [I 0,I 0] 62:=by rw[<-bj];exact cC w _
 have aS:fH bg W0 (je p w.heap.size others) b n i d aE st b8 tbs cX av aY:=h.move fun q ad _=>⟨bp.block q ad,jz ad⟩
 have aC:=bv.lt;cases cu:du d tx with
 |none=>
  have eH:sa i d tx= .tuple #[.agg #[I 0,I 0],I 4]:=by unfold sa;rw[cu]
  have iN:p4 i d tx=d:=by unfold p4;rw[cu]
  rw[eH,iN];have cz:=J (aS.IN cu);have v0:=bv.c0;have v1:=bv.c1;have f0:=bv.frozen 0;have f1:=bv.frozen 1;have di:=J bj;have aO:=J (⟨h,bp⟩:_∧_);clear aS cu eH iN bj bp bv h;go_enter func32,ntmps32;go_upto_region 1 with(fail);rw[di.o];go_wp2_with(go_at_call 60;refine cz.o.mono ?_;rintro e an ⟨rfl,rfl⟩)
  have nu:=(aO.o.2.setCell (p:=(aa (w.heap.size) 0)) cv (I 0)).setCell (p:=(aa (w.heap.size) 1)) cv (I 0);exact iX (v:= .tuple #[.agg #[I 0,I 0],I 4]) (by simp[results,results32,go_sem,v0,v1]) rfl ⟨rfl,p,⟨aE,st,b8,tbs,cX,av,aY,aO.o.1.below nu⟩,bA.G7 (bA.dh nu)⟩
 |some t=>
  obtain⟨k,rfl,hk,fK,bm⟩:=aS.F7 cu;have Gp:=WG aS bI fK;have cz:=J bm;have bX:=J Gp;have di:=J bj;have aO:=J (⟨h,bp,bv,aS⟩:_∧_∧_∧_);have eP:=(h.ok.bH k t fK).1;have ark:=J eP;by_cases cF:t.ops.length=0
  ·have eH:sa i d k= .tuple #[.agg #[I 0,I 0],I 0]:=by unfold sa;rw[cu];simp only;rw[if_pos cF]
   have iN:p4 i d k={d with bH:=fP d.bH k none}:=by unfold p4;rw[cu];simp only;rw[if_pos cF];unfold II;simp
   rw[eH,iN];clear bm Gp bj h bp bv aS cu fK eP eH iN;go_enter func32,ntmps32;go_upto_region 1 with(fail);rw[di.o];go_wp2_with(go_at_call 60;refine cz.o.mono ?_;rintro e an ⟨rfl,rfl⟩)
   refine bX.o.mono ?_;rintro e w2 ⟨rfl,eu,st2,ae,dy,pA,bP⟩;have lU:aQ w2 w.heap.size [I 0,I 0] 62:=aO.o.2.2.1.move (dy.ay.block _ aO.o.2.2.1.lt (by rw[sE cv];simp[kn,others]));have c1:w2.cell? (aa (tbs k) 1)=some (I 0):=by have:=pA.U.U.cell 1;rw[cF]at this;exact this
   have eF:=pA.U.U.lt;have v0:=lU.c0;have v1:=lU.c1;have f0:=lU.frozen 0;have f1:=lU.frozen 1;have dY:=lU.lt;have bu:=J (⟨ae,dy⟩:_∧_);clear ae dy pA bP lU;go_wp2_with fail
   have mX:Touch (fun q=>q=w.heap.size) w2 ((w2.setCell (aa (w.heap.size) 0) (I 0)).setCell (aa (w.heap.size) 1) (I 0)):=((Touch.refl (fun q=>q=w.heap.size) w2).setCell (p:=(aa (w.heap.size) 0)) (Or.inl rfl) _).setCell (p:=(aa (w.heap.size) 1)) (Or.inl rfl) _;exact iX (v:= .tuple #[.agg #[I 0,I 0],I 0]) (by simp[results,results32,go_sem,v0,v1]) rfl ⟨rfl,eu,gP.res ⟨aE,st2,b8,tbs,cX,av,aY,bu.o.1⟩ aC (bA.G7 bu.o.2) mX,nQ.abk aO.o.2.1 (bA.G7 bu.o.2) mX⟩
  ·obtain⟨lf,Jo⟩:∃lf,e1 d.hs i=lf:=⟨_,rfl⟩
   have fh:=qL d.hs i;rw[Jo]at fh;have R0:d.ag.getD i 0=(lf:Int):=by rw[h.ok.ag,k2 h.ok.aq,Jo]
   have wF:d.ag.getD i 0+1=(lf:Int)+1:=by rw[R0]
   have hL:oO n d.hs (done i d t):=(h.ok.bH k t fK).1.new h.ok.df h.ok.ag h.ok.aq (by omega);have sj:=(h.ok.bH k t fK).1.ops.ea;have cp:=J (⟨hL,sj,wF⟩:_∧_∧_);clear hL sj;have eH:sa i d k= .tuple #[.agg #[I i,I ((lf:Int)+1)],I 0]:=by unfold sa;rw[cu];simp only;rw[if_neg cF,wF]
   have iN:p4 i d k=⟨d.hs++[done i d t],d.ag.set i (d.ag.getD i 0+1),fP d.bH k none⟩:=by unfold p4;rw[cu];simp only;rw[if_neg cF];simp
   rw[eH,iN];have ajF:i<5:=by have:=h.ok.aq;have:=h.ok.df.n5;omega
   have YE:(bJ d.ag).get i=(lf:Int):=by
    rw[pS (by rw[h.ok.ag,kH];exact h.ok.df.n5)];simp only[kL];exact R0
   have bS:((t.ops.length:Int)==0)=false:=Bi (by omega);clear bm Gp bj h bp bv aS cu fK eP eH iN wF R0 Jo;go_enter func32,ntmps32;go_upto_region 1 with(fail);rw[di.o];go_wp2_with(go_at_call 60;refine cz.o.mono ?_;rintro e an ⟨rfl,rfl⟩)
   refine bX.o.mono ?_;rintro e w2 ⟨rfl,eu,st2,ae,dy,pA,bP⟩;have c1:=pA.U.U.c1;have eF:=pA.U.U.lt;obtain⟨c0,-,c2⟩:=ae.cellOf;have lb:=ae.U.U.lt;have mE:=EF (bJ d.ag) i ajF;rw[YE]at mE;obtain⟨v,iq⟩:∃v,bJ d.ag=v:=⟨_,rfl⟩;have hp:∀W,ax w2 W->Calls prog 57 #[bl aE] W (bx v.val fun w'=>ax W w'):=fun W ao=>by
    obtain⟨cg,bM,b6,bU,b4,bB,ah,hs⟩:=ae.hR.below ao;have aP:st2.ag=v:=by rw[<-iq];exact ae.ok.zx
    rw[<-aP];exact Ud W aE st2.ag (hs.U.U.cell 0) (hs.U.U.cell 1) (hs.U.U.cell 2) (hs.U.U.cell 3) (hs.U.U.cell 4)
   rw[iq]at mE;have H2:Hid (Calls prog 57 #[bl aE] w2.drew (bx v.val fun w'=>(w'.cell? (aa b 0)=some (I i)∧w'.cell? (aa b 2)=some (bl aE))∧b<w'.heap.size∧Hid (ax w2 w'))):=(hp w2.drew (cE).drew).mono (by
    rintro e w' ⟨rfl,ao⟩;have ig:ax w2 w':=(cE).drew.trans ao;exact⟨rfl,⟨bZ ig c0,bZ ig c2⟩,hV lb ig.size,ig⟩)
   have H3:Hid (Calls prog 57 #[bl aE] (w2.alloc (.cells #[I 0,I 0] 62)).drew (bx v.val fun w'=>(w'.cell? (aa b 0)=some (I i)∧w'.cell? (aa b 2)=some (bl aE))∧b<w'.heap.size∧w'.cell? (aa (w2.heap.size) 0)=some (I 0)∧w'.cell? (aa (w2.heap.size) 1)=some (I 0)∧w'.frozen? (aa (w2.heap.size) 0)=false∧w'.frozen? (aa (w2.heap.size) 1)=false∧w2.heap.size<w'.heap.size∧Hid (aQ w' w2.heap.size [I 0,I 0] 62∧ax w2 w'))):=by
    have se:ax w2 (w2.alloc (.cells #[I 0,I 0] 62)).drew:=((cj _ _)).drew;refine(hp _ se).mono ?_;rintro e w' ⟨rfl,ao⟩;have ig:ax w2 w':=se.trans (ao.mono se.size);have P2:aQ (w2.alloc (.cells #[I 0,I 0] 62)).drew w2.heap.size [I 0,I 0] 62:=cC w2 _;have p2:=P2.below ao;exact⟨rfl,⟨bZ ig c0,bZ ig c2⟩,hV lb ig.size,p2.cell 0,p2.cell 1,p2.frozen 0,p2.frozen 1,p2.lt,p2,ig⟩
   have bu:=J (⟨ae,dy,pA,bP⟩:_∧_∧_∧_);clear ae dy pA bP hp iq YE;have jm:IntKind.i64.wrap ((lf:Int)+1)=(lf:Int)+1:=by rw[IntKind.wrap_i64];omega
   have SP:¬w2.heap.size=b:=by omega
   have SQ:¬b=w2.heap.size:=by omega
   have NI:=World.new_ne w2 _ c0;have NJ:=World.new_ne w2 _ c2;have g0:(0:Int)<=lf:=by omega
   have g1:(lf:Int)<=1100000:=by omega
   go_upto_region 7 with(fail);clear c1 eF;go_cut[7] (fun Th wc=>∃jI,Th=bl jI∧Hid (w2.heap.size<=jI∧aQ wc jI [I i,I ((lf:Int)+1)] 62∧ax w2 wc))
   case first=>
    go_region_held3(fun W=>W.cell? (aa b 0)=some (I i)∧W.cell? (aa b 2)=some (bl aE)) (go_keep) (first|(go_at_call 57;show Calls _ _ _ (World.drew (World.alloc _ _)) _;refine H3.o.mono ?_;rintro e w5 ⟨rfl,⟨ek,dq⟩,cI,z0,h0,z2,z3,z4,c7⟩)|(go_at_call 57;refine H2.o.mono ?_;rintro e w5 ⟨rfl,⟨ek,dq⟩,cI,c7⟩;have SR:¬w5.heap.size=b:=(by omega);have atI:¬b=w5.heap.size:=(by omega);have SS:=World.new_ne w5 _ ek;have aaU:=World.new_ne w5 _ dq))
    all_goals go_wp2_with fail
    all_goals go_meet
    all_goals
     first
      |exact⟨_,rfl,c7.o.size,cC w5 _,c7.o.alloc c7.o.size _⟩
      |exact⟨_,rfl,cv,(c7.o.1.set 0 _).set 1 _,(c7.o.2.setCell cv _).setCell cv _⟩
   case rest=>
    obtain⟨jI,rfl,wj⟩:=hcut;obtain⟨ae,dy,pA,bP⟩:=bu.o;have rI:eu (cX k)= .own k:=pA.oj;have Xr:=ae.jo (k:=k) (qp _ _ _) rI (.held 5);have Gb:fH bg w2 (je (jQ eu (cX k) (.held 5)) w2.heap.size others) b n i {d with bH:=fP d.bH k none} aE st2 b8 tbs cX av aY:=Xr.move fun q ad _=>⟨rfl,jz ad⟩
    have qb:je (jQ eu (cX k) (.held 5)) w2.heap.size others (cX k)= .held 5:=by rw[jz pA.own.lt,Bc]
    have QQ:nT w2 (cL (done i d t),cX k):=pA.own.mono cp.o.2.1;have KA:nQ an (je p w.heap.size others) w2 (je (jQ eu (cX k) (.held 5)) w2.heap.size others):=⟨dy.ay,fun q ad bS=>by
     rw[jz (hV ad dy.size)]at bS;by_cases c:q=cX k
     ·rw[<-dy.same q ad,c,rI];simp
     ·rw[qq c,dy.same q ad]at bS;exact bS⟩
    have JB:w.heap.size<w2.heap.size:=hV aC dy.size;have ZJ:w.heap.size≠cX k:=fun c=>by
     have:=dy.same _ aC;rw[sE cv,c,rI]at this;simp[others]at this
    have KU:je (jQ eu (cX k) (.held 5)) w2.heap.size others w.heap.size= .other:=by rw[jz JB,qq ZJ,dy.same _ aC,sE cv]
    have Iu:aQ w2 w.heap.size [I 0,I 0] 62:=aO.o.2.2.1.move (dy.ay.block _ aO.o.2.2.1.lt (by rw[sE cv];simp[kn,others]));have sx:=fun W (ao:ax w2 W)=>acn (u:=done i d t) (Gb.below ao) (by exact bI) (by exact cp.o.1) (cV.move QQ (ao.block _ QQ.lt)) qb
    have fl:(done i d t).rep.toNat=i:=by show((i:Nat):Int).toNat=i;simp
    have es:(done i d t).seq=(lf:Int)+1:=cp.o.2.2;have px:(done i d t).saw=t.saw:=rfl;rw[fl,es,px]at sx;clear fl es px;obtain⟨sv,jl⟩:∃sv,bJ t.saw=sv:=⟨_,rfl⟩;rw[jl]at bP;simp only[jl]at sx;have kA:=wj.o.2.2;have acs:=bP.below kA;have T4:=pA.U.U.below kA;have dm:=aR.cell (show wc.cell? (aa jI 0)=some (I i)from wj.o.2.1.cell 0);have dz:=aR.cell (show wc.cell? (aa jI 1)=some (I ((lf:Int)+1))from wj.o.2.1.cell 1);have ei:=aR.cell (show wc.cell? (aa (tbs k) 0)=some (bl (b8 k))from T4.cell 0);have fG:=aR.cell (show wc.cell? (aa (tbs k) 2)=some (.map (some (cX k)))from T4.cell 2);have im:∀f:dO (aR wc),Calls prog 67 #[bl (b8 k)] f.w fun e fv=>e= .returned sv.val∧∃g:dO (aR wc),fv=g.w:=fun f=>by
     have rY:=acs.below f.ok;exact aR.call f (aoH f.w (b8 k) sv (rY.cell 1) (rY.cell 2) (rY.cell 3) (rY.cell 4) (rY.cell 5))
    have aeI:=J im;have Pq:=J sx;have ck:=J (⟨KA,KU,Iu,kA,wj.o.2.1,JB,wj.o.1⟩:_∧_∧_∧_∧_∧_∧_);clear ae dy pA bP Gb Xr rI qb QQ ZJ KA KU Iu sx jl acs T4 im H2 H3 mE c0 c2 lb wj kA JB;go_upto_region 8 with(fail);refine kd (aR wc) 12 (by kernel_rfl) (by kernel_rfl) (cE).drew ?_;simp only[jC,ju,j4,jR];repeat(go_big_quiet_step (first|(go_at_call 67;exact aeI.o _)))
    refine gG ?_;intro _ ds;obtain⟨fq,rfl⟩:=ds;obtain⟨dH,b0⟩:=fq;try dsimp only
    clear dm dz ei fG;have Ar:ax w2 dH:=ck.o.2.2.2.1.trans (b0.mono ck.o.2.2.2.1.size);go_wp2_with fail
    refine(Pq.o dH Ar).mono ?_;rintro e eS ⟨rfl,sF,ep,nc⟩;obtain⟨KA,KU,Iu,kA,VL,JB,Jq⟩:=ck.o;have N9:bA kn _ _ _ _:=nc.mono fun u hu=>by
     rcases hu with hu|hu|hu
     ·exact Ox hu
     ·rw[hu];simp[kn]
     ·rw[hu];simp[kn]
    have BT:=VL.below b0;have L0:aQ eS jI [I i,I ((lf:Int)+1)] 62:=BT.move (N9.ay.block _ BT.lt (by rw[sE Jq];simp[kn,others]));have tZ:=Iu.below Ar;have vV:aQ eS w.heap.size [I 0,I 0] 62:=tZ.move (N9.ay.block _ tZ.lt (by rw[KU];simp[kn]));have d0:=L0.c0;have d1:=L0.c1;have CM:=L0.lt;have v0:=vV.c0;have v1:=vV.c1;have f0:=vV.frozen 0;have f1:=vV.frozen 1;have zi:=vV.lt;have abI:nQ an (je p w.heap.size others) eS sF:=(KA.below Ar).trans (bA.G7 N9);have dL:=J (⟨ep,abI⟩:_∧_);clear KA KU Iu kA VL JB Jq BT L0 tZ vV ep nc N9 abI b0 Ar;go_wp2_with fail
    have mX:Touch (fun q=>q=w.heap.size) eS ((eS.setCell (aa (w.heap.size) 0) (I i)).setCell (aa (w.heap.size) 1) (I ((lf:Int)+1))):=((Touch.refl (fun q=>q=w.heap.size) eS).setCell (p:=(aa (w.heap.size) 0)) (Or.inl rfl) _).setCell (p:=(aa (w.heap.size) 1)) (Or.inl rfl) _;exact iX (v:= .tuple #[.agg #[I i,I ((lf:Int)+1)],I 0]) (by simp[results,results32,go_sem,v0,v1]) rfl ⟨rfl,sF,gP.res (by have:=dL.o.1;unfold zu at this;exact this) aC dL.o.2 mX,nQ.abk aO.o.2.1 dL.o.2 mX⟩
abbrev ae4 (xs:Nat->dD):World->(Nat->Tag)->Tag->Nat->Nat->Nat->aZ->Prop:=fun w o t b n i d=>aX (xs i) w o t b n i d
theorem pN (xs:Nat->dD):gH (ae4 xs)where
 move h hm:=aX.move h hm
 PV w o t b n i d h _:=by
  obtain⟨p,h1,ae⟩:=h;refine(afX ae).mono ?_;rintro e w' ⟨rfl,p',aH,bd⟩;exact⟨rfl,aX.OW h1 aH bd⟩
 add w o t b n i d tx q h _ hk hs:=by
  obtain⟨p,h1,ae⟩:=h;refine(afm ae tx q hk hs).mono ?_;rintro e w' ⟨rfl,p',aH,bd⟩;exact⟨rfl,aX.OW h1 aH bd⟩
 write w o t b n i d tx q h _ hk hs av:=by
  obtain⟨p,h1,ae⟩:=h;refine(aqE ae tx q hk hs av).mono ?_;rintro e w' ⟨rfl,p',aH,bd⟩;exact⟨rfl,aX.OW h1 aH bd⟩
 insert w o t b n i d tx q h _ hk hs av:=by
  obtain⟨p,h1,ae⟩:=h;refine(alv ae tx q hk hs av).mono ?_;rintro e w' ⟨rfl,p',aH,bd⟩;exact⟨rfl,aX.OW h1 aH bd⟩
 remove w o t b n i d tx q h _ hk hs av:=by
  obtain⟨p,h1,ae⟩:=h;refine(aoq ae tx q hk hs av).mono ?_;rintro e w' ⟨rfl,p',aH,bd⟩;exact⟨rfl,aX.OW h1 aH bd⟩
 read w o t bt b n i d tx key h bI _ hs:=by
  have hM:=h;obtain⟨p,h1,ae⟩:=h;refine(an3 ae bI.df tx key hs).mono ?_;rintro e w' ⟨bz,rfl,aH,bd⟩;refine⟨bz,gX o w.heap.size fun _=>bt,rfl,aX.move hM fun q ad e=>⟨bd.block q ad,(nF ad).trans e⟩,⟨Touch.dh bd,fun q ad=>nF ad⟩,b3.new aH (fun q _=>rfl)⟩
 Wa w o t b n i d tx h bI:=by
  obtain⟨p,h1,ae⟩:=h;refine(agO _ w p b n i d tx ae bI.df).mono ?_;rintro e w' ⟨rfl,p',aH,bd⟩;exact⟨rfl,aX.NT h1 aH bd⟩
 abort w o t b n i d tx h bI:=by
  obtain⟨p,h1,ae⟩:=h;refine(afj ae bI.df tx).mono ?_;rintro e w' ⟨rfl,p',aH,bd⟩;exact⟨rfl,aX.OW h1 aH bd⟩
 KY w o t bt b n i d h _ _:=by
  have hM:=h;obtain⟨p,h1,ae⟩:=h;refine(aqj ae).mono ?_;rintro e w' ⟨bz,rfl,aH,bd⟩;refine⟨bz,gX o w.heap.size fun _=>bt,rfl,aX.move hM fun q ad e=>⟨bd.block q ad,(nF ad).trans e⟩,⟨Touch.dh bd,fun q ad=>nF ad⟩,b3.new aH (fun q _=>rfl)⟩
theorem fH.adl {bg:dD}{b n i:Nat}{d:aZ}(h:fH bg w p b n i d aE st b8 tbs cX av aY):d.ag.length=n:=by rw[h.ok.ag,kH]
theorem fH.Ub {bg:dD}{b n i:Nat}{d:aZ}(h:fH bg w p b n i d aE st b8 tbs cX av aY):Calls prog 57 #[bl aE] w fun e w'=>e= .returned (bJ d.ag).val∧ax w w':=by
 obtain⟨cg,bM,b6,bU,b4,bB,ah,hs⟩:=h.hR;rw[<-h.ok.zx];exact Ud w aE st.ag (hs.U.U.cell 0) (hs.U.U.cell 1) (hs.U.U.cell 2) (hs.U.U.cell 3) (hs.U.U.cell 4)
theorem Yl {bg:dD}{b n i:Nat}{d:aZ}(h:fH bg w p b n i d aE st b8 tbs cX av aY):
  Calls prog 72 #[bl b] w (bx (lJ i (bJ d.ag)) fun w'=>ax w w'):=by
 generalize bj:w.alloc (.cells #[I 0,I 0,I 0,I 0,I 0,I 0] 144)=W0;have bp:ax w W0:=by rw[<-bj];exact cj _ _
 have fV:aQ W0 w.heap.size [I 0,I 0,I 0,I 0,I 0,I 0] 144:=by rw[<-bj];exact cC w _
 have aS:=h.below bp;obtain⟨c0,-,c2⟩:=aS.cellOf;have dm:=aR.cell c0;have ei:=aR.cell c2;have aA:∀f:dO (aR W0),Calls prog 57 #[bl aE] f.w fun e fv=>e= .returned (bJ d.ag).val∧∃g:dO (aR W0),fv=g.w:=fun f=>aR.call f (aS.below f.ok).Ub
 obtain⟨v,iq⟩:∃v,bJ d.ag=v:=⟨_,rfl⟩;rw[iq]at aA⊢;have dj:=J aA;have di:=J bj;have aO:=J (⟨bp,fV⟩:_∧_);clear aA bj bp fV h aS c0 c2 iq;go_enter func72,ntmps72;go_upto_region 1 with(fail);rw[di.o];refine kd (aR W0) 10 (by kernel_rfl) (by kernel_rfl) (cE).drew ?_;simp only[jC,ju,j4,jR];repeat(go_big_quiet_step (first|(go_at_call 57;exact dj.o _)))
 refine gG ?_;intro _ ds;obtain⟨fq,rfl⟩:=ds;obtain⟨bN,b0⟩:=fq;try dsimp only
 clear dm ei;have e0:=aO.o.2.below b0;have eE:=e0.c0;have cB:=e0.c1;have b_:=e0.c2;have dW:=e0.c3;have iw:=e0.c4;have ql:=e0.c5;have eY:=e0.frozen 0;have q1:=e0.frozen 1;have dy:=e0.frozen 2;have fE:=e0.frozen 3;have hf:=e0.frozen 4;have nG:=e0.frozen 5;have aC:=e0.lt;have ck:=J (⟨aO.o.1.trans (b0.mono aO.o.1.size),e0⟩:_∧_);clear e0 b0;go_wp2_with fail
 have cJ:=N6 i v ck.o.2;have eO:=Kv bN w.heap.size i v;unfold A4 at cJ eO;generalize World.setCell _ _ _=jT at*;have cY:=cJ.c0;have s1:=cJ.c1;have s2:=cJ.c2;have fX:=cJ.c3;have hI:=cJ.c4;have sG:=cJ.c5;exact iX (v:=lJ i v) (by simp[results,results72,go_sem,cY,s1,s2,fX,hI,sG]) rfl ⟨rfl,qH ck.o.1 eO cv ck.o.1.size⟩
theorem aqc {n:Nat}(aC:l.length=n)(hn:n<=5):(bJ l).list.take n=l:=by
 subst aC;match l,hn with
 |[],_=>rfl
 |[a],_=>rfl
 |[a,b],_=>rfl
 |[a,b,c],_=>rfl
 |[a,b,c,d],_=>rfl
 |[a,b,c,d,e],_=>rfl
 |a::b::c::d::e::f::l,h=>simp at h
theorem fH.Ua {bg:dD}{b n i:Nat}{d:aZ}(h:fH bg w p b n i d aE st b8 tbs cX av aY)(bI:d.hs.length<=1100000):∀k:Nat,0<=(bJ d.ag).get k∧(bJ d.ag).get k<=1100000:=fun k=>by
 rw[pS (by rw[h.adl];exact h.ok.df.n5),kL,h.ok.ag];by_cases c:k<n
 ·rw[k2 c];have:=qL d.hs k;omega
 ·rw[uB (by omega)];omega
theorem apr {bg:dD}{b n i:Nat}{d:aZ}(h:gP bg w p b n i d)(bI:d.hs.length<=1100000)(al:fI w):
  Calls prog 37 #[bl b] w (bx (ai ⟨(nK n i d.ag).toArray⟩) fun w'=>ax w w'):=by
 obtain⟨aE,st,b8,tbs,cX,av,aY,h⟩:=h;have b2:=h.ok.df.n5;have aq:=h.ok.aq;obtain⟨-,c1,-⟩:=h.cellOf;have dz:=aR.cell c1;have aA:∀f:dO (aR w),Calls prog 72 #[bl b] f.w fun e fv=>e= .returned (lJ i (bJ d.ag))∧∃g:dO (aR w),fv=g.w:=fun f=>aR.call f (Yl (h.below f.ok))
 have hs:∀f:dO (aR w),Calls prog 71 #[I n,lJ i (bJ d.ag)] f.w fun e fv=>e= .returned (ai ⟨(nK n i d.ag).toArray⟩)∧∃g:dO (aR w),fv=g.w:=fun f=>by
  have a:=aqH f.w n i (bJ d.ag) b2 (by omega) (fun k hk=>by
   obtain⟨r,-,rfl⟩:=C7 hk;have:=h.Ua bI r;omega) (al.later f.ok)
  rw[aqc h.adl b2]at a;exact aR.call f a
 obtain⟨v,iq⟩:∃v,bJ d.ag=v:=⟨_,rfl⟩;obtain⟨bL,JV⟩:∃bL:ByteArray,⟨(nK n i d.ag).toArray⟩=bL:=⟨_,rfl⟩;simp only[iq,JV]at aA hs⊢;have dj:=J aA;have aL:=J hs;clear aA hs h iq JV c1 al;go_enter func37,ntmps37;go_upto_region 1 with(fail);refine qm (aR w) (by kernel_rfl) (by kernel_rfl) (cE).drew ?_;repeat(go_big_quiet_step (first|(go_at_call 72;exact dj.o _)|(go_at_call 71;exact aL.o _)))
 refine gG ?_;intro _ ds;obtain⟨f1,rfl⟩:=ds;go_wp2_with fail
 go_ret;exact⟨rfl,f1.ok⟩
theorem ab3 {i n:Int}(h1:av.length=5)(ae:aY.length=25)(hk:k<25):(nH i n aE av aY op)[8+k]?=aY[k]?:=by
 unfold nH;rw[w7 (by simp;omega),yq (by simp;omega)];congr 1;simp;omega
theorem KF {i n:Int}(h1:av.length=5)(ae:aY.length=25)(hk:k<25)(x:Value):(nH i n aE av aY op).set (8+k) x=nH i n aE av (aY.set k x) op:=by
 unfold nH;rw[set_append_left _ _ (by simp;omega),set_append_right _ _ (by simp;omega)];congr 3;simp;omega
theorem fH.an7 {bg Un:dD}{w':World}{b n i:Nat}{d:aZ}{GO:List Value}(h:fH bg w p b n i d aE st b8 tbs cX av aY)(q:bA (fun t=>t=Own.rep) w p w' p)(hb:fS w' p .rep b (nH i n aE av GO (ux d tbs)) 114)(hk:GO=AX Un.aY)(aM:Un.gone=bg.gone):fH Un w' p b n i d aE st b8 tbs cX av GO:=by
 obtain⟨cg,bM,b6,bU,b4,bB,ah,hs⟩:=h.hR;refine⟨hb,h.hlen,by rw[hk];rfl,⟨cg,bM,b6,bU,b4,bB,ah,hs.ay q (fun u hu e=>by rw[e]at hu;exact hu)⟩,h.ok,fun r aJ=>?_,fun k t e=>?_,h.A7,hk,fun r=>by rw[aM];exact h.xF r⟩
 ·rw[aM];exact(h.held r aJ).ay q (by simp) (by simp)
 ·have au:=h.tx k t e
  exact⟨au.U.ay q (by simp),au.oj,au.own.hP q (by rw[au.oj];simp)⟩
def oK (x:dD)(j:Nat)(v:aW):dD:={x with aY:=qg x.aY j ((x.aY j).join v)}
theorem aao {bg:dD}{b n i:Nat}{d:aZ}(h:fH bg w p b n i d aE st b8 tbs cX av aY){j:Nat}(af:j<5)(v:aW):
  Calls prog 76 #[bl b,lJ j v] w (bx (.tuple #[]) fun w'=>gP (oK bg j v) w' p b n i d∧bA (fun t=>t= .rep) w p w' p):=by
 obtain⟨u,hu⟩:∃u,bg.aY j=u:=⟨_,rfl⟩;generalize bj:w.alloc (.cells #[I j,I v.a,I v.b,I v.c,I v.d,I v.e] 144)=W0;have bp:ax w W0:=by rw[<-bj];exact cj _ _
 have fV:aQ W0 w.heap.size [I j,I v.a,I v.b,I v.c,I v.d,I v.e] 144:=by rw[<-bj];exact cC w _
 have aS:=h.below bp;have p3:∀m,m<5->W0.cell? (aa b (8+j*5+m))=some (I (u.get m)):=fun m hm=>by
  rw[aS.U.U.cell,show 8+j*5+m=8+(j*5+m) by omega,ab3 h.hlen h.lL (by omega),h.known,NA _ af hm,hu]
 have ek:=aR.cell (show W0.cell? (aa b (8+j*5))=some (I u.a)from p3 0 (by omega));have cI:=aR.cell (show W0.cell? (aa b (8+j*5+1))=some (I u.b)from p3 1 (by omega));have dq:=aR.cell (show W0.cell? (aa b (8+j*5+2))=some (I u.c)from p3 2 (by omega));have eW:=aR.cell (show W0.cell? (aa b (8+j*5+3))=some (I u.d)from p3 3 (by omega));have fo:=aR.cell (show W0.cell? (aa b (8+j*5+4))=some (I u.e)from p3 4 (by omega));have dm:=aR.cell (show W0.cell? (aa (w.heap.size) 0)=some (I j)from fV.cell 0);have dz:=aR.cell (show W0.cell? (aa (w.heap.size) 1)=some (I v.a)from fV.cell 1);have ei:=aR.cell (show W0.cell? (aa (w.heap.size) 2)=some (I v.b)from fV.cell 2);have fG:=aR.cell (show W0.cell? (aa (w.heap.size) 3)=some (I v.c)from fV.cell 3);have ib:=aR.cell (show W0.cell? (aa (w.heap.size) 4)=some (I v.d)from fV.cell 4);have j2:=aR.cell (show W0.cell? (aa (w.heap.size) 5)=some (I v.e)from fV.cell 5);have ti:∀f:dO (aR W0),Calls prog 118 #[u.val,v.val] f.w fun e fv=>e= .returned (u.join v).val∧∃g:dO (aR W0),fv=g.w:=fun f=>aR.call f (Sh f.w u v)
 have UO:=J ti;have di:=J bj;have aO:=J (⟨h,bp,aS,hu,p3⟩:_∧_∧_∧_∧_);have aP:¬(j:Int)<0:=by omega
 have ba:(j:Int)<5:=by omega
 obtain⟨ob,Gu⟩:∃ob,u.join v=ob:=⟨_,rfl⟩;rw[Gu]at UO;have aeg:=J Gu;clear h bp fV aS ti bj hu p3 Gu;go_enter func76,ntmps76;go_upto_region 1 with(fail);rw[di.o];refine kd (aR W0) 16 (by kernel_rfl) (by kernel_rfl) (cE).drew ?_;simp only[jC,ju,j4,jR];repeat(go_big_quiet_step (first|(go_at_call 118;exact UO.o _)))
 refine gG ?_;intro _ ds;obtain⟨fq,rfl⟩:=ds;obtain⟨bR,aF⟩:=fq;try dsimp only
 have c0:=ek ⟨bR,aF⟩;have c1:=cI ⟨bR,aF⟩;have c2:=dq ⟨bR,aF⟩;have c3:=eW ⟨bR,aF⟩;have c4:=fo ⟨bR,aF⟩;dsimp only at c0 c1 c2 c3 c4
 have eA:=aO.o.2.2.1.below aF;have f0:bR.frozen? (aa b (8+j*5))=false:=eA.U.U.frozen _;have f1:bR.frozen? (aa b (8+j*5+1))=false:=eA.U.U.frozen _;have f2:bR.frozen? (aa b (8+j*5+2))=false:=eA.U.U.frozen _;have f3:bR.frozen? (aa b (8+j*5+3))=false:=eA.U.U.frozen _;have f4:bR.frozen? (aa b (8+j*5+4))=false:=eA.U.U.frozen _;have lj:=eA.U.U.lt;have H1:=J (⟨eA,aF⟩:_∧_);clear ek cI dq eW fo dm dz ei fG ib j2 eA aF;go_wp2_with fail
 go_end0;obtain⟨h,bp,aS,hu,p3⟩:=aO.o;obtain⟨h1,aF⟩:=H1.o;have ow:=((((h1.U.set (8+j*5) (I ob.a)).set (8+j*5+1) (I ob.b)).set (8+j*5+2) (I ob.c)).set (8+j*5+3) (I ob.d)).set (8+j*5+4) (I ob.e);have Qk:(((((nH i n aE av aY (ux d tbs)).set (8+j*5) (I ob.a)).set (8+j*5+1) (I ob.b)).set (8+j*5+2) (I ob.c)).set (8+j*5+3) (I ob.d)).set (8+j*5+4) (I ob.e)=nH i n aE av (AX (oK bg j v).aY) (ux d tbs):=by
  rw[show 8+j*5+1=8+(j*5+1) by omega,show 8+j*5+2=8+(j*5+2) by omega,show 8+j*5+3=8+(j*5+3) by omega,show 8+j*5+4=8+(j*5+4) by omega];rw[KF h.hlen h.lL (by omega),KF h.hlen (by simp[h.lL]) (by omega),KF h.hlen (by simp[h.lL]) (by omega),KF h.hlen (by simp[h.lL]) (by omega),KF h.hlen (by simp[h.lL]) (by omega),h.known,aal _ af];show nH i n aE av (AX (qg bg.aY j ob)) _=nH i n aE av (AX (qg bg.aY j ((bg.aY j).join v))) _
  rw[hu,aeg.o]
 rw[Qk]at ow;have fe:=h1.U.tag;have nG:=((((((bA.refl (fun t=>t=Own.rep) bR p).set (p:=(aa b (8+j*5))) fe (I ob.a)).set (p:=(aa b (8+j*5+1))) fe (I ob.b)).set (p:=(aa b (8+j*5+2))) fe (I ob.c)).set (p:=(aa b (8+j*5+3))) fe (I ob.d)).set (p:=(aa b (8+j*5+4))) fe (I ob.e));have ao:=bp.trans (aF.mono bp.size);exact⟨rfl,⟨aE,st,b8,tbs,cX,av,_,h1.an7 nG ow rfl rfl⟩,(bA.dh ao).trans nG⟩
def uV (d:aZ)(u:aT):Bool:=vW u.rep.toNat u.seq (bJ u.saw) (bJ d.ag)
def sJ (d:aZ)(u:aT):aZ:=if uV d u=true then zu d u else d
def jO (d:aZ)(us:List aT):aZ:=us.foldl sJ d
theorem S7 (d:aZ)(us:List aT)(u:aT):jO d (us++[u])=sJ (jO d us) u:=by simp[jO]
theorem ang (d:aZ):∀us,(jO d us).bH=d.bH:=by
 intro us;induction us using ya with
 |aS=>rfl
 |h1 us u ih=>
  rw[S7];unfold sJ;split
  ·exact ih
  ·exact ih
structure s0 (bg:dD)(b n i:Nat)(d:aZ)(cr:World)(qk:Nat->Own)(cE B:Nat)(L:List e4)(tx:e4->aT)(X:Nat->Prop)(pre:List e4)(W:World):Prop where
 ex:∃p,gP bg W p b n i (jO d (pre.map tx))∧nQ cr qk W p∧(∀q,X q->p q= .other)∧p cE= .other∧∀z,z∈L->p z.x.2= .held 5
 box:aQ W cE [bl b] 45
 jr:∀z,z∈L->nT W z.x∧z.x.2<B
 mem:∀z,z∈pre->z∈L
 q_:∀q,X q->B<=q∧q<W.heap.size
 lt:cE<B
 Ue:cr.heap.size<=B
 OY:B<=W.heap.size
section
variable {bg:dD}{b n i:Nat}{d:aZ}{cr:World}{qk:Nat->Own}{cE B:Nat}{L:List e4}{tx:e4->aT}{X Y:Nat->Prop}{pre:List e4}{W W2:World}
theorem s0.KQ (h:s0 bg b n i d cr qk cE B L tx X pre W)(aD:Touch X W W2)(ui:∀q,Y q->(X q∨W.heap.size<=q)∧q<W2.heap.size):s0 bg b n i d cr qk cE B L tx Y pre W2:=by
 obtain⟨p,h1,ae,aH,bd,cS⟩:=h.ex;have QD:=h.OY;have aiA:=h.Ue;have tn:∀q,q<B->W2.heap[q]?=W.heap[q]?:=fun q ad=>aD.block q (by omega) fun c=>by have:=(h.q_ q c).1;omega
 refine⟨⟨je p W.heap.size others,h1.move fun q ad bS=>⟨aD.block q ad fun c=>bS (aH q c),jz ad⟩,⟨?_,fun q ad e=>?_⟩,fun q ad=>?_,?_,fun z cF=>?_⟩,h.box.move (tn _ h.lt),fun z cF=>⟨cV.move (h.jr z cF).1 (tn _ (h.jr z cF).2),(h.jr z cF).2⟩,h.mem,fun q ad=>⟨?_,(ui q ad).2⟩,h.lt,aiA,fx QD aD.size⟩
 ·exact⟨aD.os.trans ae.ay.os,aD.tape.trans ae.ay.tape,aD.output.trans ae.ay.output,fx ae.ay.size aD.size,fun q ad bS=>(tn q (by omega)).trans (ae.ay.block q ad bS)⟩
 ·rw[jz (by omega)]at e;exact ae.stay q ad e
 ·by_cases c:q<W.heap.size
  ·rw[jz c]
   rcases(ui q ad).1 with c'|c'
   ·exact aH q c'
   ·omega
  ·rw[sE (by omega)]
 ·rw[jz (by have:=h.lt;omega)];exact bd
 ·rw[jz (by have:=(h.jr z cF).2;omega)];exact cS z cF
 ·rcases(ui q ad).1 with c|c
  ·exact(h.q_ q c).1
  ·omega
theorem s0.no (h:s0 bg b n i d cr qk cE B L tx X pre W){z:e4}(cF:z∈L)(aA:uV (jO d (pre.map tx)) (tx z)=false)(ao:ax W W2):s0 bg b n i d cr qk cE B L tx X (pre++[z]) W2:=by
 have a:=h.KQ (Y:=X) (Touch.dh ao) fun q ad=>⟨Or.inl ad,hV (h.q_ q ad).2 ao.size⟩
 obtain⟨p,h1,ae⟩:=a.ex;refine⟨⟨p,?_,ae⟩,a.box,a.jr,fun y b9=>?_,a.q_,a.lt,a.Ue,a.OY⟩
 ·rw[tJ,map_singleton,S7]
  unfold sJ;rw[aA];exact h1
 ·rw[hT,k4]at b9
  rcases b9 with b9|rfl
  ·exact h.mem y b9
  ·exact cF
theorem s0.yes (h:s0 bg b n i d cr qk cE B L tx X pre W){z:e4}(cF:z∈L)(akN:(tx z).rep.toNat<5)(aA:uV (jO d (pre.map tx)) (tx z)=true){p:Nat->Own}(ae:nQ cr qk W p)(aH:∀q,X q->p q= .other)(bd:p cE= .other)(cS:∀z,z∈L->p z.x.2= .held 5){p':Nat->Own}(hs:gP bg W2 p' b n i (zu (jO d (pre.map tx)) (tx z)))(ad:bA (fun t=>dN t∨t= .rep∨t= .held (tx z).rep.toNat) W p W2 p'):
  s0 bg b n i d cr qk cE B L tx X (pre++[z]) W2∧∀q,X q->W2.heap[q]?=W.heap[q]?:=by
 have QD:=h.OY;have Er:∀q,q<W.heap.size->p q= .other->W2.heap[q]?=W.heap[q]?:=fun q iB e=>ad.ay.block q iB (by rw[e];rintro (c|c|c);exact c;cases c;cases c)
 have hn:bA kn W p W2 p':=ad.mono fun u hu=>by
  rcases hu with hu|hu|hu
  ·exact Ox hu
  ·rw[hu];simp[kn]
  ·rw[hu];simp[kn]
 refine⟨⟨⟨p',?_,ae.trans (bA.G7 hn),fun q c=>(ad.same q (h.q_ q c).2).trans (aH q c),(ad.same _ (by have:=h.lt;omega)).trans bd,fun y b9=>(ad.same _ (by have:=(h.jr y b9).2;omega)).trans (cS y b9)⟩,h.box.move (Er _ (by have:=h.lt;omega) bd),fun y b9=>⟨?_,(h.jr y b9).2⟩,fun y b9=>?_,fun q c=>⟨(h.q_ q c).1,hV (h.q_ q c).2 ad.size⟩,h.lt,h.Ue,fx QD ad.size⟩,fun q c=>Er q (h.q_ q c).2 (aH q c)⟩
 ·rw[tJ,map_singleton,S7]
  unfold sJ;rw[aA];exact hs
 ·exact cV.hP (h.jr y b9).1 ad (by rw[cS y b9];rintro (c|c|c);exact c;cases c;injection c with c;omega)
 ·rw[hT,k4]at b9
  rcases b9 with b9|rfl
  ·exact h.mem y b9
  ·exact cF
end
end Go.Proofs.YtiplgdkpnhamaaaGreatDoor.Tv
