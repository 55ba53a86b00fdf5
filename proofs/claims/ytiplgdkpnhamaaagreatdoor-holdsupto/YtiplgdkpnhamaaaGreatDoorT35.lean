import Derived.Test.YtiplgdkpnhamaaaGreatDoorT01
set_option maxHeartbeats 2000000
set_option maxRecDepth 100000
namespace Go.Proofs.YtiplgdkpnhamaaaGreatDoor
open Go.Proofs.Tryz List
open Go.RowKit
def lK (ag gone:List Int):Nat->Int
 |0=>0
 |k+1=>lK ag gone k+ag.getD k 0-gone.getD k 0
theorem MJ {ag gone:List Int}(av:∀r,0<=ag.getD r 0∧ag.getD r 0<=2000000)(aM:∀r,0<=gone.getD r 0∧gone.getD r 0<=2000000):∀k:Nat,-2000000*(k:Int)<=lK ag gone k∧lK ag gone k<=2000000*(k:Int)
 |0=>by simp[lK]
 |k+1=>by
  have h:=MJ av aM k;have a:=av k;have b:=aM k;unfold lK;omega
theorem TB (w:World)(b n:Nat)(bD bw:Value)(ag gone:List Int)(aC:ag.length=n)(gV:gone.length=n)(oZ:1<=n)(hn:n<=5)(hb:b<w.heap.size)(h1:eh w b 1 bD)(bd:eh w b 4 bw)(av:Row w 3 1 bD n (ints ag))(aM:Row w 3 1 bw n (ints gone))
  (bv:∀r,0<=ag.getD r 0∧ag.getD r 0<=2000000)(qJ:∀r,0<=gone.getD r 0∧gone.getD r 0<=2000000):
  Calls prog 95 #[.pointer (some (aa b 0))] w (bx (I (lK ag gone n)) fun w'=>ax w w'):=by
 obtain⟨g,cap,rfl,gg,hm,fW,aA,bm⟩:=av.pos (by omega);obtain⟨g2,lV,rfl,X8,xU,fi,sh,Ch⟩:=aM.pos (by omega);have ff:Hid (∀j (h:j<n),w.cell? (aa g j)=some (I (ag.getD j 0))):=fun j h=>by
  rw[aA j (by omega),o9 _ _ (by omega)];simp[show j<ag.length by omega]
 have gO:Hid (∀j (h:j<n),w.cell? (aa g2 j)=some (I (gone.getD j 0))):=fun j h=>by
  rw[sh j (by omega),o9 _ _ (by omega)];simp[show j<gone.length by omega]
 have bO:=J (MJ bv qJ);have tO:=J bv;have Bw:=J qJ;clear aA bm sh Ch av aM bv qJ aC gV;go_enter func95,ntmps95;go_wp2;go_loopw[3,4] (fun sv tu wr=>∃j:Nat,j<=n∧sv=I (lK ag gone j)∧tu=I j∧Hid (ax w wr)) (fun _ tu _=>n-(intOf tu).toNat)
 case atStart=>exact⟨0,ch,rfl,rfl,cE⟩
 case round=>
  obtain⟨j,af,rfl,rfl,ew⟩:=hrel;have m1:=bZ ew.o h1;have m4:=bZ ew.o bd;have fb:=ew.o.size;have xK:b<wr.heap.size:=by omega
  have kS:g<wr.heap.size:=by omega
  have YH:g2<wr.heap.size:=by omega
  by_cases br:j<n
  ·have m2:=bZ ew.o (ff.o j br)
   have m3:=bZ ew.o (gO.o j br);have bT:=bO.o j;have c6:=tO.o j;have e0:=Bw.o j;have aL:Hid (lK ag gone (j+1)=lK ag gone j+ag.getD j 0-gone.getD j 0):=rfl;clear h1 bd fb;generalize ag.getD j 0=x at*;generalize gone.getD j 0=y at*;obtain⟨z,cF⟩:∃z,lK ag gone j=z:=⟨_,rfl⟩;rw[cF]at aL bT⊢;clear cF;go_wp2;go_quiet(fail);go_wp2;refine⟨⟨j+1,by omega,?_,by go_num,(show ax w (wr.drewN nq)from⟨ew.o.os,ew.o.tape,ew.o.output,ew.o.size,ew.o.block⟩)⟩,by simp[intOf];omega⟩;rw[aL.o]
  ·have he:j=n:=by omega
   subst he;go_wp2;go_ret;exact⟨rfl,ew.o⟩
def qh (aY:Nat->List Int)(id r:Nat)(v:Int):Nat->Int
 |0=>v
 |k+1=>if k≠id∧(aY k).getD r 0<qh aY id r v k then(aY k).getD r 0 else qh aY id r v k
def kZ (aY:Nat->List Int)(id n:Nat)(ag:List Int):List Int:=(List.range n).map fun r=>qh aY id r (ag.getD r 0) n
theorem aav (aY:Nat->List Int)(id r:Nat)(v:Int):∀k,qh aY id r v k<=v
 |0=>re _
 |k+1=>by
  have:=aav aY id r v k;unfold qh;split<;>omega
theorem aoy (w:World)(b id n:Nat)(bD ah bw:Value)(ks:List Value)(ag gone:List Int)(aY:Nat->List Int)(aC:ag.length=n)(gV:gone.length=n)(cW:∀j,j<n->(aY j).length=n)(oZ:1<=n)(hn:n<=5)(hb:b<w.heap.size)(aS:eh w b 0 (I id))(h1:eh w b 1 bD)(aH:eh w b 3 ah)(bd:eh w b 4 bw)
  (av:Row w 3 1 bD n (ints ag))(hk:Row w 44 1 ah n ks)(hK:ks.length=n)(tk:∀j,j<n->∃dV,ks[j]?=some dV∧Row w 3 1 dV n (ints (aY j))∧∀q,bw.ownBlock=some q->¬dV.ownBlock=some q)(aM:Row w 3 1 bw n (ints gone))
  (bS:∀q,bw.ownBlock=some q->q≠b∧¬ah.ownBlock=some q∧¬bD.ownBlock=some q)
  (bv:∀r,0<=ag.getD r 0∧ag.getD r 0<=2000000)(qJ:∀r,0<=gone.getD r 0∧gone.getD r 0<=2000000):
  Calls prog 94 #[.pointer (some (aa b 0))] w (bx (I (lK ag gone n-lK ag (fB gone (kZ aY id n ag) n) n)) fun w'=>Row w' 3 1 bw n (ints (fB gone (kZ aY id n ag) n))∧Touch (fun q=>bw.ownBlock=some q) w w'):=by
 have aO:=J (TB w b n bD bw ag gone aC gV oZ hn hb h1 bd av aM bv qJ);have UL:=J (MJ bv qJ n);have aeS:=J av;have aec:=J aM;have tO:=J bv;have Bw:=J qJ;have dn:=J aC;have Ds:=J gV;obtain⟨g,cap,rfl,gg,hm,fW,aA,bm⟩:=av.pos (by omega);obtain⟨gk,ago,rfl,ase,rI,Gs,oT,vg⟩:=hk.pos (by omega);obtain⟨g4,Ix,rfl,asd,M0,xO,MH,ajm⟩:=aM.pos (by omega);obtain⟨og,fD,mh⟩:=bS g4 rfl;have MM:=og;have aju:g4≠gk:=fun e=>fD (by rw[e];rfl)
 have YD:g4≠g:=fun e=>mh (by rw[e];rfl)
 have ff:Hid (∀j (h:j<n),w.cell? (aa g j)=some (I (ag.getD j 0))):=fun j h=>by
  rw[aA j (by omega),o9 _ _ (by omega)];simp[show j<ag.length by omega]
 have cD:Hid (∀k (h:k<n),∃ug lf,n<=lf∧ug<w.heap.size∧ug≠g4∧w.cell? (aa gk k)=some (bo ug n lf)∧∀j,j<n->w.cell? (aa ug j)=some (I ((aY k).getD j 0))):=fun k h=>by
  obtain⟨dV,e,aJ,aB⟩:=tk k h;obtain⟨ug,lf,rfl,Jo,-,Rg,j_,-⟩:=aJ.pos (by omega);have Rt:=cW k h;refine⟨ug,lf,Jo,Rg,fun e=>aB g4 rfl (by rw[e];rfl),?_,fun j af=>?_⟩
  ·rw[oT k (by omega)];exact e
  ·rw[j_ j (by omega),o9 _ _ (by omega)];simp[show j<(aY k).length by omega]
 clear aA bm oT vg MH ajm av hk aM bS og fD mh tk bv qJ aC gV cW hK;go_enter func94,ntmps94;go_wp2_with fail
 refine aO.o.mono ?_;rintro e an ⟨rfl,aF⟩;have dF:=J aF;have Vc:Hid (Row an 3 1 (bo g4 n Ix) n (ints gone)∧Touch (fun q=>q=g4) w an):=⟨aec.o.below aF,Touch.dh aF⟩;clear aF aO;go_wp2_with fail
 go_loopw[4] (fun kc wr=>∃j:Nat,j<=n∧kc=I j∧Hid (Row wr 3 1 (bo g4 n Ix) n (ints (fB gone (kZ aY id n ag) j))∧Touch (fun q=>q=g4) w wr)) (fun kc _=>n-(intOf kc).toNat)
 case atStart=>exact⟨0,ch,rfl,by rw[adf];exact Vc.o⟩
 case round=>
  clear Vc dF;obtain⟨j,af,rfl,ew⟩:=hrel;have fb:=ew.o.2.size;have m0:wr.cell? (aa b 0)=some (I id):=by rw[ew.o.2.cell (p:=(aa b 0)) hb (fun e=>MM e.symm)];exact aS
  have m1:wr.cell? (aa b 1)=some (bo g n cap):=by rw[ew.o.2.cell (p:=(aa b 1)) hb (fun e=>MM e.symm)];exact h1
  have m3:wr.cell? (aa b 3)=some (bo gk n ago):=by rw[ew.o.2.cell (p:=(aa b 3)) hb (fun e=>MM e.symm)];exact aH
  have m4:wr.cell? (aa b 4)=some (bo g4 n Ix):=by rw[ew.o.2.cell (p:=(aa b 4)) hb (fun e=>MM e.symm)];exact bd
  have xK:b<wr.heap.size:=by omega
  have kS:g<wr.heap.size:=by omega
  have asy:gk<wr.heap.size:=by omega
  have asr:g4<wr.heap.size:=by omega
  by_cases br:j<n
  ·have m2:wr.cell? (aa g j)=some (I (ag.getD j 0)):=by rw[ew.o.2.cell (p:=(aa g j)) fW (fun e=>YD e.symm)];exact ff.o j br
   have UR:Hid (∀k (h:k<n),∃ug lf,n<=lf∧ug<wr.heap.size∧wr.cell? (aa gk k)=some (bo ug n lf)∧wr.cell? (aa ug j)=some (I ((aY k).getD j 0))):=fun k h=>by
    obtain⟨ug,lf,cO,a2,a3,a4,a5⟩:=cD.o k h;exact⟨ug,lf,cO,by omega,by rw[ew.o.2.cell (p:=(aa gk k)) Gs (fun e=>aju e.symm)];exact a4,by rw[ew.o.2.cell (p:=(aa ug j)) a2 (fun e=>a3 e)];exact a5 j br⟩
   clear aS h1 aH bd;obtain⟨wX,RZ⟩:∃wX,ag.getD j 0=wX:=⟨_,rfl⟩;have aeU:=J RZ;rw[RZ]at m2;clear RZ;go_wp2_with fail
   go_loopw[5,6] (fun bz ah E_=>∃k:Nat,k<=n∧bz=I (qh aY id j wX k)∧ah=I k∧E_=wr) (fun _ ah _=>n-(intOf ah).toNat)
   case atStart=>exact⟨0,ch,rfl,rfl,rfl⟩
   case round=>
    obtain⟨k,hk,rfl,rfl,rfl⟩:=hrel;by_cases dU:k<n
    ·obtain⟨ug,lf,cO,a2,a3,a4⟩:=UR.o k dU
     have aL:Hid (qh aY id j wX (k+1)=if k≠id∧(aY k).getD j 0<qh aY id j wX k then(aY k).getD j 0 else qh aY id j wX k):=rfl;generalize (aY k).getD j 0=y at*;obtain⟨z,cF⟩:∃z,qh aY id j wX k=z:=⟨_,rfl⟩;rw[cF]at aL⊢;clear cF;by_cases c1:k=id
     ·subst c1
      go_wp2_with fail
      exact⟨⟨k+1,by omega,by rw[aL.o,if_neg (fun c=>c.1 rfl)],by go_num,by first|rfl|trivial⟩,by simp[intOf];omega⟩
     ·have ky:((k:Int)==(id:Int))=false:=by simp;omega
      by_cases c2:y<z
      ·go_wp2_with fail
       exact⟨⟨k+1,by omega,by rw[aL.o,if_pos ⟨c1,c2⟩],by go_num,by first|rfl|trivial⟩,by simp[intOf];omega⟩
      ·go_wp2_with fail
       exact⟨⟨k+1,by omega,by rw[aL.o,if_neg (fun c=>c2 c.2)],by go_num,by first|rfl|trivial⟩,by simp[intOf];omega⟩
    ·have gi:k=n:=by omega
     subst gi;obtain⟨_,_,e,-,-,-,MH,-⟩:=ew.o.1.pos (by omega);cases e;have kC:(kZ aY id k ag).getD j 0=qh aY id j wX k:=by rw[<-aeU.o];simp[kZ,br]
     have m5:wr.cell? (aa g4 j)=some (I (gone.getD j 0)):=by
      have hl:j<(fB gone (kZ aY id k ag) j).length:=by rw[vA,Ds.o];exact br
      rw[MH j (by omega),o9 _ _ hl,<-yS hl,E5 _ _ _ _ (by rw[Ds.o];exact br),if_neg (by omega)]
     have aL:Hid (fB gone (kZ aY id k ag) (j+1)=(fB gone (kZ aY id k ag) j).set j (max (gone.getD j 0) (qh aY id j wX k))):=by rw[<-kC];exact ade _ _ _
     have Pp:Hid (gone.getD j 0=max (gone.getD j 0) (qh aY id j wX k)->(fB gone (kZ aY id k ag) j).set j (max (gone.getD j 0) (qh aY id j wX k))=fB gone (kZ aY id k ag) j):=fun e=>by
      rw[<-e];refine yp (by simp) fun q h1 ae=>?_
      rw[getElem_set];split
      ·rename_i ba
       subst ba;rw[<-yS ae,E5 _ _ _ _ (by rw[Ds.o];exact br),if_neg (by omega)]
      ·rfl
     have Ci:∀q,wr.frozen? (aa g4 q)=false:=fun q=>ew.o.1.frozenAt q
     clear MH kC UR;generalize gone.getD j 0=x at*;generalize qh aY id j wX k=y at*;by_cases c:x<y
     ·go_wp2_with fail
      refine⟨⟨j+1,by omega,by go_num,?_,ew.o.2.setCell (Or.inl rfl) _⟩,by simp[intOf];omega⟩;rw[aL.o,show max x y=y by omega,<-ints_set];exact(ly ew.o.1 j (I y)).1
     ·go_wp2_with fail
      refine⟨⟨j+1,by omega,by go_num,?_,ew.o.2⟩,by simp[intOf];omega⟩;rw[aL.o,Pp.o (by omega)];exact ew.o.1
  ·have he:j=n:=by omega
   subst he;have za:(fB gone (kZ aY id j ag) j).length=j:=by rw[vA];exact Ds.o
   have PX:∀r,0<=(fB gone (kZ aY id j ag) j).getD r 0∧(fB gone (kZ aY id j ag) j).getD r 0<=2000000:=fun r=>by
    by_cases c:r<j
    ·rw[E5 _ _ _ _ (by rw[Ds.o];exact c),if_pos c]
     have e:(kZ aY id j ag).getD r 0=qh aY id r (ag.getD r 0) j:=by simp[kZ,c]
     have a:=Bw.o r;have d:=tO.o r;have f:=aav aY id r (ag.getD r 0) j;rw[e];omega
    ·have:(fB gone (kZ aY id j ag) j).getD r 0=0:=by simp[za,show j<=r by omega]
     rw[this];omega
   have mf:Row wr 3 1 (bo g j cap) j (ints ag):=Row.ay aeS.o ew.o.2 fun q ad e=>by
    have:q=g:=by simpa[Value.ownBlock]using ad.symm
    exact YD (e.symm.trans this)
   have Pe:=J (TB wr b j _ _ ag _ dn.o za oZ hn xK m1 m4 mf ew.o.1 tO.o PX);have dG:=J (MJ tO.o PX j);clear mf PX za aS h1 aH bd;obtain⟨h0,dM⟩:∃h0,lK ag gone j=h0:=⟨_,rfl⟩;obtain⟨z2,dK⟩:∃z2,lK ag (fB gone (kZ aY id j ag) j) j=z2:=⟨_,rfl⟩;rw[dM]at UL;rw[dK]at Pe dG;have lB:=J (⟨dM,dK⟩:_∧_);have q1:=UL.o;have dy:=dG.o;go_wp2_with fail
   refine Pe.o.mono ?_;rintro e w2 ⟨rfl,bP⟩;have bX:Hid (Row w2 3 1 (bo g4 j Ix) j (ints (fB gone (kZ aY id j ag) j))∧Touch (fun q=>q=g4) w w2):=⟨ew.o.1.below bP,ew.o.2.trans (Touch.dh bP)⟩;clear bP ew Pe;go_wp2_with fail
   go_ret;refine⟨?_,bX.o.1,bX.o.2.mono fun q _ e=>by subst e;rfl⟩;refine om ?_;first|rfl|go_num|(unfold wrap64;omega)
end Go.Proofs.YtiplgdkpnhamaaaGreatDoor
