import Derived.Test.YtiplgdkpnhamaaaGreatDoorT60
import Derived.Test.YtiplgdkpnhamaaaGreatDoorT37
import Derived.Test.YtiplgdkpnhamaaaGreatDoorT36
set_option maxHeartbeats 2000000
set_option maxRecDepth 100000
namespace Go.Proofs.YtiplgdkpnhamaaaGreatDoor.Tv
open Go.Proofs.Tryz List
open Go.RowKit
variable {full:ByteArray}{j r:Nat}{tx:Int}{u:aT}
theorem G4 {bg:dD}{w:World}{o:Nat->Tag}{t:Tag}{b n i:Nat}{d:aZ}(h:aX bg w o t b n i d):w.cell? (aa b 1)=some (I n):=by
 obtain⟨p,-,aE,st,b8,tbs,cX,av,aY,h⟩:=h;exact h.U.U.cell 1
theorem Wm (full:ByteArray)(k:Nat):(full.extract 0 k).data.toList=full.data.toList.take k:=by
 rw[F5];simp
theorem Vz (a b:ByteArray):(a++b).data.toList=a.data.toList++b.data.toList:=by simp[ByteArray.data_append]
theorem acB {t:ByteArray}{body sel:List UInt8}(bm:full.data.toList=body++sel)(h:Aa full t):∃m,fU m t.data.toList body:=by
 rcases h.2 with⟨k,hk,rfl⟩|⟨u,hu,rfl⟩
 ·rw[Wm,bm]
  by_cases c:body.length<=k
  ·refine⟨true,?_⟩
   unfold fU;rw[if_pos rfl];exact⟨sel.take (k-body.length),by rw[take_append,lQ c]⟩
  ·refine⟨false,?_⟩
   unfold fU;rw[if_neg (by simp)];refine⟨body.drop k,?_,?_⟩
   ·intro e
    have:=drop_eq_nil_iff.1 e;omega
   ·rw[take_append,show k-body.length=0 by omega,ju,qu,take_append_drop]
 ·refine⟨true,?_⟩
  unfold fU;rw[if_pos rfl,Vz,bm];exact⟨sel++u.data.toList,by rw[mN]⟩
theorem acA {t:ByteArray}{c c':UInt8}{r:List UInt8}(bm:full.data.toList=c'::r)(aA:c'≠c)(h:Aa full t):LJ c t.data.toList:=by
 rcases h.2 with⟨k,hk,rfl⟩|⟨u,hu,rfl⟩
 ·rw[Wm,bm]
  cases k with
  |zero=>exact Or.inl (by simp)
  |succ k=>exact Or.inr ⟨c',r.take k,by simp,aA⟩
 ·rw[Vz,bm]
  exact Or.inr ⟨c',r++u.data.toList,by simp,aA⟩
theorem acC {t:ByteArray}(h:Aa full t)(bm:full.size<=100000000000):t.size<=200000000000:=by
 rcases h.2 with⟨k,hk,rfl⟩|⟨u,hu,rfl⟩
 ·simp only[ByteArray.size_extract];omega
 ·rw[ByteArray.size_append]
  omega
theorem zD (l:List UInt8):(⟨l.toArray⟩:ByteArray).data.toList=l:=by simp
theorem Hp (l:List UInt8):(⟨l.toArray⟩:ByteArray).size=l.length:=by simp[ByteArray.size]
section
variable {bg:dD}{w:World}{o:Nat->Tag}{fe:Tag}{b n i:Nat}{d:aZ}{t:ByteArray}
theorem PQ (h:aX bg w o fe b n i d)(al:fI w)(hs:t.size<=200000000000)(au:LJ 115 t.data.toList):
  Calls prog 40 #[bl b,ai t] w fun e w'=>e= .returned (.tuple #[ai ⟨#[]⟩,I 6])∧ax w w':=
 PS t (G4 h) (abT w n t fun W ao=>abQ W n t hs (fun _ _ _ h=>Yn _ _ n t 115 h au) (by have:=al.room;have:=ao.size;omega))
theorem To (h:aX bg w o fe b n i d)(al:fI w)(hs:t.size<=200000000000)(au:LJ 97 t.data.toList):
  Calls prog 41 #[bl b,ai t] w (bx (I 6) fun w'=>ax w w'):=by
 refine Tp t (G4 h) fun W ao=>?_
 refine(N_ W n 0 t mi [] False fun dP ig=>(abO dP n t hs (fun _ _ _ h=>Yn _ _ n t 97 h au) (by have:=al.room;have:=ao.size;have:=ig.size;omega)).mono ?_).mono ?_
 ·rintro e w' ⟨h1,ae⟩
  exact⟨h1,Or.inr ⟨id,ae⟩⟩
 ·rintro e w' ⟨h1,⟨c,-⟩|⟨-,ae⟩⟩
  ·exact c.elim
  ·exact⟨h1,ae⟩
theorem afv (h:aX bg w o fe b n i d)(al:fI w)(af:j<n)(b2:n<=5)(l:List Int)(aC:l.length=n)(qb:∀k (hk:k<l.length),0<=l[k]∧l[k]<=lM)(hs:t.size<=200000000000)(au:Aa ⟨(nK n j l).toArray⟩ t):
  Calls prog 40 #[bl b,ai t] w (bx (.tuple #[ai ⟨#[]⟩,I 6]) fun w'=>ax w w'):=by
 obtain⟨m,hm⟩:=acB (body:=iH 115 n j l) (sel:=q4 (iH 115 n j l)) (by rw[zD];rfl) au;refine PS t (G4 h) ((abS w n j t l m b2 af aC hs hm qb al).mono ?_);rintro e w' ⟨h1,⟨c,-⟩|⟨-,ae⟩⟩
 ·refine absurd ?_ au.1
  rw[<-c,P1]
 ·exact⟨h1,ae⟩
theorem an_ (h:aX bg w o fe b n i d)(al:fI w)(af:j<n){hs:List aT}(hH:dB n hs)(fa:hs.length<=1100000)(x:dD)(v:aW)(fb:t.size<=200000000000)(au:Aa ⟨(lS n j (bJ (cb n hs)) ((fM hs x v).map cL)).toArray⟩ t):
  Calls prog 41 #[bl b,ai t] w (bx (I 6) fun w'=>ax w w'):=by
 have cT:=LU hs x v;have eK:=VN af hH fa x v;obtain⟨m,hm⟩:=acB (body:=qF n j (bJ (cb n hs)) ((fM hs x v).map cL)) (sel:=q4 (qF n j (bJ (cb n hs)) ((fM hs x v).map cL))) (by rw[zD];exact FP ..) au;refine Tp t (G4 h) fun W ao=>?_
 refine(N_ W n j t (bJ (cb n hs)) ((fM hs x v).map cL) (t.data.toList=lS n j (bJ (cb n hs)) ((fM hs x v).map cL)) fun dP ig=>?_).mono ?_
 ·have a:=abN dP n j t (bJ (cb n hs)) (Ab hs x v) (xy hs x v) m eK fb (by rw[cT];exact hm) ((al.later ao).later ig)
  rw[cT]at a;exact a
 ·rintro e w' ⟨h1,⟨c,-⟩|⟨-,ae⟩⟩
  ·refine absurd ?_ au.1
   rw[<-c,P1]
  ·exact⟨h1,ae⟩
end
def jM (n:Nat)(x:dD)(j:Nat):List Int:=(List.range n).map fun r:Nat=>(x.aY j).get r
def jj (n:Nat)(x:dD):List Int:=(List.range n).map fun r:Nat=>(x.gone r:Int)
structure rr (n:Nat)(ts:List aT)(l:fC)(hs:List aT)(x:dD)(v:aW):Prop where
 cN:l.cN<n
 df:dB n hs
 sub:∀u,u∈hs->u∈ts
 vec:l.vec=cb n hs
 sum:l.gp=false->l.text=⟨(nK n l.cN (cb n hs)).toArray⟩
 gp:l.gp=true->l.text=⟨(lS n l.cN (bJ (cb n hs)) ((fM hs x v).map cL)).toArray⟩∧l.upt=cb n hs∧l.frm.length=n∧∀r,r<n->0<=v.get r∧l.frm.getD r 0=max (v.get r) (x.gone r)
theorem rr.more {n:Nat}{ts KT:List aT}{l:fC}{hs:List aT}{x:dD}{v:aW}(h:rr n ts l hs x v)(hm:∀u,u∈ts->u∈KT):rr n KT l hs x v:=⟨h.cN,h.df,fun u hu=>hm u (h.sub u hu),h.vec,h.sum,h.gp⟩
def Us (n:Nat)(ts:List aT)(X:Nat->dD)(i:Nat)(d:aZ)(l:fC)(x:dD)(T:ByteArray):Prop:=∃hs c8 v,rr n ts l hs c8 v∧x=oK (X i) l.cN (bJ (cb n hs))∧T=⟨(lS n i (bJ (cb n d.hs)) ((fM d.hs (X i) (bJ (cb n hs))).map cL)).toArray⟩
def Vo (n:Nat)(ts:List aT)(X:Nat->dD)(i:Nat)(d:aZ)(l:fC)(d':aZ)(x:dD):Prop:=∃hs c8 v,rr n ts l hs c8 v∧l.gp=true∧x=oK (X i) l.cN (bJ (cb n hs))∧xr d (fM hs c8 v) d'
theorem TU (n j:Nat)(l:List Int):∃r,nK n j l=115::r:=⟨_,rfl⟩
theorem PO (n j:Nat)(v:aW)(l:List dt):∃r,lS n j v l=97::r:=⟨_,rfl⟩
theorem ah5 {l:List Int}{n:Nat}(h:l.length=n)(aJ:¬r<n):l.getD r 0=0:=by simp[show l.length<=r by omega]
section
variable {n:Nat}{ts hs:List aT}{l:fC}{x:dD}{v:aW}
theorem rr.Ww (h:rr n ts l hs x v)(aU:l.gp=true){q:Int}(aq:o7 n l.frm l.upt r q):∃u,u∈fM hs x v∧u.rep=(r:Int)∧u.seq=q:=by
 obtain⟨-,ba,ey,hB⟩:=h.gp aU;obtain⟨aJ,h1,ae⟩:=aq;obtain⟨av,e⟩:=hB r aJ;rw[e]at h1;rw[ba,k2 aJ]at ae;have cS:=h.df.n5;exact VQ h.df x v (by omega) (by omega) ae
theorem rr.ak8 (h:rr n ts l hs x v)(aU:l.gp=true)(hu:u∈fM hs x v):o7 n l.frm l.upt u.rep.toNat u.seq:=by
 obtain⟨-,ba,ey,hB⟩:=h.gp aU;have hm:=qI hu;obtain⟨a,qP,e⟩:=fQ.1 hm;have aJ:u.rep.toNat<n:=by have:=(h.df.tx a qP).vw;rw[e]at this;exact this
 obtain⟨av,gS⟩:=hB _ aJ;have h1:=(VP h.df x v hu).2;refine⟨aJ,by rw[gS];omega,?_⟩;rw[ba,k2 aJ];exact(h.df.Ou hm).2
theorem an9 (aD:dB n ts)(h:rr n ts l hs x v)(aU:l.gp=true){d d':aZ}(av:d.ag.length=n)(bI:xr d (fM hs x v) d'){cur:List Int}(aA:cur.length=n)(uv:Reach (o7 n l.frm l.upt) (tB ts) (mV d.ag) (mV cur))(a1:∀r,¬sW (o7 n l.frm l.upt) (tB ts) (mV cur) r):d'.ag=cur∧d'.bH=d.bH:=by
 have kD:∀u,u∈fM hs x v->u∈ts:=fun u hu=>h.sub u (qI hu)
 obtain⟨h1,ae⟩:=bI.stuck aD av kD;have wz:∀u,u∈Classical.choose bI->u∈fM hs x v:=fun u hu=>(Classical.choose_spec bI).2.1.mem_iff.1 hu
 have jY:d'.ag.length=n:=by
  obtain⟨iE,rfl,-,-⟩:=bI;rw[abq];exact av
 have cB:Reach (o7 n l.frm l.upt) (tB ts) (mV d.ag) (yi d'):=h1.reach (fun a qP=>by
  obtain⟨u,hu,rfl⟩:=gF.1 qP;exact h.ak8 aU (wz u hu)) .refl
 have s1:∀r,¬sW (o7 n l.frm l.upt) (tB ts) (yi d') r:=fun r aC=>by
  obtain⟨u,hu,aP,ba⟩:=h.Ww aU aC.1;have ey:u.rep.toNat=r:=by rw[aP];simp
  have bm:=ae u hu;obtain⟨a,qP,e⟩:=fQ.1 (kD u hu);have hk:=aD.tx a qP;rw[e]at hk;have cS:=aD.n5;have X7:uV d' u=true:=(Iw (by have:=hk.saw.len;omega) (by omega)).2 ⟨by rw[ey,ba];rfl,fun k=>by
   have:=aC.2 k;have gS:=TH aD (kD u hu) k;rw[ey,ba]at gS;rw[<-gS];exact this⟩
  rw[bm]at X7;cases X7
 have e:=Reach.same cB s1 uv a1;refine⟨yp (by omega) fun k cI dq=>?_,bI.more.2.1⟩;have ahm:=congrFun e k;have cO:yi d' k=d'.ag[k]:=by simp[yi,cI]
 have a2:mV cur k=cur[k]:=by simp[mV,dq]
 rw[<-cO,<-a2];exact ahm
end
theorem afu {n:Nat}{hs us:List aT}(h:dB n hs)(fa:hs.length<=1100000)(af:j<n)(hu:∀u,u∈us->u∈hs)(aC:us.length<=5*hs.length):(lS n j (bJ (cb n hs)) (us.map cL)).length<=100000000000:=by
 have b2:=h.n5;have hp:∀k,k∈(bJ (cb n hs)).list-> -9223372036854775808<=k∧k<=9223372036854775807:=fun k hk=>by
  obtain⟨r,aJ,rfl⟩:=C7 hk;rw[pS (by rw[kH];exact b2),kL];have:=qL hs r;by_cases c:r<n
  ·rw[k2 c];omega
  ·rw[uB (by omega)];omega
 have qV:∀t,t∈us.map cL->t.rep<5:=fun t al=>by
  obtain⟨u,iS,rfl⟩:=gF.1 al;exact(OC h fa (hu u iS)).rep
 have si:∀k,k∈(la (us.map cL)).list-> -9223372036854775808<=k∧k<=9223372036854775807:=fun k hk=>by
  obtain⟨r,aJ,rfl⟩:=C7 hk;have:=L_ (us.map cL) qV r;rw[mO]at this;omega
 have h1:=yh hp (k:=n) b2;have ae:=yh si (k:=n) b2;have aH:=qi (k:=(n:Int)) (by omega) (by omega);have bd:=qi (k:=(j:Int)) (by omega) (by omega);have cS:=T1 h fa hu;have p7:(qF n j (bJ (cb n hs)) (us.map cL)).length=(ec n).length+((ec j).length+(eZ ((bJ (cb n hs)).list.take n)).length)+1+((eZ ((la (us.map cL)).list.take n)).length+(hJ n (us.map cL)).length):=by simp[qF,iH];omega
 rw[FP,eN];have ep:=On (qF n j (bJ (cb n hs)) (us.map cL));omega
theorem Uc {n:Nat}{hs:List aT}(fa:hs.length<=1100000)(r:Nat):0<=(cb n hs).getD r 0∧(cb n hs).getD r 0<=2000000:=by
 by_cases c:r<n
 ·rw[k2 c]
  have:=qL hs r;omega
 ·rw[uB (by omega)]
  omega
theorem aX.later {bg:dD}{w w':World}{o:Nat->Tag}{t:Tag}{b n i:Nat}{d:aZ}(h:aX bg w o t b n i d)(ao:ax w w'):aX bg w' o t b n i d:=h.move fun q ad e=>⟨ao.block q ad,e⟩
theorem aqn {n s aj:Nat}{ts:List aT}{X:Nat->dD}{w:World}{aI:List Nat}{a7:List aZ}{L:List fC}{p:gw}(aD:dB n ts)(bm:ts.length<=1100000)(al:fI w)(cy:∀(i:Nat) (d:aZ),a7[i]?=some d->d.ag=cb n d.hs∧dB n d.hs∧∀u,u∈d.hs->u∈ts)(cT:∀l,l∈L->∃hs x v,rr n ts l hs x v)(aw:p.Ok)(uj: -9223372036854775808<=p.c)(Jl:p.c<=9223372036854775807)(rL:p.text.size<=1000000000):
  Vs aX X w s aj n aI a7 ts L p (Us n ts X) (Vo n ts X) (tB ts):=by
 have b2:=aD.n5;have ea:∀{hs:List aT},dB n hs->(∀u,u∈hs->u∈ts)->hs.length<=1100000:=fun h1 ae=>fx (h1.ea ae) bm
 have dl:∀{i:Nat} {d:aZ},a7[i]?=some d->d.hs.length<=1100000:=fun h=>ea (cy _ _ h).2.1 (cy _ _ h).2.2
 refine⟨fun l aC=>?_,fun l aC aU=>?_,fun u hu k=>TH aD hu k,fun i d aB r=>?_,fun i b d l W iK aq aB hb aC aU ep cu ha=>?_,fun i b d l W iK aq aB hb aC aU ep ha=>?_,fun i b d l W iK aq aB hb aC aU ep ha=>?_,fun i b d l W iK aq aB hb aC aU ep ha=>?_,fun i d l d' x cur aB aC bI aA uv a1=>?_,fun i b d l W iK aq aB hb aC ep ha=>?_⟩
 ·obtain⟨hs,x,v,h⟩:=cT l aC
  exact⟨h.cN,by rw[h.vec,kH]⟩
 ·obtain⟨hs,x,v,h⟩:=cT l aC
  obtain⟨-,ba,ey,hB⟩:=h.gp aU;refine⟨ey,by rw[ba,kH],fun r=>by rw[ba];exact(Uc (ea h.df h.sub) r).2,fun r=>?_,fun r q aq=>?_⟩
  ·by_cases c:r<n
   ·obtain⟨a,e⟩:=hB r c
    rw[e];omega
   ·rw[ah5 ey c];exact re _
  ·obtain⟨u,hu,gS,BW⟩:=h.Ww aU aq
   exact⟨u,h.sub u (qI hu),yu ⟨gS,BW⟩⟩
 ·rw[(cy i d aB).1]
  exact Uc (dl aB) r
 ·obtain⟨hs,x,v,h⟩:=cT l aC
  rw[h.sum aU];refine(afx ha (dl aB) h.cN (ea h.df h.sub) (al.kept ep) cu).mono ?_;rintro e w' ⟨rfl,o',h1,ae⟩;exact⟨_,_,o',⟨hs,x,v,h,rfl,rfl⟩,rfl,h1,ae⟩
 ·obtain⟨hs,x,v,h⟩:=cT l aC
  obtain⟨aP,-⟩:=h.gp aU;obtain⟨r,fl⟩:=PO n l.cN (bJ (cb n hs)) ((fM hs x v).map cL);refine PQ ha (al.kept ep) ?_ (Or.inr ⟨97,r,by rw[aP,zD,fl],by decide⟩);rw[aP,Hp];exact PR h.df (ea h.df h.sub) h.cN (fun _ hu=>qI hu) (L1 hs x v)
 ·obtain⟨hs,x,v,h⟩:=cT l aC
  obtain⟨aP,-⟩:=h.gp aU;rw[aP];refine(aob ha aD (cy i d aB).2.2 h.df h.sub x v bm h.cN (al.kept ep)).mono ?_;rintro e w' ⟨rfl,o',d',h1,ae,aH⟩;exact⟨d',_,o',⟨hs,x,v,h,aU,rfl,aH⟩,rfl,h1,ae⟩
 ·obtain⟨hs,x,v,h⟩:=cT l aC
  obtain⟨r,fl⟩:=TU n l.cN (cb n hs);refine To ha (al.kept ep) ?_ (Or.inr ⟨115,r,by rw[h.sum aU,zD,fl],by decide⟩);rw[h.sum aU,Hp];have:=Oz (j:=l.cN) b2 h.cN (kH n hs) fun k hk=>by
   obtain⟨r,aJ,rfl⟩:=fQ.1 hk;have a:=KX (n:=n) (ea h.df h.sub) r aJ;unfold lM at a;omega
  omega
 ·obtain⟨hs,c8,v,h,aU,-,aJ⟩:=bI
  exact an9 aD h aU (by rw[(cy i d aB).1,kH]) aJ aA uv a1
 ·obtain⟨hs,x,v,h⟩:=cT l aC
  have fa:=ea h.df h.sub;have fb:l.text.size<=100000000000:=by
   cases aU:l.gp
   ·rw[h.sum aU,Hp]
    have:=Oz (j:=l.cN) b2 h.cN (kH n hs) fun k hk=>by
     obtain⟨r,aJ,rfl⟩:=fQ.1 hk;have a:=KX (n:=n) fa r aJ;unfold lM at a;omega
    omega
   ·rw[(h.gp aU).1,Hp]
    exact afu h.df fa h.cN (fun _ hu=>qI hu) (L1 hs x v)
  refine apb W aj b l l.bD l.lh l.aG p aw uj Jl (by omega) rL (fun t dP oH ao=>?_) (fun t dP oH ao=>?_)
  ·have mc:=acC oH fb
   cases aU:l.gp
   ·refine afv (ha.later ao) ((al.kept ep).later ao) h.cN b2 (cb n hs) (kH n hs) (KX fa) mc ?_
    rw[<-h.sum aU];exact oH
   ·obtain⟨r,fl⟩:=PO n l.cN (bJ (cb n hs)) ((fM hs x v).map cL)
    exact PQ (ha.later ao) ((al.kept ep).later ao) mc (acA (c':=97) (r:=r) (by rw[(h.gp aU).1,zD,fl]) (by decide) oH)
  ·have mc:=acC oH fb
   cases aU:l.gp
   ·obtain⟨r,fl⟩:=TU n l.cN (cb n hs)
    exact To (ha.later ao) ((al.kept ep).later ao) mc (acA (c':=115) (r:=r) (by rw[h.sum aU,zD,fl]) (by decide) oH)
   ·refine an_ (ha.later ao) ((al.kept ep).later ao) h.cN h.df fa x v mc ?_
    rw[<-(h.gp aU).1];exact oH
theorem dB.uniq {n:Nat}{ts:List aT}(h:dB n ts):ts.Pairwise fun u v=>¬(u.rep=v.rep∧u.seq=v.seq):=by
 rw[vD];intro i j aq af l6 e;have:=h.inj aq af e.1 e.2;omega
theorem dB.nodup {n:Nat}{ts:List aT}(h:dB n ts):ts.Nodup:=by
 refine List.Pairwise.imp ?_ h.uniq;intro a b jy e;subst e;exact jy ⟨rfl,rfl⟩
theorem acg {n:Nat}{ts hs:List aT}(aD:dB n ts)(hH:dB n hs)(hm:∀v,v∈hs->v∈ts)(hu:u∈ts):fc (cb n hs) u.rep u.seq=true↔u∈hs:=by
 rw[aaH aD hH hm hu,Hb];obtain⟨j,af,e⟩:=getElem_of_mem hu;have:=aD.tx j af;rw[e]at this;rw[k2 this.vw]
theorem ank {n:Nat}{ts hs:List aT}(aD:dB n ts)(hH:dB n hs)(hm:∀v,v∈hs->v∈ts):hs.Perm (ts.filter fun u=>fc (cb n hs) u.rep u.seq):=by
 rw[perm_ext_iff_of_nodup hH.nodup (List.Pairwise.filter _ aD.nodup)];intro u;rw[ra];constructor
 ·exact fun h=>⟨hm u h,(acg aD hH hm (hm u h)).2 h⟩
 ·exact fun⟨h1,ae⟩=>(acg aD hH hm h1).1 ae
theorem apL {n:Nat}{ts hs:List aT}(aD:dB n ts)(hH:dB n hs)(hm:∀v,v∈hs->v∈ts){t:aT}(al:∀r,0<=t.saw.getD r 0∧t.saw.getD r 0<=(cb n hs).getD r 0)(key:ByteArray):fu (some t) key hs n=fu (some t) key ts n:=
 an5 (ank aD hH hm) al aD.uniq fun r aJ s gj=>by
  rw[k2 aJ]at gj;obtain⟨u,h1,ae,aH⟩:=hH.has (r:=r) (s:=s+1) (by omega) gj;exact⟨u,hm u h1,by unfold kY;rw[ae,aH];simp⟩
theorem an4 {n:Nat}{hs:List aT}(h:dB n hs)(aC:hs.length<=1100000){t:aT}(al:∀r,t.saw.getD r 0<=1100000)(nt:t.ops.length<=16)(key:ByteArray):(fu (some t) key hs n).2.1.length<=100000000:=by
 have hn:=h.n5;simp only[fu];split
 ·simp
 ·split
  ·cases dR key cK t.ops with
   |some o=>simp
   |none=>
    have:=abY t.saw key hs al n;show(lr t.saw key hs n).length<=100000000
    omega
  ·split
   ·have b:=ack t.saw key hs fun u hu=>by
     obtain⟨j,af,e⟩:=getElem_of_mem hu;have:=(h.tx j af).ops.ea;rwa [e]at this
    have c:=Z_ key t.ops (setOf t.saw key hs) [];have e:=Z1 key t.ops (lG key t.ops) ((setOf t.saw key hs).foldl (qZ key t.ops) []);have f:=IG key t.ops;simp only[w3]at c;show(uy key t.ops (setOf t.saw key hs)).length<=100000000
    unfold uy;omega
   ·simp
theorem adn {n:Nat}{hs:List aT}(aC:hs.length<=1100000)(r:Nat):(cb n hs).getD r 0<=1100000:=by
 by_cases c:r<n
 ·rw[k2 c];have:=qL hs r;omega
 ·rw[uB (by omega)];omega
structure r7 (n:Nat)(a7:List aZ)(ts:List aT)(L:List fC):Prop where
 df:dB n ts
 len:a7.length=n
 sub:∀(i:Nat) (d:aZ),a7[i]?=some d->∀u,u∈d.hs->u∈ts
 own:∀(i:Nat) (d:aZ),a7[i]?=some d->e1 ts i=e1 d.hs i
 lets:∀l,l∈L->∃hs x v,rr n ts l hs x v
section
variable {n i:Nat}{a7:List aZ}{ts:List aT}{L:List fC}{d d':aZ}
theorem Hc {k:Nat}{e:aZ}(h:(a7.set i d')[k]?=some e):(k=i∧e=d')∨(k≠i∧a7[k]?=some e):=by
 rw[Bm]at h;by_cases c:i=k
 ·rw[if_pos c]at h
  split at h
  ·cases h;exact Or.inl ⟨c.symm,rfl⟩
  ·cases h
 ·rw[if_neg c]at h;exact Or.inr ⟨fun e=>c e.symm,h⟩
theorem r7.init (hn:n<=5):r7 n (replicate n (pd n)) [] []:=by
 have e:∀(i:Nat) (d:aZ),(replicate n (pd n))[i]?=some d->d=pd n:=fun i d h=>by
  rw[getElem?_replicate]at h;split at h
  ·cases h;rfl
  ·cases h
 exact⟨⟨hn,fun j af=>by simp at af⟩,by simp,fun i d h u hu=>(by rw[e i d h]at hu;cases hu),fun i d h=>(by rw[e i d h];rfl),fun l aC=>by cases aC⟩
theorem r7.still (h:r7 n a7 ts L)(aB:a7[i]?=some d)(he:d'.hs=d.hs):r7 n (a7.set i d') ts L:=
 ⟨h.df,by rw[k5];exact h.len,fun k e hk=>by
  rcases Hc hk with⟨rfl,rfl⟩|⟨-,hk⟩
  ·rw[he];exact h.sub k d aB
  ·exact h.sub k e hk,fun k e hk=>by
  rcases Hc hk with⟨rfl,rfl⟩|⟨-,hk⟩
  ·rw[he];exact h.own k d aB
  ·exact h.own k e hk,h.lets⟩
theorem r7.letter (h:r7 n a7 ts L){l:fC}(aC:∃hs x v,rr n ts l hs x v):r7 n a7 ts (L++[l]):=
 ⟨h.df,h.len,h.sub,h.own,fun k hk=>by
  rcases hT.1 hk with hk|hk
  ·exact h.lets k hk
  ·rw[k4.1 hk];exact aC⟩
theorem r7.heard (h:r7 n a7 ts L)(aB:a7[i]?=some d)(hH:dB n d'.hs)(l_:∀u,u∈d'.hs->u∈ts)(aA:∀r,e1 d.hs r<=e1 d'.hs r):r7 n (a7.set i d') ts L:=
 ⟨h.df,by rw[k5];exact h.len,fun k e hk=>by
  rcases Hc hk with⟨rfl,rfl⟩|⟨-,hk⟩
  ·exact l_
  ·exact h.sub k e hk,fun k e hk=>by
  rcases Hc hk with⟨rfl,rfl⟩|⟨-,hk⟩
  ·have:=V_ h.df hH l_ k
   have:=aA k;have:=h.own k d aB;omega
  ·exact h.own k e hk,h.lets⟩
theorem r7.more (h:r7 n a7 ts L)(aB:a7[i]?=some d)(he:d'.hs=d.hs++[u])(aJ:u.rep=i)(cy:dB n d.hs)(hH:dB n d'.hs):r7 n (a7.set i d') (ts++[u]) L:=by
 have hL:oO n d.hs u:=by
  rw[he]at hH;have:=hH.tx d.hs.length (by simp);rwa [take_left' rfl,Fj cv,getElem_singleton]at this
 have su:u.rep.toNat=i:=by omega
 have hn:oO n ts u:=by
  refine⟨hL.eE,hL.hQ,?_,⟨hL.saw.len,hL.saw.pos,fun r=>?_,fun v av hs r=>?_⟩,hL.ops,hL.one⟩
  ·have:=hL.seq
   rw[su]at this⊢;rw[this,h.own i d aB]
  ·have:=hL.saw.le r
   have:=V_ h.df cy (h.sub i d aB) r;omega
  ·refine hL.saw.L5 v ?_ hs r
   rw[aaH h.df cy (h.sub i d aB) av];exact vC (Hb.1 hs) (hL.saw.le _)
 refine⟨h.df.snoc hn,by rw[k5];exact h.len,fun k e hk v av=>?_,fun k e hk=>?_,fun l aC=>?_⟩
 ·rcases Hc hk with⟨rfl,rfl⟩|⟨-,hk⟩
  ·rw[he]at av
   rcases hT.1 av with av|av
   ·simp[h.sub k d aB v av]
   ·simp[k4.1 av]
  ·simp[h.sub k e hk v av]
 ·rcases Hc hk with⟨rfl,rfl⟩|⟨c,hk⟩
  ·rw[he,DP,DP,h.own k d aB]
  ·rw[DP,if_neg (by omega)];exact h.own k e hk
 ·obtain⟨hs,x,v,hw⟩:=h.lets l aC
  exact⟨hs,x,v,hw.more fun u hu=>by simp[hu]⟩
end
theorem aX.open_ {bg:dD}{w:World}{o:Nat->Tag}{t:Tag}{b n i:Nat}{d:aZ}(h:aX bg w o t b n i d)(hu:du d tx=some u):xu n d.hs u:=by
 obtain⟨p,h1,aE,st,b8,tbs,cX,av,aY,ae⟩:=h;unfold du at hu;split at hu
 ·exact(ae.ok.bH _ u hu).1
 ·cases hu
theorem xu.Om {n:Nat}{hs:List aT}{t:aT}(h:xu n hs t)(r:Nat):0<=t.saw.getD r 0∧t.saw.getD r 0<=(cb n hs).getD r 0:=by
 obtain⟨T,aD,e⟩:=h.saw;rw[e];by_cases c:r<n
 ·rw[k2 c,k2 c]
  have:=IA hs (T:=T) r;omega
 ·rw[uB (by omega),uB (by omega)];omega
section
variable {bg:dD}{w:World}{o:Nat->Tag}{fe:Tag}{b n i:Nat}{d:aZ}{ts:List aT}
theorem anu (h:aX bg w o fe b n i d)(aC:d.hs.length<=1100000):Room d:=by
 refine⟨aC,fun j af=>?_⟩;have av:=h.df.2.1;have mF:j<(cb n d.hs).length:=by rw[<-av];exact af
 have ti:j<n:=by rwa [kH]at mF
 have e:d.ag[j]=(cb n d.hs)[j]:=by simp only[av]
 have h1:=k2 (hs:=d.hs) ti;rw[tL,hg mF]at h1;have ae:(cb n d.hs)[j]=e1 d.hs j:=h1;have:=qL d.hs j;rw[e,ae];omega
theorem ans (h:aX bg w o fe b n i d)(aD:dB n ts)(hm:∀u,u∈d.hs->u∈ts)(tx:Int)(key:ByteArray):fu (du d tx) key d.hs n=fu (du d tx) key ts n:=by
 cases e:du d tx with
 |none=>rfl
 |some t=>exact apL aD h.df.1 hm (h.open_ e).Om key
theorem ant (h:aX bg w o fe b n i d)(aD:dB n ts)(hm:∀u,u∈d.hs->u∈ts)(aC:ts.length<=1100000)(tx:Int)(key:ByteArray):(fu (du d tx) key ts n).2.1.length<=100000000:=by
 cases e:du d tx with
 |none=>simp[fu]
 |some t=>
  have al:=h.open_ e;refine an4 aD aC (fun r=>?_) al.ops.ea key;exact vC (al.Om r).2 (adn (fx (h.df.1.ea hm) aC) r)
theorem anv (h:aX bg w o fe b n i d)(hm:∀u,u∈d.hs->u∈ts)(aC:d.hs.length<=1100000){t:aT}(e:du d tx=some t):DJ t ts:=by
 have al:=h.open_ e;have aM:∀r (aJ:r<t.saw.length),t.saw.getD r 0=t.saw[r]:=fun r aJ=>by simp[aJ]
 have o3:t.saw.length=n:=by
  obtain⟨T,aD,e⟩:=al.saw;rw[e,kH]
 refine⟨fun r aJ=>?_,fun r aJ s hs=>?_⟩
 ·have b:=al.Om r
  have c:=adn (n:=n) aC r;rw[aM r aJ]at b;omega
 ·have b:=al.Om r
  rw[aM r aJ,k2 (by omega)]at b;obtain⟨u,h1,ae,aH⟩:=h.df.1.has (r:=r) (s:=s+1) (by omega) (by omega);exact⟨u,hm u h1,by unfold kY;rw[ae,aH];simp⟩
end
theorem zk {s:Nat}{w w':World}{o o':Nat->Tag}(h:∀q,q<6->q<w.heap.size∧¬hq s (o q))(k:dS (hq s) w o w' o'):(∀q,q<6->q<w'.heap.size∧¬hq s (o' q))∧∀q,q<6->w'.heap[q]?=w.heap[q]?:=by
 have hs:=k.ay.size;refine⟨fun q ad=>?_,fun q ad=>(k.at (h q ad).1 (h q ad).2).1⟩;obtain⟨h1,ae⟩:=h q ad;exact⟨by omega,by rw[(k.at h1 ae).2];exact ae⟩
structure rq (s aj az n:Nat)(aI ak:List Nat)(K:Nat)(w:World)(o:Nat->Tag)(a6 a8 aG aK aN ah:Value)(ar:Int)(m:iM)(a7:List aZ)(ts:List aT)(X:Nat->dD)(L:List fC):Prop where
 law:cU (qC aX X) (fun i=>jM n (X i)) (fun i=>jj n (X i)) w o s aj az n aI ak a6 a8 aG aK aN ah ar m a7 a7 ts
 ways:ru w o s n a8 L
 plain:r7 n a7 ts L
 ke:fI w
 low:∀q,q<6->q<w.heap.size∧¬hq s (o q)
 al:ts.length<=K
 aC:L.length<=K
def pr (s aj az n:Nat)(aI ak:List Nat)(aG aK aN ah:Value)(ar:Int)(m:iM)(K:Nat)(w:World)(o:Nat->Tag):Prop:=∃a6 a8 a7 ts X L,rq s aj az n aI ak K w o a6 a8 aG aK aN ah ar m a7 ts X L
structure rm (p:gw):Prop where
 ok:p.Ok
 dc: -9223372036854775808<=p.b
 bT:p.b<=9223372036854775807
 c0: -9223372036854775808<=p.c
 c1:p.c<=9223372036854775807
 ea:p.text.size<=1000000000
section
variable {s aj az n:Nat}{aI ak:List Nat}{K:Nat}{w w':World}{o o':Nat->Tag}{a6 a8 aG aK aN ah lx lo lp iC:Value}{ar kz:Int}{m m':iM}{a7:List aZ}{ts:List aT}{X:Nat->dD}{L:List fC}
theorem rq.eQ (h:rq s aj az n aI ak K w o a6 a8 aG aK aN ah ar m a7 ts X L){i:Nat}{d:aZ}(aB:a7[i]?=some d):∃b,aX (X i) w o (s+1,i,0) b n i d:=by
 obtain⟨aC,rfl⟩:=w8.1 aB;exact⟨_,h.law.prog i (by have:=h.law.qM;omega)⟩
theorem rq.ea (h:rq s aj az n aI ak K w o a6 a8 aG aK aN ah ar m a7 ts X L){i:Nat}{d:aZ}(aB:a7[i]?=some d):d.hs.length<=ts.length:=by
 obtain⟨b,aw⟩:=h.eQ aB;exact aw.df.1.ea (h.plain.sub i d aB)
theorem rq.room (h:rq s aj az n aI ak K w o a6 a8 aG aK aN ah ar m a7 ts X L)(cx:K<=1050000):∀d,d∈a7->Room d:=fun d aB=>by
 obtain⟨i,aq,rfl⟩:=fQ.1 aB;obtain⟨b,aw⟩:=h.eQ (hg aq);exact anu aw (by have:=h.ea (hg aq);have:=h.al;omega)
theorem rq.still (h:rq s aj az n aI ak K w o a6 a8 aG aK aN ah ar m a7 ts X L){i:Nat}{d d':aZ}(aB:a7[i]?=some d)(he:d'.hs=d.hs)(H:cU (qC aX X) (fun i=>jM n (X i)) (fun i=>jj n (X i)) w' o' s aj az n aI ak a6 a8 aG aK aN ah ar m (a7.set i d') (a7.set i d') ts)(M:dS (fN s) w o w' o'):pr s aj az n aI ak aG aK aN ah ar m (K+1) w' o':=by
 obtain⟨eF,dY⟩:=zk h.low (M.mono fun _=>x5);have:=h.al;have:=h.aC;exact⟨a6,a8,_,ts,X,L,H,h.ways.law M,h.plain.still aB he,h.ke.kept dY,eF,by omega,by omega⟩
theorem rq.told (h:rq s aj az n aI ak K w o a6 a8 aG aK aN ah ar m a7 ts X L)(H:cU (qC aX X) (fun i=>jM n (X i)) (fun i=>jj n (X i)) w' o' s aj az n aI ak a6 a8 lx lo lp iC kz m' a7 a7 ts)(M:dS (fN s) w o w' o'):pr s aj az n aI ak lx lo lp iC kz m' (K+1) w' o':=by
 obtain⟨eF,dY⟩:=zk h.low (M.mono fun _=>x5);have:=h.al;have:=h.aC;exact⟨a6,a8,_,ts,X,L,H,h.ways.law M,h.plain,h.ke.kept dY,eF,by omega,by omega⟩
theorem pr.new (h:pr s aj az n aI ak aG aK aN ah ar m K w o)(bE:Obj)(t:Tag):pr s aj az n aI ak aG aK aN ah ar m K (w.alloc bE) (ee o w.heap.size t):=by
 obtain⟨a6,a8,a7,ts,X,L,h⟩:=h;have M:=tw (B:=fun _=>False) w o bE t;obtain⟨eF,dY⟩:=zk h.low (M.mono fun _=>False.elim);exact⟨a6,a8,a7,ts,X,L,h.law.new (pN X) bE t,h.ways.da M fun _ _ _ _=>id,h.plain,h.ke.kept dY,eF,h.al,h.aC⟩
theorem pr.more (h:pr s aj az n aI ak aG aK aN ah ar m K w o):pr s aj az n aI ak aG aK aN ah ar m (K+1) w o:=by
 obtain⟨a6,a8,a7,ts,X,L,h⟩:=h;have:=h.al;have:=h.aC;exact⟨a6,a8,a7,ts,X,L,h.law,h.ways,h.plain,h.ke,h.low,by omega,by omega⟩
end
theorem af0 (d:aZ):(pt d).hs=d.hs:=by unfold pt;split<;>rfl
theorem aan (w:World)(o:Nat->Tag)(s aj az n:Nat)(aI ak:List Nat)(aG aK aN ah:Value)(ar:Int)(m:iM)(K:Nat)(p:gw)(aw:p.Ok)(hk:1<=p.kind∧p.kind<=8∧p.kind≠6)
  (h:pr s aj az n aI ak aG aK aN ah ar m K w o)(hn:0<n)(b2:n<=5)(cx:K<=1050000):
  Calls prog 52 #[ptr aj,p.agg] w (bx (.bool true) fun w'=>∃o',pr s aj az n aI ak aG aK aN ah ar m (K+1) w' o'∧dS (fN s) w o w' o'):=by
 obtain⟨a6,a8,a7,ts,X,L,H⟩:=h;have iR:=H.room cx;have P:=pN X;have al:=H.al;have Q3:p.kind=1∨p.kind=2∨p.kind=3∨p.kind=4∨p.kind=5∨p.kind=7∨p.kind=8:=by omega
 rcases Q3 with e|e|e|e|e|e|e
 ·refine(apR _ _ _ P w o s aj az n aI ak a6 a8 aG aK aN ah ar m a7 ts p aw e H.law hn b2 iR).mono ?_
  rintro dI w' ⟨rfl,o',i,d,aq,aB,eg,M⟩;exact⟨rfl,o',H.still aB (af0 d) eg M,M⟩
 ·refine(OD _ _ _ P w o s aj az n aI ak a6 a8 aG aK aN ah ar m a7 ts p 1 aw (Or.inl ⟨e,rfl⟩) H.law hn b2 iR).mono ?_
  rintro dI w' ⟨rfl,o',i,d,aq,aB,eg,M⟩;exact⟨rfl,o',H.still aB (Mj d _ _) eg M,M⟩
 ·refine(OD _ _ _ P w o s aj az n aI ak a6 a8 aG aK aN ah ar m a7 ts p 2 aw (Or.inr (Or.inl ⟨e,rfl⟩)) H.law hn b2 iR).mono ?_
  rintro dI w' ⟨rfl,o',i,d,aq,aB,eg,M⟩;exact⟨rfl,o',H.still aB (Mj d _ _) eg M,M⟩
 ·refine(OD _ _ _ P w o s aj az n aI ak a6 a8 aG aK aN ah ar m a7 ts p 3 aw (Or.inr (Or.inr (Or.inl ⟨e,rfl⟩))) H.law hn b2 iR).mono ?_
  rintro dI w' ⟨rfl,o',i,d,aq,aB,eg,M⟩;exact⟨rfl,o',H.still aB (Mj d _ _) eg M,M⟩
 ·refine(OD _ _ _ P w o s aj az n aI ak a6 a8 aG aK aN ah ar m a7 ts p 4 aw (Or.inr (Or.inr (Or.inr ⟨e,rfl⟩))) H.law hn b2 iR).mono ?_
  rintro dI w' ⟨rfl,o',i,d,aq,aB,eg,M⟩;exact⟨rfl,o',H.still aB (Mj d _ _) eg M,M⟩
 ·refine(apS _ _ _ P w o s aj az n aI ak a6 a8 aG aK aN ah ar m a7 ts p aw e H.law hn b2 iR (by omega)).mono ?_
  rintro dI w' ⟨rfl,o',i,d,aq,aB,eg,M⟩;refine⟨rfl,o',?_,M⟩;unfold Go.Proofs.YtiplgdkpnhamaaaGreatDoor.Ai p4 at eg;cases v8:du d p.b with
  |none=>
   simp only[v8]at eg;exact H.still aB rfl eg M
  |some t=>
   simp only[v8]at eg;by_cases Mg:t.ops.length=0
   ·rw[if_pos Mg,if_pos Mg]at eg
    exact H.still aB (d':=II d p.b) rfl eg M
   ·rw[if_neg Mg,if_neg Mg]at eg
    obtain⟨eF,dY⟩:=zk H.low (M.mono fun _=>x5);have aC:=H.aC;obtain⟨b,aw⟩:=H.eQ aB;obtain⟨th,-⟩:=w8.1 aB;have uo:=eg.prog i aq;rw[w_]at uo;exact⟨a6,a8,_,_,X,L,eg,H.ways.law M,H.plain.more aB rfl rfl aw.df.1 (aX.df uo).1,H.ke.kept dY,eF,by simp;omega,by omega⟩
 ·refine(apQ _ _ _ P w o s aj az n aI ak a6 a8 aG aK aN ah ar m a7 ts p aw e H.law hn b2 iR).mono ?_
  rintro dI w' ⟨rfl,o',i,d,aq,aB,eg,M⟩;exact⟨rfl,o',H.still aB (afk d _) eg M,M⟩
section
variable {s aj az n:Nat}{aI ak:List Nat}{K:Nat}{w:World}{o:Nat->Tag}{a6 a8 aG aK aN ah:Value}{ar:Int}{m:iM}{a7:List aZ}{ts:List aT}{X:Nat->dD}{L:List fC}
theorem rq.agree (H:rq s aj az n aI ak K w o a6 a8 aG aK aN ah ar m a7 ts X L)(b:Int)(key:ByteArray):∀d,d∈a7->fu (du d b) key d.hs n=fu (du d b) key ts n:=by
 intro d aB;obtain⟨i,aq,rfl⟩:=fQ.1 aB;obtain⟨b,aw⟩:=H.eQ (hg aq);exact ans aw H.plain.df (H.plain.sub i _ (hg aq)) _ _
theorem rq.short (H:rq s aj az n aI ak K w o a6 a8 aG aK aN ah ar m a7 ts X L)(cx:K<=1050000)(b:Int)(key:ByteArray):∀d,d∈a7->(fu (du d b) key ts n).2.1.length<=100000000:=by
 intro d aB;have al:=H.al;obtain⟨i,aq,rfl⟩:=fQ.1 aB;obtain⟨b,aw⟩:=H.eQ (hg aq);exact ant aw H.plain.df (H.plain.sub i _ (hg aq)) (by omega) _ _
theorem rq.ace (H:rq s aj az n aI ak K w o a6 a8 aG aK aN ah ar m a7 ts X L)(cx:K<=1050000)(b:Int):∀d,d∈a7->∀t,du d b=some t->DJ t ts:=by
 intro d aB t ma;have al:=H.al;obtain⟨i,aq,rfl⟩:=fQ.1 aB;obtain⟨b,aw⟩:=H.eQ (hg aq);exact anv aw (H.plain.sub i _ (hg aq)) (by have:=H.ea (hg aq);omega) ma
end
theorem Nw (n:Nat)(x:dD)(j:Nat):(jM n x j).length=n:=by simp[jM]
theorem Sr {n:Nat}(x:dD)(j:Nat)(aJ:r<n):(jM n x j).getD r 0=(x.aY j).get r:=by simp[jM,aJ]
theorem alN {n:Nat}(b2:n<=5)(x:dD)(j:Nat)(hs:List aT):(fun k=>jM n (oK x j (bJ (cb n hs))) k)=rR (jM n x) j (fB (jM n x j) (cb n hs) n):=by
 funext k;unfold rR;by_cases c:k=j
 ·rw[if_pos c]
  subst c;refine yp (by rw[vA,Nw,Nw]) fun r h1 ae=>?_
  have aJ:r<n:=by rwa [Nw]at h1
  have a:(jM n (oK x k (bJ (cb n hs))) k)[r]=(jM n (oK x k (bJ (cb n hs))) k).getD r 0:=by simp[h1]
  have b:(fB (jM n x k) (cb n hs) n)[r]=(fB (jM n x k) (cb n hs) n).getD r 0:=by simp[ae]
  rw[a,b,E5 _ _ _ _ (by rw[Nw];exact aJ),if_pos aJ,Sr _ _ aJ,Sr _ _ aJ];show(qg x.aY k ((x.aY k).join (bJ (cb n hs))) k).get r=_
  unfold qg;rw[if_pos rfl,Z6 _ _ (by omega),pS (by rw[kH];exact b2)];simp
 ·rw[if_neg c]
  unfold jM;refine map_congr_left fun r aJ=>?_
  show(qg x.aY j _ k).get r=_
  unfold qg;rw[if_neg c]
theorem aaf {n i:Nat}(b2:n<=5)(X:Nat->dD)(j:Nat)(hs:List aT):nd (fun i=>jM n (X i)) i (rR (jM n (X i)) j (fB (jM n (X i) j) (cb n hs) n))=fun k=>jM n (nd X i (oK (X i) j (bJ (cb n hs))) k):=by
 funext k;by_cases c:k=i
 ·subst c
  rw[Bb,Bb];exact(alN b2 (X k) j hs).symm
 ·rw[Ba c,Ba c]
theorem Xk {n i:Nat}(X:Nat->dD)(j:Nat)(v:aW):(fun k=>jj n (X k))=fun k=>jj n (nd X i (oK (X i) j v) k):=by
 funext k;by_cases c:k=i
 ·subst c;rw[Bb];rfl
 ·rw[Ba c]
theorem IS {n:Nat}(x:dD)(aJ:r<n):(jj n x).getD r 0=x.gone r:=by simp[jj,aJ]
theorem Xo (w:World)(o:Nat->Tag)(s aj az n:Nat)(aI ak:List Nat)(aG aK aN ah:Value)(ar:Int)(m:iM)(K:Nat)(p:gw)(aw:rm p)(hk:10<=p.kind)
  (h:pr s aj az n aI ak aG aK aN ah ar m K w o)(hn:0<n)(b2:n<=5)(cx:K<=1050000):
  Calls prog 54 #[ptr aj,p.agg] w (bx (.bool true) fun w'=>∃o',pr s aj az n aI ak aG aK aN ah ar m (K+1) w' o'∧dS (hq s) w o w' o'):=by
 obtain⟨a6,a8,a7,ts,X,L,H⟩:=h;have al:=H.al;have aC:=H.aC;by_cases lH:p.kind=10
 ·refine(aqM _ _ _ (pN X) w o s aj az n aI ak a6 a8 aG aK aN ah ar m a7 ts L (fun i=>⟨(nK n i ((a7[i]?).elim [] fun d=>cb n d.hs)).toArray⟩) p aw.ok lH H.law H.ways (by omega) hn b2 H.low ?_).mono ?_
  ·intro i b d W iK aq aB hb ep ha
   have au:=aps ha (by have:=H.ea aB;omega) (H.ke.kept ep);rw[(aX.df ha).2.1]at au;rw[aB];exact au
  ·rintro e w' ⟨rfl,o',mm,i,d,v',aq,aB,eg,dP,M⟩
   obtain⟨eF,dY⟩:=zk H.low M;obtain⟨b,ha⟩:=H.eQ aB;obtain⟨df,hp,-⟩:=aX.df ha;have fK:rr n ts ⟨⟨(nK n i ((a7[i]?).elim [] fun d=>cb n d.hs)).toArray⟩,false,i,v',.slice none 0 0,.slice none 0 0,d.ag,[],[]⟩ d.hs (X i) mi:=
    ⟨aq,df,H.plain.sub i d aB,hp,fun _=>by rw[aB];rfl,fun c=>by cases c⟩
   exact⟨rfl,o',⟨a6,mm,a7,ts,X,_,eg,dP,H.plain.letter ⟨_,_,_,fK⟩,H.ke.kept dY,eF,by omega,by simp;omega⟩,M⟩
 ·have YT:11<=p.kind:=by omega
  by_cases cT:L=[]
  ·subst cT
   refine(aqJ _ _ _ (pN X) w o s aj az n aI ak a6 a8 aG aK aN ah ar m a7 ts p aw.ok YT H.law H.ways hn b2).mono ?_;rintro e w' ⟨rfl,o',eg,dP,M⟩;obtain⟨eF,dY⟩:=zk H.low M;exact⟨rfl,o',⟨a6,a8,a7,ts,X,[],eg,dP,H.plain,H.ke.kept dY,eF,by omega,by simp⟩,M⟩
  ·have As:0<L.length:=length_pos_iff.2 cT
   have cy:∀(i:Nat) (d:aZ),a7[i]?=some d->d.ag=cb n d.hs∧dB n d.hs∧∀u,u∈d.hs->u∈ts:=fun i d aB=>by
    obtain⟨b,ha⟩:=H.eQ aB;exact⟨(aX.df ha).2.1,(aX.df ha).1,H.plain.sub i d aB⟩
   refine(aqI aX X (fun i=>jM n (X i)) (fun i=>jj n (X i)) (fun X=>pN X) w o s aj az n aI ak a6 a8 aG aK aN ah ar m a7 ts L (Us n ts X) (Vo n ts X) (tB ts) p aw.ok aw.dc aw.bT YT H.law H.ways As (by omega) hn b2 H.low (aqn H.plain.df (by omega) H.ke cy H.plain.lets aw.ok aw.c0 aw.c1 aw.ea)).mono ?_;rintro e w' ⟨rfl,o',mm,BU,p1,BH,DF,eg,dP,M,kb⟩;obtain⟨eF,dY⟩:=zk H.low M;refine⟨rfl,o',?_,M⟩;rcases kb with⟨rfl,rfl,rfl,rfl⟩|⟨i,d,l,x,T,v,f,t,aq,aB,vk,Eo,⟨hs,c8,v0,hw,rfl,rfl⟩,rfl,rfl,rfl,rfl⟩|⟨i,d,l,d',x,aq,aB,vk,Eo,⟨hs,c8,v0,hw,-,rfl,bI⟩,rfl,rfl,rfl,rfl⟩
   ·exact⟨a6,mm,_,ts,_,_,eg,dP,H.plain,H.ke.kept dY,eF,by omega,by omega⟩
   ·rw[hw.vec,aaf b2,Xk (i:=i) X l.cN (bJ (cb n hs))]at eg
    obtain⟨hp,df,l_⟩:=cy i d aB;refine⟨a6,mm,_,ts,_,_,eg,dP,H.plain.letter ⟨d.hs,X i,bJ (cb n hs),aq,df,l_,hp,fun c=>(by cases c),fun _=>⟨rfl,hp,W9 _ _ _,fun r aJ=>⟨?_,?_⟩⟩⟩,H.ke.kept dY,eF,by omega,by simp;omega⟩
    ·rw[pS (by rw[kH];exact b2),kL,k2 aJ];omega
    ·rw[pS (by rw[kH];exact b2),kL,hw.vec]
     show(qN (jj n (X i)) (cb n hs) n).getD r 0=_
     have:(qN (jj n (X i)) (cb n hs) n).getD r 0=max ((cb n hs).getD r 0) ((jj n (X i)).getD r 0):=by simp[qN,aJ]
     rw[this,IS _ aJ]
   ·rw[hw.vec,aaf b2,Xk (i:=i) X l.cN (bJ (cb n hs))]at eg
    obtain⟨hp,df,l_⟩:=cy i d aB;obtain⟨th,-⟩:=w8.1 aB;have uo:=eg.prog i aq;rw[w_]at uo;exact⟨a6,mm,_,ts,_,_,eg,dP,H.plain.heard aB (aX.df uo).1 (fun u hu=>(bI.more.2.2 u hu).elim (l_ u) fun hu=>hw.sub u (qI hu)) bI.ar,H.ke.kept dY,eF,by omega,by omega⟩
def ou (G:Nat->World->(Nat->Tag)->Prop)(s K:Nat)(w:World)(o:Nat->Tag)(e:Ending)(w':World):Prop:=e= .returned (.bool true)∧∃o',G (K+1) w' o'∧dS (hq s) w o w' o'
theorem ou.up {G:Nat->World->(Nat->Tag)->Prop}{s K:Nat}{w:World}{o:Nat->Tag}{e:Ending}{w':World}(h:e= .returned (.bool true)∧∃o',G (K+1) w' o'∧dS (fN s) w o w' o'):ou G s K w o e w':=by
 obtain⟨h,o',kB,bK⟩:=h;exact⟨h,o',kB,bK.mono fun _=>x5⟩
theorem TR (G:Nat->World->(Nat->Tag)->Prop)(s aj K:Nat)(p:gw)(new:∀{w:World} {o:Nat->Tag} (bE:Obj) (t:Tag),G K w o->G K (w.alloc bE) (ee o w.heap.size t))(more:∀{w:World} {o:Nat->Tag},G K w o->G (K+1) w o)
  (T:1<=p.kind∧p.kind<=8->∀w o,G K w o->Calls prog 52 #[ptr aj,p.agg] w (ou G s K w o))
  (V:p.kind=9∨p.kind=14∨p.kind=15->∀w o,G K w o->Calls prog 53 #[ptr aj,p.agg] w (ou G s K w o))
  (W:10<=p.kind∧p.kind<=13->∀w o,G K w o->Calls prog 54 #[ptr aj,p.agg] w (ou G s K w o))(w:World)(o:Nat->Tag)(h:G K w o):
  Calls prog 18 #[ptr aj,p.agg] w (ou G s K w o):=by
 obtain⟨kind,a,b,c,key,text⟩:=p;simp only at T V W;have gO:=J (new (.cells #[I kind,I a,I b,I c,ai key,ai text] 30) (s+12,0,0) h);have fr:=J (tw (B:=hq s) w o (.cells #[I kind,I a,I b,I c,ai key,ai text] 30) (s+12,0,0));have HT:=J (fun w o h=>more (w:=w) (o:=o) h);have fin:∀{e:Ending} {w':World},ou G s K (w.alloc (.cells #[I kind,I a,I b,I c,ai key,ai text] 30)) (ee o w.heap.size (s+12,0,0)) e w'->e= .returned (.bool true)∧Hid (ou G s K w o (.returned (.bool true)) w'):=by
  rintro e w' ⟨rfl,o',kB,bK⟩;exact⟨rfl,rfl,o',kB,fr.o.trans bK⟩
 have cz:=J (fun e w' h=>fin (e:=e) (w':=w') h);clear h new more fin;by_cases h1:1<=kind∧kind<=8
 ·have vM:=J (T h1 _ _ gO.o)
  obtain⟨h1,lI⟩:=h1;clear T V W HT fr gO;go_enter func18,ntmps18;go_wp2_with fail
  refine vM.o.mono fun e w' h=>?_
  obtain⟨rfl,cp⟩:=cz.o e w' h;clear h cz vM;go_wp2_with fail
  go_ret;exact cp.o
 ·by_cases mC:kind=9∨kind=14∨kind=15
  ·have vM:=J (V mC _ _ gO.o)
   clear T V W HT fr gO h1;rcases mC with rfl|rfl|rfl
   all_goals
    go_enter func18,ntmps18;go_wp2_with fail
    refine vM.o.mono fun e w' h=>?_
    obtain⟨rfl,cp⟩:=cz.o e w' h;clear h cz vM;go_wp2_with fail
    go_ret;exact cp.o
  ·have n9:(kind==9)=false:=by simp;omega
   have n14:(kind==14)=false:=by simp;omega
   have n15:(kind==15)=false:=by simp;omega
   by_cases lH:10<=kind∧kind<=13
   ·have vM:=J (W lH _ _ gO.o)
    obtain⟨lH,aiB⟩:=lH;have lI:¬kind<=8:=by omega
    have h1:1<=kind:=by omega
    clear T V W HT fr gO mC;go_enter func18,ntmps18;go_wp2_with fail
    refine vM.o.mono fun e w' h=>?_
    obtain⟨rfl,cp⟩:=cz.o e w' h;clear h cz vM;go_wp2_with fail
    go_ret;exact cp.o
   ·have cp:Hid (ou G s K w o (.returned (.bool true)) (w.alloc (.cells #[I kind,I a,I b,I c,ai key,ai text] 30))):=⟨rfl,_,HT.o _ _ gO.o,fr.o⟩
    have aA:¬1<=kind∧¬10<=kind∨(1<=kind∧¬kind<=8)∧10<=kind∧¬kind<=13:=by omega
    clear T V W HT fr gO cz h1 mC lH;rcases aA with⟨h1,lH⟩|⟨⟨h1,lI⟩,lH,aiB⟩
    all_goals
     go_enter func18,ntmps18;go_wp2_with fail
     go_ret;exact cp.o
end Go.Proofs.YtiplgdkpnhamaaaGreatDoor.Tv
