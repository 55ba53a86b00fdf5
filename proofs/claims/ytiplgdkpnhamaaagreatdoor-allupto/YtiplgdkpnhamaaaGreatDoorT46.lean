import Derived.Test.YtiplgdkpnhamaaaGreatDoorT43
import Derived.Test.YtiplgdkpnhamaaaGreatDoorT24
import Derived.Test.YtiplgdkpnhamaaaGreatDoorT44
import Derived.Test.YtiplgdkpnhamaaaGreatDoorT45
set_option maxHeartbeats 8000000
set_option maxRecDepth 100000
namespace Go.Proofs.YtiplgdkpnhamaaaGreatDoor.Tv
open Go.Proofs.Tryz List
open Go.RowKit
variable {hs:List aT}{x:dD}
theorem apo (n j:Nat)(l:List Int):∃r,nK n j l=115::(ec n++r):=⟨_,by unfold nK Oo;rw[iH,yo,mN]⟩
theorem afs (n j:Nat)(v:aW)(l:List dt):∃r,lS n j v l=97::(ec n++r):=⟨_,by rw[FP,qF,iH,mN,yo,mN]⟩
section
variable {bg:dD}{w:World}{o:Nat->Tag}{fe:Tag}{b n i fD:Nat}{d:aZ}{t:ByteArray}{ts:List aT}{l:fC}
theorem WT (aD:dB fD ts)(bm:ts.length<=1100000){v:aW}(h:rr fD ts l hs x v):l.text.size<=200000000000:=by
 have fa:=fx (h.df.ea h.sub) bm;cases aU:l.gp
 ·rw[h.sum aU,Hp]
  have:=Oz (j:=l.cN) aD.n5 h.cN (kH fD hs) fun k hk=>by
   obtain⟨r,aJ,rfl⟩:=fQ.1 hk;have a:=KX (n:=fD) fa r aJ;unfold lM at a;omega
  omega
 ·rw[(h.gp aU).1,Hp]
  exact PR h.df fa h.cN (fun _ hu=>qI hu) (L1 hs x v)
theorem afw (h:aX bg w o fe b n i d)(al:fI w)(aD:dB fD ts)(bm:ts.length<=1100000){v:aW}(H:rr fD ts l hs x v)(bS:¬fD=n):
  Calls prog 40 #[bl b,ai l.text] w (bx (.tuple #[ai ⟨#[]⟩,I 6]) fun w'=>ax w w'):=by
 have Ew:=WT aD bm H;have b2:=aD.n5;cases aU:l.gp
 ·obtain⟨r,fl⟩:=apo fD l.cN (cb fD hs)
  refine PS _ (G4 h) (abT w n _ fun W ao=>abQ W n _ Ew (fun dP ak ig e5=>Yo dP ak n _ 115 fD r e5 (by rw[H.sum aU,zD,fl]) (by omega) (by omega) (by omega) ((al.later ao).later ig)) (by have:=al.room;have:=ao.size;omega))
 ·obtain⟨r,fl⟩:=PO fD l.cN (bJ (cb fD hs)) ((fM hs x v).map cL)
  exact PQ h al Ew (Or.inr ⟨97,r,by rw[(H.gp aU).1,zD,fl],by decide⟩)
theorem aoa (h:aX bg w o fe b n i d)(al:fI w)(aD:dB fD ts)(bm:ts.length<=1100000){v:aW}(H:rr fD ts l hs x v)(bS:¬fD=n):
  Calls prog 41 #[bl b,ai l.text] w (bx (I 6) fun w'=>ax w w'):=by
 have Ew:=WT aD bm H;have b2:=aD.n5;cases aU:l.gp
 ·obtain⟨r,fl⟩:=TU fD l.cN (cb fD hs)
  exact To h al Ew (Or.inr ⟨115,r,by rw[H.sum aU,zD,fl],by decide⟩)
 ·obtain⟨r,fl⟩:=afs fD l.cN (bJ (cb fD hs)) ((fM hs x v).map cL)
  refine Tp _ (G4 h) fun W ao=>?_
  refine(N_ W n 0 _ mi [] False fun dP ig=>(abO dP n _ Ew (fun W2 ak bP e5=>Yo W2 ak n _ 97 fD r e5 (by rw[(H.gp aU).1,zD,fl]) (by omega) (by omega) (by omega) (((al.later ao).later ig).later bP)) (by have:=al.room;have:=ao.size;have:=ig.size;omega)).mono ?_).mono ?_
  ·rintro e w' ⟨h1,ae⟩
   exact⟨h1,Or.inr ⟨id,ae⟩⟩
  ·rintro e w' ⟨h1,⟨c,-⟩|⟨-,ae⟩⟩
   ·exact c.elim
   ·exact⟨h1,ae⟩
end
abbrev IL (fy bk:H6):iM:=np (fy.map fun e=>e.1) (fy.map fun e=>I e.2.2) (bk.map fun e=>e.1) (bk.map fun e=>I e.2.2)
structure Kept (s:Nat)(w:World)(o:Nat->Tag)(ar:Int)(fy bk:H6):Prop where
 t:∀e,e∈fy->(Full w o (s+15,0,0) 9 (ai (r2 e.2.2)) e.1 e.2.1∧e.2.1<=200000000)∧0<=e.2.2∧e.2.2<=ar
 n:∀e,e∈bk->Full w o (s+15,0,0) 3 (I e.2.2) e.1 e.2.1∧e.2.1<=200000000
def mr (s aj az n:Nat)(aI ak:List Nat)(K:Nat)(w:World)(o:Nat->Tag):Prop:=∃aG aK aN ah ar fy bk,pr s aj az n aI ak aG aK aN ah ar (IL fy bk) K w o∧Kept s w o ar fy bk∧0<=ar∧ar<=1073741824+2*(K:Int)∧fy.length<=130*K∧bk.length<=130*K
section
variable {s aj az n:Nat}{aI ak:List Nat}{K:Nat}{w w':World}{o o':Nat->Tag}{a6 a8 aG aK aN ah:Value}{ar kz:Int}{m:iM}{a7:List aZ}{ts:List aT}{X:Nat->dD}{L:List fC}{fy bk:H6}{B:Tag->Prop}{p:gw}
theorem Kept.off (h:Kept s w o ar fy bk)(k:dS B w o w' o')(ao:¬B (s+15,0,0))(aA:ar<=kz):Kept s w' o' kz fy bk:=by
 have f:∀q,q<w.heap.size->o q=(s+15,0,0)->w'.heap[q]?=w.heap[q]?∧o' q=(s+15,0,0):=fun q ad e=>by
  have:=k.at ad (by rw[e];exact ao);exact⟨this.1,this.2.trans e⟩
 refine⟨fun e he=>?_,fun e he=>⟨(h.n e he).1.move f,(h.n e he).2⟩⟩;obtain⟨⟨a,b⟩,c,d⟩:=h.t e he;exact⟨⟨a.move f,b⟩,c,by omega⟩
theorem NL:¬fN s (s+15,0,0):=fun h=>by have:=h.2;simp at this
theorem amO:¬hq s (s+15,0,0):=fun h=>by have:=h.2;simp at this
theorem mr.new (h:mr s aj az n aI ak K w o)(bE:Obj)(t:Tag):mr s aj az n aI ak K (w.alloc bE) (ee o w.heap.size t):=by
 obtain⟨aG,aK,aN,ah,ar,fy,bk,h,hk,aA⟩:=h;exact⟨aG,aK,aN,ah,ar,fy,bk,h.new bE t,hk.off (tw (B:=fun _=>False) w o bE t) id (re _),aA⟩
theorem mr.more (h:mr s aj az n aI ak K w o):mr s aj az n aI ak (K+1) w o:=by
 obtain⟨aG,aK,aN,ah,ar,fy,bk,h,hk,c0,c1,c2,c3⟩:=h;exact⟨aG,aK,aN,ah,ar,fy,bk,h.more,hk,c0,by omega,by omega,by omega⟩
theorem pr.off (h:pr s aj az n aI ak aG aK aN ah ar m K w o)(k:dS B w o w' o')(ao:∀t,hq s t->¬B t)(ep:∀q,q<6->w'.heap[q]?=w.heap[q]?∧¬hq s (o' q)):pr s aj az n aI ak aG aK aN ah ar m K w' o':=by
 obtain⟨a6,a8,a7,ts,X,L,h⟩:=h;have hs:=k.ay.size;have f:∀a b c,1<=a->a<=14->∀q,q<w.heap.size->o q=(s+a,b,c)->w'.heap[q]?=w.heap[q]?∧o' q=(s+a,b,c):=fun a b c h1 ae q ad e=>by
  have:=k.at ad (by rw[e];exact ao _ ⟨by simp;omega,by simp;omega⟩);exact⟨this.1,this.2.trans e⟩
 exact⟨a6,a8,a7,ts,X,L,h.law.off (pN X) k fun t al _=>ao t (x5 al),⟨h.ways.row.fp (f 13 _ _ (by omega) (by omega)),fun l aC=>r6.fp (h.ways.lets l aC) (f 14 _ _ (by omega) (by omega))⟩,h.plain,
  h.ke.kept fun q ad=>(ep q ad).1,fun q ad=>⟨by have:=(h.low q ad).1;omega,(ep q ad).2⟩,h.al,h.aC⟩
theorem mr.off (h:mr s aj az n aI ak K w o)(k:dS B w o w' o')(ao:∀t:Tag,s+1<=t.1->t.1<=s+15->¬B t)(ep:∀q,q<6->w'.heap[q]?=w.heap[q]?∧¬hq s (o' q)):mr s aj az n aI ak K w' o':=by
 obtain⟨aG,aK,aN,ah,ar,fy,bk,h,hk,aA⟩:=h;exact⟨aG,aK,aN,ah,ar,fy,bk,h.off k (fun t al=>ao t al.1 (fx al.2 (by omega))) ep,hk.off k (ao _ (by simp) (by simp)) (re _),aA⟩
theorem mr.low (h:mr s aj az n aI ak K w o):∀q,q<6->q<w.heap.size∧¬hq s (o q):=by
 obtain⟨aG,aK,aN,ah,ar,fy,bk,⟨a6,a8,a7,ts,X,L,h⟩,-⟩:=h;exact h.low
theorem mr.side (h:mr s aj az n aI ak K w o)(k:dS B w o w' o')(ao:∀t:Tag,s+1<=t.1->t.1<=s+15->¬B t)(aC:∀q,q<6->¬B (o q)):mr s aj az n aI ak K w' o':=
 h.off k ao fun q ad=>by
  obtain⟨h1,ae⟩:=h.low q ad;obtain⟨aP,ba⟩:=k.at h1 (aC q ad);exact⟨aP,by rw[ba];exact ae⟩
theorem NG {α:Type}(l:List α)(x:Value):replicate l.length x=l.map fun _=>x:=map_const'.symm
theorem afP (aw:p.Ok)(hk:1<=p.kind∧p.kind<=8)(h:mr s aj az n aI ak K w o)(hn:0<n)(b2:n<=5)(cx:K<=1050000):
  Calls prog 52 #[ptr aj,p.agg] w (ou (mr s aj az n aI ak) s K w o):=by
 obtain⟨aG,aK,aN,ah,ar,fy,bk,h,aB,c0,c1,c2,c3⟩:=h;by_cases e:p.kind=6
 ·obtain⟨a6,a8,a7,ts,X,L,H⟩:=h
  refine(apU _ _ _ (pN X) w o s aj az n aI ak a6 a8 aG aK aN ah ar _ _ _ _ a7 ts p aw e H.law hn b2 (H.room cx) ⟨c0,by omega⟩ (by rw[mO];omega) (by rw[mO];omega) (H.agree _ _) (H.short cx _ _) (H.ace cx _)).mono ?_;rintro dI w' ⟨rfl,o',lx,lo,mR,uL,eF,dY,eg,f1,f2,M⟩;refine ou.up ⟨rfl,o',⟨lx,lo,aN,ah,ar+2,fy++mR.map (fun e=>(e.1,e.2,ar+1))++uL.map (fun e=>(e.1,e.2,ar+2)),bk,H.told (m':=IL _ bk) ?_ M,?_,by omega,by omega,by simp only[eN,mO];omega,by omega⟩,M⟩
  ·simp only[IL,tJ,map_map]
   rw[NG,NG]at eg;exact eg
  ·have o1:=aB.off M NL (show ar<=ar+2 by omega)
   refine⟨fun e he=>?_,o1.n⟩;rcases hT.1 he with he|he
   ·rcases hT.1 he with he|he
    ·exact o1.t e he
    ·obtain⟨x,au,rfl⟩:=gF.1 he
     exact⟨f1 x au,by simp only;omega,by simp only;omega⟩
   ·obtain⟨x,au,rfl⟩:=gF.1 he
    exact⟨f2 x au,by simp only;omega,by simp only;omega⟩
 ·refine(aan w o s aj az n aI ak aG aK aN ah ar _ K p aw ⟨hk.1,hk.2,e⟩ h hn b2 cx).mono ?_
  rintro dI w' ⟨rfl,o',eg,M⟩;exact ou.up ⟨rfl,o',⟨aG,aK,aN,ah,ar,fy,bk,eg,aB.off M NL (re _),c0,by omega,by omega,by omega⟩,M⟩
theorem afN (aw:p.Ok)(hk:p.kind=9∨p.kind=14∨p.kind=15)(h:mr s aj az n aI ak K w o)(hn:0<n)(b2:n<=5)(cx:K<=1050000):
  Calls prog 53 #[ptr aj,p.agg] w (ou (mr s aj az n aI ak) s K w o):=by
 obtain⟨aG,aK,aN,ah,ar,fy,bk,h,aB,c0,c1,c2,c3⟩:=h;rcases hk with e|e
 ·obtain⟨a6,a8,a7,ts,X,L,H⟩:=h
  refine(apG _ _ _ (pN X) w o s aj az n aI ak a6 a8 aG aK aN ah ar _ _ _ _ a7 ts p aw e H.law hn b2 (H.room cx) ⟨c0,by omega⟩ (by rw[mO];omega) (by rw[mO];omega)).mono ?_;rintro dI w' ⟨rfl,o',lp,iC,mR,uL,eF,dY,eg,f1,f2,M⟩;refine ou.up ⟨rfl,o',⟨aG,aK,lp,iC,ar+2,fy,bk++mR.map (fun e=>(e.1,e.2,-(ar+1)))++uL.map (fun e=>(e.1,e.2,-(ar+2))),H.told (m':=IL fy _) ?_ M,?_,by omega,by omega,by omega,by simp only[eN,mO];omega⟩,M⟩
  ·simp only[IL,tJ,map_map]
   rw[NG,NG]at eg;exact eg
  ·have o1:=aB.off M NL (show ar<=ar+2 by omega)
   refine⟨o1.t,fun e he=>?_⟩;rcases hT.1 he with he|he
   ·rcases hT.1 he with he|he
    ·exact o1.n e he
    ·obtain⟨x,au,rfl⟩:=gF.1 he
     exact f1 x au
   ·obtain⟨x,au,rfl⟩:=gF.1 he
    exact f2 x au
 ·refine(Xe w o s aj az n aI ak aG aK aN ah ar _ K p aw e h hn b2 cx).mono ?_
  rintro dI w' ⟨rfl,o',eg,M⟩;exact ou.up ⟨rfl,o',⟨aG,aK,aN,ah,ar,fy,bk,eg,aB.off M NL (re _),c0,by omega,by omega,by omega⟩,M⟩
theorem afT (aw:rm p)(hk:10<=p.kind)(h:mr s aj az n aI ak K w o)(hn:0<n)(b2:n<=5)(cx:K<=1050000):
  Calls prog 54 #[ptr aj,p.agg] w (ou (mr s aj az n aI ak) s K w o):=by
 obtain⟨aG,aK,aN,ah,ar,fy,bk,h,aB,c0,c1,c2,c3⟩:=h;refine(Xo w o s aj az n aI ak aG aK aN ah ar _ K p aw hk h hn b2 cx).mono ?_;rintro dI w' ⟨rfl,o',eg,M⟩;exact⟨rfl,o',⟨aG,aK,aN,ah,ar,fy,bk,eg,aB.off M amO (re _),c0,by omega,by omega,by omega⟩,M⟩
theorem afK (aw:rm p)(h:mr s aj az n aI ak K w o)(hn:0<n)(b2:n<=5)(cx:K<=1050000):Calls prog 18 #[ptr aj,p.agg] w (ou (mr s aj az n aI ak) s K w o):=
 TR _ s aj K p (fun bE t h=>h.new bE t) (fun h=>h.more) (fun h1 _ _ h=>afP aw.ok h1 h hn b2 cx) (fun mC _ _ h=>afN aw.ok mC h hn b2 cx) (fun lH _ _ h=>afT aw lH.1 h hn b2 cx) w o h
theorem afL (h:mr s aj az n aI ak K w o)(cx:K<=1050001):Calls prog 19 #[ptr aj] w (bx (.bool true) fun w'=>ax w w'):=by
 obtain⟨aG,aK,aN,ah,ar,fy,bk,⟨a6,a8,a7,ts,X,L,H⟩,aB,c0,c1,c2,c3⟩:=h;have B:=H.law.U.U;have cB:=H.law.TF.row;have b_:=H.law.TE.row;have dW:=H.law.q3.row;have iw:=H.law.TD.row;rw[mO]at cB b_ dW iw;exact apf w aj aG aK aN ah B.lt (B.cell 3) (B.cell 4) (B.cell 5) (B.cell 6) fy bk cB b_ dW iw (fun e he=>(aB.t e he).1.1.row) (fun e he=>(aB.n e he).1.row) (fun e he=>⟨(aB.t e he).1.2,(aB.t e he).2.1,by have:=(aB.t e he).2.2;omega⟩) (fun e he=>(aB.n e he).2) (by omega) (by omega)
end
section
variable {s s2 aj az n r1 Xd fD:Nat}{aI ak abr abK:List Nat}{K:Nat}{w w':World}{o o':Nat->Tag}{B:Tag->Prop}{p:gw}{v v2:Value}
theorem afM (H1:mr s aj az n aI ak K w o)(bu:mr s2 r1 Xd fD abr abK K w o)(hn:0<n)(b2:n<=5)(Gx:0<fD)(cx:K<=1050000)(aw:rm p):
  Calls prog 17 #[ptr aj,ptr r1,p.agg] w (bx (.bool true) fun w'=>ax w w'):=by
 obtain⟨aG,aK,aN,ah,ar,fy,bk,⟨a6,a8,a7,ts,X,L,H⟩,-⟩:=H1;obtain⟨at2,aaK,atJ,ats,P9,arp,aro,⟨atQ,at4,arC,at1,ars,zZ,bu⟩,-⟩:=bu;obtain⟨kind,a,b,c,key,text⟩:=p;have aq:=Kq a n hn;obtain⟨iP,ix,rfl,-,-,lk⟩:=Oi H.law.rs (i:=lq a n) (by rw[H.law.pe];exact aq);obtain⟨arR,G9,rfl,-,-,-⟩:=Oi bu.law.rs (i:=0) (by rw[bu.law.pe];exact Gx);have c8:=H.law.U.U.cell 0;have dm:=bu.law.U.U.cell 0;have ei:=bu.law.U.U.cell 2;rw[H.law.pe]at c8;rw[bu.law.pe]at dm;by_cases aA:fD=n∨(¬fD=n∧zZ.length=0)
 ·obtain⟨OJ,oN,rfl,-⟩:=bu.ways.row.row.shape
  exact apj w aj r1 n fD zZ.length ix G9 oN _ _ OJ kind a b c key text c8 dm ei aA
 ·have cT:0<zZ.length:=by omega
  have hk:=Kq b zZ.length cT;obtain⟨jt,oN,rfl,-⟩:=bu.ways.row.row.pos (by omega);have eo:=q8 bu.ways hk 0 (by omega);have aP:=q8 bu.ways hk 1 (by omega);have ba:=q8 bu.ways hk 2 (by omega);have ey:=q8 bu.ways hk 3 (by omega);have hB:=q8 bu.ways hk 4 (by omega);have gS:=q8 bu.ways hk 5 (by omega);have gV:=bu.aC;have hm:=eT hk;generalize zZ[lq b zZ.length]=l at*;obtain⟨a3,c3,aH,-⟩:=(bu.ways.lets l hm).vec.row.shape;obtain⟨a4,c4,bd,-⟩:=(bu.ways.lets l hm).frm.row.shape;obtain⟨a5,c5,cS,-⟩:=(bu.ways.lets l hm).A_.row.shape;simp only[fC.cells,j3,jg,kK,aH,bd,cS]at eo aP ba ey hB gS;obtain⟨hs,x,v,W⟩:=bu.plain.lets l hm;have mc:=bu.al;exact aph w aj r1 n fD zZ.length ix G9 oN iP jt (lq a n) (lq b zZ.length) _ l.cN _ _ _ c3 c4 c5 _ a3 a4 a5 l.gp kind a b c key text l.text c8 lk aq dm ei hk eo aP ba ey hB gS
   (fun v=>abt a n v hn b2 aw.ok.a0 aw.ok.cO) (fun v=>aax b zZ.length v cT (by omega) aw.dc aw.bT) (by omega)
   (fun dP ao=>afw (aX.later (H.law.prog _ aq) ao) (H.ke.later ao) bu.plain.df (by omega) W (by omega)) (fun dP ao=>aoa (aX.later (H.law.prog _ aq) ao) (H.ke.later ao) bu.plain.df (by omega) W (by omega))
def lC (s:Nat)(v:Value)(K:Nat)(w:World)(o:Nat->Tag):Prop:=v= .pointer none∨∃aj az n aI ak,v=ptr aj∧0<n∧n<=5∧mr s aj az n aI ak K w o
theorem lC.more (h:lC s v K w o):lC s v (K+1) w o:=by
 rcases h with h|⟨aj,az,n,aI,ak,h1,ae,aH,h⟩
 ·exact .inl h
 ·exact .inr ⟨aj,az,n,aI,ak,h1,ae,aH,h.more⟩
theorem lC.side (h:lC s v K w o)(k:dS B w o w' o')(ao:∀t:Tag,s+1<=t.1->t.1<=s+15->¬B t)(aC:∀q,q<6->¬B (o q)):lC s v K w' o':=by
 rcases h with h|⟨aj,az,n,aI,ak,h1,ae,aH,h⟩
 ·exact .inl h
 ·exact .inr ⟨aj,az,n,aI,ak,h1,ae,aH,h.side k ao aC⟩
theorem lC.below (h:lC s v K w o)(ao:ax w w'):lC s v K w' o:=h.side ((ct.dh (A:=fun _=>False) ao).da fun _=>id) (fun _ _ _=>id) fun _ _=>id
theorem lC.off (h:lC s v K w o)(k:dS B w o w' o')(ao:∀t:Tag,s+1<=t.1->t.1<=s+15->¬B t)(ep:∀q,q<6->w'.heap[q]?=w.heap[q]?∧¬hq s (o' q)):lC s v K w' o':=by
 rcases h with h|⟨aj,az,n,aI,ak,h1,ae,aH,h⟩
 ·exact .inl h
 ·exact .inr ⟨aj,az,n,aI,ak,h1,ae,aH,h.off k ao ep⟩
def Ih (s s2:Nat)(v v2:Value)(K:Nat)(w:World)(o:Nat->Tag)(e:Ending)(w':World):Prop:=e= .returned (.bool true)∧∃o',lC s v (K+1) w' o'∧lC s2 v2 (K+1) w' o'∧dS (hq s) w o w' o'
theorem ac9 (h:lC s v K w o)(av:¬v= .pointer none)(ae:lC s2 v2 K w o)(aB:s+15<=s2∨s2+15<=s)(cx:K<=1050000)(aw:rm p):Calls prog 18 #[v,p.agg] w (Ih s s2 v v2 K w o):=by
 rcases h with h|⟨aj,az,n,aI,ak,rfl,hn,b2,h⟩
 ·exact absurd h av
 refine(afK aw h hn b2 cx).mono ?_;rintro e w' ⟨rfl,o',kB,bK⟩;exact⟨rfl,o',.inr ⟨aj,az,n,aI,ak,rfl,hn,b2,kB⟩,(ae.side bK (fun t a b c=>by have:=c.1;have:=c.2;omega) fun q ad=>(h.low q ad).2).more,bK⟩
theorem ac_ (h:lC s v K w o)(av:¬v= .pointer none)(ae:lC s2 v2 K w o)(cx:K<=1050000)(aw:rm p):Calls prog 17 #[v,v2,p.agg] w (Ih s s2 v v2 K w o):=by
 have fin:∀{e:Ending} {w':World},e= .returned (.bool true)∧ax w w'->Ih s s2 v v2 K w o e w':=fun ao=>⟨ao.1,o,(h.below ao.2).more,(ae.below ao.2).more,(ct.dh ao.2).da fun _=>id⟩
 rcases h with e5|⟨aj,az,n,aI,ak,rfl,hn,b2,e5⟩
 ·exact absurd e5 av
 rcases ae with rfl|⟨r1,Xd,fD,abr,abK,rfl,Gx,-,Gb⟩
 ·exact(api w aj _ _ _ _ _ _).mono fun _ _=>fin
 ·exact(afM e5 Gb hn b2 Gx cx aw).mono fun _ _=>fin
theorem abe (h:lC s v K w o)(av:¬v= .pointer none)(cx:K<=1050001):Calls prog 19 #[v] w (bx (.bool true) fun w'=>ax w w'):=by
 rcases h with h|⟨aj,az,n,aI,ak,rfl,hn,b2,h⟩
 ·exact absurd h av
 exact afL h cx
theorem abd (s:Nat)(w:World)(al:fI w)(n art:Int)(aS:0<=art)(h1:art<=1073741824):Calls prog 16 #[I n,I art] w fun e w'=>∃v o,e= .returned (.tuple #[v,.bool true])∧lC s v 0 w' o∧dS (hq s) w (fun _=>(0,0,0)) w' o:=by
 by_cases h:1<=n∧n<=5
 ·obtain⟨k,rfl⟩:∃k:Nat,n=k:=⟨n.toNat,by omega⟩
  refine(PW _ (pN fun _=>rU) A3 s w k art (by omega) (by omega)).mono ?_;rintro e w2 ⟨aj,az,o,aI,ak,a6,k0,rfl,a1,kk,hF⟩;refine⟨ptr aj,o,rfl,.inr ⟨aj,az,k,aI,ak,rfl,by omega,by omega,jN,jN,jN,jN,art,[],[],TX a1 kk hF (by omega) al _ fun j=>⟨fun _=>rfl,fun _=>rfl,fun _=>rfl,fun _=>rfl⟩,⟨fun e he=>(by cases he),fun e he=>(by cases he)⟩,aS,by omega,by simp,by simp⟩,a1.da.mono fun _=>x5⟩
 ·refine(VM _ A3 w n art h).mono ?_
  rintro e w2 ⟨rfl,ao⟩;exact⟨_,fun _=>(0,0,0),rfl,.inl rfl,(ct.dh ao).da fun _=>id⟩
theorem amV {P Q:Value}{an w2 bN:World}{o1 dx:Nat->Tag}(al:6<=an.heap.size)(h1:lC 0 P 0 w2 o1)(mS:dS (hq 0) an (fun _=>(0,0,0)) w2 o1)(ae:lC 20 Q 0 bN dx)(M2:dS (hq 20) w2 (fun _=>(0,0,0)) bN dx):
  ∃o,lC 0 P 0 bN o∧lC 20 Q 0 bN o∧dS (fun t=>t.1≠0) an (fun _=>(0,0,0)) bN o:=by
 have z:∀s,¬hq s (0,0,0):=fun s h=>by have:=h.1;simp at this
 have jX:=mS.ay.size;have cO:∀q,q<an.heap.size->w2.heap[q]?=an.heap[q]?∧o1 q=(0,0,0):=fun q ad=>mS.at ad (z 0)
 have a2:∀q,q<w2.heap.size->bN.heap[q]?=w2.heap[q]?∧dx q=(0,0,0):=fun q ad=>M2.at ad (z 20)
 have cI:dS (fun _=>False) w2 o1 bN fun q=>if q<w2.heap.size then o1 q else dx q:=⟨M2.ay.mono fun q _ h=>z 20 h,fun q ad _=>if_pos ad⟩
 have dq:dS (fun t=>¬(21<=t.1∧t.1<=35)) bN dx bN fun q=>if q<w2.heap.size then o1 q else dx q:=⟨Touch.refl _ _,fun q ad h=>by
  by_cases c:q<w2.heap.size
  ·rw[(a2 q c).2]at h
   exact absurd (fun e=>by have:=e.1;simp at this) h
  ·exact if_neg c⟩
 refine⟨_,h1.side cI (fun _ _ _=>id) fun _ _=>id,ae.off dq (fun t bT c6 c=>c ⟨by omega,by omega⟩) fun q ad=>⟨rfl,?_⟩,(mS.mono fun t al=>by have:=al.1;omega).trans (cI.mono fun _=>False.elim)⟩;show ¬hq 20 (if q<w2.heap.size then o1 q else dx q)
 rw[if_pos (by omega),(cO q (by omega)).2];exact z 20
end
def tM (P Q:Value)(K:Nat)(an w:World)(o:Nat->Tag):Prop:=lC 0 P K w o∧lC 20 Q K w o∧dS (fun t=>t.1≠0) an (fun _=>(0,0,0)) w o
section
variable {P Q:Value}{K:Nat}{an w w':World}{o o':Nat->Tag}{p:gw}
theorem tM.below (h:tM P Q K an w o)(ao:ax w w'):tM P Q K an w' o:=⟨h.1.below ao,h.2.1.below ao,h.2.2.trans ((ct.dh ao).da fun _=>id)⟩
theorem tM.cZ (h:tM P Q K an w o):ax an w:=
 have h:=h.2.2
 ⟨h.ay.os,h.ay.tape,h.ay.output,h.ay.size,fun q ad=>h.ay.block q ad (by simp)⟩
def Fp (P Q:Value)(K:Nat)(an:World)(e:Ending)(w':World):Prop:=e= .returned (.bool true)∧∃o',Hid (tM P Q K an w' o')
theorem ac7 (h:tM P Q K an w o){e:Ending}(t:Ih 0 20 P Q K w o e w'):Fp P Q (K+1) an e w':=by
 obtain⟨rfl,o',h1,ae,bK⟩:=t;exact⟨rfl,o',h1,ae,h.2.2.trans (bK.mono fun t al=>by have:=al.1;omega)⟩
theorem ac8 (h:tM P Q K an w o){e:Ending}(t:Ih 20 0 Q P K w o e w'):Fp P Q (K+1) an e w':=by
 obtain⟨rfl,o',h1,ae,bK⟩:=t;exact⟨rfl,o',ae,h1,h.2.2.trans (bK.mono fun t al=>by have:=al.1;omega)⟩
theorem lC.shape {s:Nat}{v:Value}(h:lC s v K w o):v= .pointer none∨∃aj,v=ptr aj:=by
 rcases h with h|⟨aj,az,n,aI,ak,h,-⟩
 ·exact .inl h
 ·exact .inr ⟨aj,h⟩
end
theorem all_true (w:World)(al:fI w)(n m:Int)(sv:Value)(ops:List gw)(hs:FM w sv ops)(hj:∀k (h:k<ops.length),rm (ops[k])):
  Calls prog 6 #[I n,I m,sv] w (bx (.bool true) fun w'=>ax w w'):=by
 obtain⟨⟨cA,cap,rfl,et⟩,fK,sj⟩:=hs;have Fs:=J et;have zR:=J hj;have FE:=J al;clear et fK hj al;go_enter func6,ntmps6;go_wp2_with fail
 refine(LW _ (pN fun _=>rU) A3 w).mono ?_;rintro e an ⟨rfl,aF⟩;have dF:=J aF;have BC:=J (FE.o.later aF);clear aF FE;go_wp2_with fail
 refine(abd 0 an BC.o n 0 (by omega) (by omega)).mono ?_;rintro e w2 ⟨P,o1,rfl,ha,nW⟩;have dp:=J (⟨ha,nW⟩:_∧_);have zV:Hid (fI w2):=BC.o.kept fun q ad=>(nW.at (by have:=BC.o.room;omega) fun h=>by have:=h.1;simp at this).1
 clear ha nW;go_wp2_with fail
 refine(abd 20 w2 zV.o m 1073741824 (by omega) (by omega)).mono ?_;rintro e bN ⟨Q,dx,rfl,xH,rC⟩;obtain⟨iv,u_⟩:=amV (by have:=BC.o.room;omega) dp.o.1 dp.o.2 xH rC;have fk:Hid (tM P Q 0 an bN iv):=u_;have lI:=dp.o.1.shape;have lH:=xH.shape;clear dp zV xH rC u_ BC;go_wp2_with fail
 go_loopw[6,12,13,14,15,16,17] (fun _ i _ _ _ _ _ wr=>∃(k:Nat) (o':Nat->Tag),k<=ops.length∧i=I k∧Hid (tM P Q k an wr o')) (fun _ i _ _ _ _ _ _=>ops.length-(intOf i).toNat)
 case atStart=>exact⟨0,iv,ch,rfl,fk.o⟩
 case round=>
  clear fk;obtain⟨k,o',hk,rfl,a1⟩:=hrel;have k6:Hid (ax w wr):=dF.o.trans (a1.o.cZ.mono dF.o.size);by_cases br:k<ops.length
  ·obtain⟨aE,wS,rfl,CA,eb⟩:=Fs.o k br
   have c8:=eb 0 (by omega);have dr:=eb 1 (by omega);have en:=eb 2 (by omega);have d_:=eb 3 (by omega);have ev:=eb 4 (by omega);have gv:=eb 5 (by omega);simp only[gw.cells,jg,kK,j3]at c8 dr en d_ ev gv;have dm:=bZ k6.o c8;have dz:=bZ k6.o dr;have ei:=bZ k6.o en;have fG:=bZ k6.o d_;have ib:=bZ k6.o ev;have j2:=bZ k6.o gv;have o3:aE<wr.heap.size:=by have:=k6.o.size;omega
   have h4:=J (zR.o k br);obtain⟨p,aw⟩:∃p,ops[k]=p:=⟨_,rfl⟩;rw[aw]at dm dz ei fG ib j2 h4;clear c8 dr en d_ ev gv eb CA aw;have yH:Hid (¬P= .pointer none->Calls prog 18 #[P,p.agg] wr (Fp P Q (k+1) an)):=fun h=>(ac9 a1.o.1 h a1.o.2.1 (by omega) (by omega) h4.o).mono fun _ _=>ac7 a1.o
   have yI:Hid (¬P= .pointer none->Calls prog 17 #[P,Q,p.agg] wr (Fp P Q (k+1) an)):=fun h=>(ac_ a1.o.1 h a1.o.2.1 (by omega) h4.o).mono fun _ _=>ac7 a1.o
   have yJ:Hid (¬Q= .pointer none->Calls prog 18 #[Q,p.agg] wr (Fp P Q (k+1) an)):=fun h=>(ac9 a1.o.2.1 h a1.o.1 (by omega) (by omega) h4.o).mono fun _ _=>ac8 a1.o
   have bA:Hid (¬Q= .pointer none->Calls prog 17 #[Q,P,p.agg] wr (Fp P Q (k+1) an)):=fun h=>(ac_ a1.o.2.1 h a1.o.1 (by omega) h4.o).mono fun _ _=>ac8 a1.o
   have PC:Hid (¬P= .pointer none->∀W iK,Hid (tM P Q (k+1) an W iK)->Calls prog 19 #[P] W (bx (.bool true) fun w'=>Hid (tM P Q (k+1) an w' iK))):=fun h W iK H=>(abe H.o.1 h (by omega)).mono fun _ _ h=>⟨h.1,H.o.below h.2⟩
   have PD:Hid (¬Q= .pointer none->∀W iK,Hid (tM P Q (k+1) an W iK)->Calls prog 19 #[Q] W (bx (.bool true) fun w'=>Hid (tM P Q (k+1) an w' iK))):=fun h W iK H=>(abe H.o.2.1 h (by omega)).mono fun _ _ h=>⟨h.1,H.o.below h.2⟩
   have fr:Hid (tM P Q (k+1) an wr o'):=⟨a1.o.1.more,a1.o.2.1.more,a1.o.2.2⟩;have akj:(k:Int).tmod 2=0∨(k:Int).tmod 2=1:=by rw[Int.tmod_eq_emod_of_nonneg (by omega)];omega
   have MW:(p.kind==16)=false∨(p.kind==16)=true:=by cases p.kind==16<;>simp
   clear a1 h4 k6 Fs zR;rcases lI with rfl|⟨L3,rfl⟩<;>rcases lH with rfl|⟨gR,rfl⟩<;>rcases akj with hm|hm
   all_goals try(go_wp2_with fail;exact⟨⟨k+1,o',by omega,by go_num,fr.o⟩,by simp[intOf];omega⟩)
   ·rcases MW with nt|nt
    all_goals
     go_wp2_with fail
     first|refine(yJ.o (by simp)).mono ?_|refine(bA.o (by simp)).mono ?_
     rintro e cc ⟨rfl,hr,cd⟩;clear dm dz ei fG ib j2 yH yI yJ bA fr;go_wp2_with fail
     refine(PD.o (by simp) _ _ cd).mono ?_;rintro e w5 ⟨rfl,cR⟩;clear cd;go_wp2_with fail
     exact⟨⟨k+1,hr,by omega,by go_num,cR.o⟩,by simp[intOf];omega⟩
   ·rcases MW with nt|nt
    all_goals
     go_wp2_with fail
     first|refine(yH.o (by simp)).mono ?_|refine(yI.o (by simp)).mono ?_
     rintro e cc ⟨rfl,hr,cd⟩;clear dm dz ei fG ib j2 yH yI yJ bA fr;go_wp2_with fail
     refine(PC.o (by simp) _ _ cd).mono ?_;rintro e w5 ⟨rfl,cR⟩;clear cd;go_wp2_with fail
     exact⟨⟨k+1,hr,by omega,by go_num,cR.o⟩,by simp[intOf];omega⟩
   ·rcases MW with nt|nt
    all_goals
     go_wp2_with fail
     first|refine(yH.o (by simp)).mono ?_|refine(yI.o (by simp)).mono ?_
     rintro e cc ⟨rfl,hr,cd⟩;clear dm dz ei fG ib j2 yH yI yJ bA fr;go_wp2_with fail
     refine(PC.o (by simp) _ _ cd).mono ?_;rintro e w5 ⟨rfl,cR⟩;clear cd;go_wp2_with fail
     refine(PD.o (by simp) _ _ cR).mono ?_;rintro e eS ⟨rfl,dL⟩;clear cR;go_wp2_with fail
     exact⟨⟨k+1,hr,by omega,by go_num,dL.o⟩,by simp[intOf];omega⟩
   ·rcases MW with nt|nt
    all_goals
     go_wp2_with fail
     first|refine(yJ.o (by simp)).mono ?_|refine(bA.o (by simp)).mono ?_
     rintro e cc ⟨rfl,hr,cd⟩;clear dm dz ei fG ib j2 yH yI yJ bA fr;go_wp2_with fail
     refine(PC.o (by simp) _ _ cd).mono ?_;rintro e w5 ⟨rfl,cR⟩;clear cd;go_wp2_with fail
     refine(PD.o (by simp) _ _ cR).mono ?_;rintro e eS ⟨rfl,dL⟩;clear cR;go_wp2_with fail
     exact⟨⟨k+1,hr,by omega,by go_num,dL.o⟩,by simp[intOf];omega⟩
  ·go_wp2_with fail
   go_ret;exact⟨rfl,k6.o⟩
end Go.Proofs.YtiplgdkpnhamaaaGreatDoor.Tv
