import Derived.Test.YtiplgdkpnhamaaaGreatDoorT42
import Derived.Test.YtiplgdkpnhamaaaGreatDoorT38
import Derived.Test.YtiplgdkpnhamaaaGreatDoorT41
namespace Go.Proofs.YtiplgdkpnhamaaaGreatDoor.Tv
open Go.Proofs.Tryz List
open Go.RowKit
variable {hs:List aT}{i n:Nat}{x:dD}
theorem Tc {bg:dD}{w:World}{o:Nat->Tag}{t:Tag}{b:Nat}{d:aZ}(h:aX bg w o t b n i d)(r:Nat):bg.gone r<=e1 d.hs r:=by
 obtain⟨p,-,aE,st,b8,tbs,cX,av,aY,ae⟩:=h;exact ae.xF r
theorem agI (h:dB n hs){r:Nat}(aJ:n<=r):e1 hs r=0:=by
 unfold e1;rw[Hv,filter_eq_nil_iff];intro u hu;obtain⟨j,af,rfl⟩:=fQ.1 hu;have:=(h.tx j af).vw;have:=(h.tx j af).G_;simp;omega
theorem Yr {n:Nat}{hs:List aT}{x:dD}(aM:∀r,x.gone r<=e1 hs r):∀m,m<=n->(oB hs x m:Int)=lK (cb n hs) (jj n x) m
 |0,_=>rfl
 |m+1,h=>by
  have a:=Yr (n:=n) aM m (by omega);have b:=aM m;have c:(h8 hs m (x.gone m)).length=e1 hs m-x.gone m:=tf hs m _;unfold oB lK;rw[k2 (show m<n by omega),IS x (show m<n by omega),c];omega
theorem ajj {n:Nat}{hs:List aT}{x:dD}(h:dB n hs):∀m,n<=m->oB hs x m=oB hs x n:=by
 intro m hm;induction m with
 |zero=>rw[show n=0 by omega]
 |succ m ih=>
  by_cases c:n=m+1
  ·rw[c]
  ·have a:=ih (by omega)
   have b:=agI h (r:=m) (by omega);have e:(h8 hs m (x.gone m)).length=e1 hs m-x.gone m:=tf hs m _;show oB hs x m+(h8 hs m (x.gone m)).length=_
   omega
theorem Q8 (h:dB n hs)(aM:∀r,x.gone r<=e1 hs r):(oB hs x 5:Int)=lK (cb n hs) (jj n x) n:=by
 rw[ajj h 5 h.n5];exact Yr aM n cv
theorem go_held {hs:List aT}{x:dD}{v:aW}(aM:∀r,x.gone r<=e1 hs r)(av:∀s:Nat,(v.get s).toNat<=e1 hs s):∀m,m<=5->goN hs x v m+oB hs (lY x v 5) m=oB hs x m
 |0,_=>rfl
 |m+1,h=>by
  have a:=go_held aM av m (by omega);have b:=aM m;have c:=av m;have aP:(h8 hs m (x.gone m)).length=e1 hs m-x.gone m:=tf hs m _;have ba:(h8 hs m ((lY x v 5).gone m)).length=e1 hs m-(lY x v 5).gone m:=tf hs m _;have ey:(lY x v 5).gone m=max (x.gone m) (v.get m).toNat:=by
   show(if m<5 then _ else _)=_
   rw[if_pos (by omega)]
  unfold goN oB s7;rw[aP,ba,ey];omega
theorem aaw {n i:Nat}(x:dD)(v:aW){r:Nat}(aJ:r<n):∀k,qh (jM n x) i r (v.get r) k=(iz x i v k).get r
 |0=>rfl
 |k+1=>by
  have a:=aaw (i:=i) x v aJ k;unfold qh iz;rw[Sr x k aJ,a];by_cases c:k=i
  ·rw[if_pos c,if_neg (fun h=>h.1 c)]
  ·rw[if_neg c,aaD]
   split
   ·rename_i h;have:=h.2;omega
   ·rename_i h
    have:¬(x.aY k).get r<(iz x i v k).get r:=fun q=>h ⟨c,q⟩
    omega
theorem Xi (b2:n<=5)(x:dD)(hs:List aT):fB (jj n x) (kZ (jM n x) i n (cb n hs)) n=jj n (lY x (iz x i (bJ (cb n hs)) n) 5):=by
 have aC:(jj n x).length=n:=by simp[jj]
 refine yp (by rw[vA];simp[jj]) fun r h1 ae=>?_
 rw[vA,aC]at h1;have Xp:r<(fB (jj n x) (kZ (jM n x) i n (cb n hs)) n).length:=by rw[vA,aC];exact h1
 have a:(fB (jj n x) (kZ (jM n x) i n (cb n hs)) n)[r]=(fB (jj n x) (kZ (jM n x) i n (cb n hs)) n).getD r 0:=by simp[Xp]
 have b:(jj n (lY x (iz x i (bJ (cb n hs)) n) 5))[r]=(jj n (lY x (iz x i (bJ (cb n hs)) n) 5)).getD r 0:=by simp[ae]
 have c:(kZ (jM n x) i n (cb n hs)).getD r 0=qh (jM n x) i r ((cb n hs).getD r 0) n:=by simp[kZ,h1]
 have e:(cb n hs).getD r 0=(bJ (cb n hs)).get r:=by rw[pS (by rw[kH];exact b2),kL]
 have f:(lY x (iz x i (bJ (cb n hs)) n) 5).gone r=max (x.gone r) ((iz x i (bJ (cb n hs)) n).get r).toNat:=by
  show(if r<5 then _ else _)=_
  rw[if_pos (by omega)]
 rw[a,b,E5 _ _ _ _ (by rw[aC];exact h1),if_pos h1,c,e,aaw x _ h1,IS _ h1,IS _ h1,f];omega
theorem anx (h:dB n hs)(aM:∀r,x.gone r<=e1 hs r):(goN hs x (iz x i (bJ (cb n hs)) n) 5:Int)=lK (cb n hs) (jj n x) n-lK (cb n hs) (fB (jj n x) (kZ (jM n x) i n (cb n hs)) n) n:=by
 have av:∀s:Nat,((iz x i (bJ (cb n hs)) n).get s).toNat<=e1 hs s:=fun s=>WL h.n5 x i hs n s
 have a:=go_held aM av 5 cv;have vh:∀r,(lY x (iz x i (bJ (cb n hs)) n) 5).gone r<=e1 hs r:=fun r=>by
  show(if r<5 then _ else _)<=_
  have:=aM r;have:=av r;split<;>omega
 have b:=Q8 h aM;have c:=Q8 h vh;rw[Xi h.n5];omega
theorem Xe (w:World)(o:Nat->Tag)(s aj az n:Nat)(aI ak:List Nat)(aG aK aN ah:Value)(ar:Int)(m:iM)(K:Nat)(p:gw)(aw:p.Ok)(hk:p.kind=14∨p.kind=15)
  (h:pr s aj az n aI ak aG aK aN ah ar m K w o)(hn:0<n)(b2:n<=5)(cx:K<=1050000):
  Calls prog 53 #[ptr aj,p.agg] w (bx (.bool true) fun w'=>∃o',pr s aj az n aI ak aG aK aN ah ar m (K+1) w' o'∧dS (fN s) w o w' o'):=by
 obtain⟨a6,a8,a7,ts,X,L,H⟩:=h;have al:=H.al;have aC:=H.aC;have p9:∀(i:Nat) (d:aZ),a7[i]?=some d->∀r,0<=d.ag.getD r 0∧d.ag.getD r 0<=2000000:=fun i d aB r=>by
  obtain⟨b,ha⟩:=H.eQ aB;rw[(aX.df ha).2.1];exact Uc (by have:=H.ea aB;omega) r
 have Q1:∀i,i<n->∀r,0<=(jj n (X i)).getD r 0∧(jj n (X i)).getD r 0<=2000000:=fun i aq r=>by
  have th:i<a7.length:=by have:=H.law.qM;omega
  have aB:a7[i]?=some a7[i]:=hg th;obtain⟨b,ha⟩:=H.eQ aB;by_cases c:r<n
  ·rw[IS _ c]
   have:=Tc ha r;have:=qL a7[i].hs r;have:=H.ea aB;omega
  ·have:(jj n (X i)).getD r 0=0:=by simp[jj,show n<=r by omega]
   rw[this];omega
 rcases hk with e|e
 ·refine(apE aX X (fun i=>jM n (X i)) (fun i=>jj n (X i)) (fun X=>pN X) w o s aj az n aI ak a6 a8 aG aK aN ah ar m a7 ts p aw e H.law hn b2 (fun i d=>lY (X i) (iz (X i) i (bJ (cb n d.hs)) n) 5) (fun i b d W iK aq aB ha=>?_) p9 Q1).mono ?_
  ·have au:=anz ha (by have:=H.ea aB;omega)
   obtain⟨dQ,av,-⟩:=aX.df ha;rw[av,<-anx dQ (Tc ha)];exact au
  ·rintro e w' ⟨rfl,o',i,d,aq,aB,eg,M⟩
   obtain⟨eF,dY⟩:=zk H.low (M.mono fun _=>x5);obtain⟨b,ha⟩:=H.eQ aB;obtain⟨dQ,av,-⟩:=aX.df ha;rw[av,Xi b2]at eg;have aP:nd (fun i=>jj n (X i)) i (jj n (lY (X i) (iz (X i) i (bJ (cb n d.hs)) n) 5))=fun k=>jj n (nd X i (lY (X i) (iz (X i) i (bJ (cb n d.hs)) n) 5) k):=by
    funext k;by_cases c:k=i
    ·subst c;rw[Bb,Bb]
    ·rw[Ba c,Ba c]
   have ba:(fun k=>jM n (X k))=fun k=>jM n (nd X i (lY (X i) (iz (X i) i (bJ (cb n d.hs)) n) 5) k):=by
    funext k;by_cases c:k=i
    ·subst c;rw[Bb];rfl
    ·rw[Ba c]
   rw[aP,ba]at eg;exact⟨rfl,o',⟨a6,a8,a7,ts,_,L,eg,H.ways.law M,H.plain,H.ke.kept dY,eF,by omega,by omega⟩,M⟩
 ·refine(apD _ _ _ (pN X) w o s aj az n aI ak a6 a8 aG aK aN ah ar m a7 ts p aw e H.law hn b2 (fun i b d W iK aq aB ha=>?_) p9 Q1).mono ?_
  ·have au:=aji ha (by have:=H.ea aB;omega)
   obtain⟨dQ,av,-⟩:=aX.df ha;rw[av,<-Q8 dQ (Tc ha)];exact au
  ·rintro e w' ⟨rfl,o',eg,M⟩
   obtain⟨eF,dY⟩:=zk H.low (M.mono fun _=>x5);exact⟨rfl,o',⟨a6,a8,a7,ts,X,L,eg,H.ways.law M,H.plain,H.ke.kept dY,eF,by omega,by omega⟩,M⟩
end Go.Proofs.YtiplgdkpnhamaaaGreatDoor.Tv
