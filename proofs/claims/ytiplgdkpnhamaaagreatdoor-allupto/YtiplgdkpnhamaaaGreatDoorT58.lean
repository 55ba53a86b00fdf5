import Derived.Test.YtiplgdkpnhamaaaGreatDoorT10
import Derived.Test.YtiplgdkpnhamaaaGreatDoorT04
set_option maxHeartbeats 1000000
namespace Go.Proofs.YtiplgdkpnhamaaaGreatDoor
open Go.Proofs.Tryz
open Go.RowKit
def lD (ah bw:Value)(w:World)(o:Nat->Tag)(s i b n:Nat)(d:aZ):Prop:=∃bD v xs,k8 w o s i b n bD v ah bw xs d
theorem lD.bare {ah bw:Value}{w:World}{o:Nat->Tag}{s i b n:Nat}{d:aZ}(h:lD ah bw w o s i b n d):kv w o s i b n d:=by
 obtain⟨bD,v,xs,h⟩:=h;exact⟨bD,v,ah,bw,xs,h⟩
theorem alR (ah bw:Value)(w:World)(o:Nat->Tag)(s i b n:Nat)(d:aZ)(h:lD ah bw w o s i b n d)(hn:1<=n)(b2:n<=5):
  Calls prog 87 #[.pointer (some (aa b 0))] w (bx (tX d) fun w'=>∃o',lD ah bw w' o' s i b n (pt d)∧ct (lu s i) w o w' o'):=by
 obtain⟨bD,v,xs,h⟩:=h;have rG:=ah3 h;have aC:=h.len;by_cases ep:lX xs<6
 ·refine(anX w b i bD v ah bw d.ag xs h.ea (by omega) (by omega) h.U.U h.ag.row h.row.row (fun e=>by have a:=h.row.tag b e;rw[h.U.tag]at a;simp at a) ep).mono ?_
  rintro e w' ⟨sv,v',rfl,P⟩;obtain⟨o',bI,aD⟩:=afY h ep P;have aP:=rG.1 ep;refine⟨by rw[tX,if_pos (by omega),aP],o',⟨bD,v',putAt xs (lX xs) ⟨true,0,0,sv,.slice none 0 0⟩,?_⟩,aD⟩;rw[pt,if_pos (by omega),aP];exact bI
 ·refine(anW w b v xs h.ea (h.U.U.cell 2) h.row.row (by omega)).mono ?_
  rintro e w' ⟨rfl,rfl⟩;have aP:=rG.2 (by omega);refine⟨by rw[tX,if_neg (by omega)],o,⟨bD,v,xs,?_⟩,ct.refl _ _ _⟩;rw[pt,if_neg (by omega)];exact h
theorem alP (ah bw:Value)(w:World)(o:Nat->Tag)(s i b n:Nat)(d:aZ)(tx:Int)(h:lD ah bw w o s i b n d):
  Calls prog 92 #[.pointer (some (aa b 0)),I tx] w (bx (vR d tx) fun w'=>∃o',lD ah bw w' o' s i b n (tU d tx)∧ct (lu s i) w o w' o'):=by
 obtain⟨bD,v,xs,h⟩:=h;have eI:=NQ h tx;cases aB:du d tx with
 |none=>
  rw[aB]at eI;refine(anR w b v xs tx h.ea (h.U.U.cell 2) h.row.row eI).mono ?_;rintro e w' ⟨rfl,rfl⟩;refine⟨by rw[vR,aB];rfl,o,⟨bD,v,xs,?_⟩,ct.refl _ _ _⟩;rw[tU,aB];exact h
 |some t=>
  obtain⟨k,rfl,hk,gi⟩:=NR h aB;refine(anS w b v xs k h.ea hk (h.U.U.cell 2) h.row.row (by rw[h.bH k hk,gi];rfl)).mono ?_;rintro e w' ⟨rfl,bf,al⟩;obtain⟨bI,aD⟩:=WH h hk bf al;refine⟨by rw[vR,aB];rfl,o,⟨bD,v,xs.set k {xs[k]with fA:=false},?_⟩,aD⟩;rw[tU,aB];exact bI
theorem alT (ah bw:Value)(w:World)(o:Nat->Tag)(s i b n:Nat)(d:aZ)(tx:Int)(p:db)(h:lD ah bw w o s i b n d)(AL:p.kind=1∨p.kind=2∨p.kind=3∨p.kind=4)(eC:p.key.size<=maxLen)(me:p.value.size<=maxLen):
  Calls prog 93 #[.pointer (some (aa b 0)),I tx,.agg #[I p.kind,ai p.key,ai p.value,I p.cH]] w (bx (I (h6 (du d tx) p)) fun w'=>∃o',lD ah bw w' o' s i b n (jx d tx p)∧ct (lu s i) w o w' o'):=by
 obtain⟨bD,v,xs,h⟩:=h;have eI:=NQ h tx;cases aB:du d tx with
 |none=>
  rw[aB]at eI;refine(ag8 w b v xs tx p h.ea (h.U.U.cell 2) h.row.row eI).mono ?_;rintro e w' ⟨rfl,ao⟩;refine⟨rfl,o,⟨bD,v,xs,?_⟩,ct.dh ao⟩;rw[jx,aB];exact h.below ao
 |some t=>
  obtain⟨k,rfl,hk,gi⟩:=NR h aB;have qX:xs[k].fA=true:=by rw[h.bH k hk,gi];rfl
  obtain⟨cO,a2,a3,a4⟩:=h.tx k hk t gi;have av:=h.U.U.cell 2;have ft:=h.U.U.lt;have bad:∀(r:Int),h6 (some t) p=r->¬r=0->∀{e:Ending} {w':World},(e= .returned (I r)∧ax w w')->(e= .returned (I (h6 (some t) p))∧∃o',lD ah bw w' o' s i b n (jx d (k:Int) p)∧ct (lu s i) w o w' o'):=by
   rintro r aJ aS e w' ⟨rfl,ao⟩;refine⟨by rw[aJ],o,⟨bD,v,xs,?_⟩,ct.dh ao⟩;simp only[jx,aB];rw[if_neg (by rw[aJ];exact aS)];exact h.below ao
  have aiq:h6 (some t) p=0->t.ops.length<16->∀{e:Ending} {w':World},(∃pJ,e= .returned (I 0)∧Le w w' v xs k t.ops p pJ)->(e= .returned (I (h6 (some t) p))∧∃o',lD ah bw w' o' s i b n (jx d (k:Int) p)∧ct (lu s i) w o w' o'):=by
   rintro aJ nt e w' ⟨pJ,rfl,P⟩;obtain⟨o',bI,aD⟩:=ag7 h hk gi nt P;refine⟨by rw[aJ],o',⟨bD,v,xs.set k {xs[k]with bU:=pJ},?_⟩,aD⟩;simp only[jx,aB];rw[if_pos aJ];exact bI
  have wk:¬xs[k].bU.ownBlock=v.ownBlock:=by
   obtain⟨g,cap,rfl,-⟩:=h.row.row.pos (by omega);intro e;have c:=a4.tag g e;rw[h.row.tag g rfl]at c;simp at c
  have vm:¬xs[k].bU.ownBlock=some b:=fun e=>by
   have c:=a4.tag b e;rw[h.U.tag]at c;simp at c
  obtain⟨kind,key,val,cH⟩:=p;simp only at AL eC me;have B:=fun r aJ=>an1 w b v xs k kind key val cH t.ops h.ea hk ft eC me av h.row.row qX a2 a4.row AL r aJ
  by_cases hb:kindOf key=kF kind
  ·by_cases GI:(kind=1∧(cH< -1000000∨1000000<cH))∨(¬kind=1∧8<val.size)
   ·have aJ:h6 (some t) ⟨kind,key,val,cH⟩=3:=by simp only[h6];rw[if_neg (fun c=>c hb),if_pos GI]
    exact(B 3 (.inr ⟨hb,.inl ⟨rfl,GI⟩⟩)).mono fun e w'=>bad 3 aJ (by decide)
   ·by_cases bm:16<=t.ops.length
    ·have aJ:h6 (some t) ⟨kind,key,val,cH⟩=5:=by simp only[h6];rw[if_neg (fun c=>c hb),if_neg GI,if_pos bm]
     exact(B 5 (.inr ⟨hb,.inr ⟨rfl,GI,bm⟩⟩)).mono fun e w'=>bad 5 aJ (by decide)
    ·have aJ:h6 (some t) ⟨kind,key,val,cH⟩=0:=by simp only[h6];rw[if_neg (fun c=>c hb),if_neg GI,if_neg bm]
     exact(ag6 w b v xs k kind key val cH t.ops h.ea hk ft eC me av h.row.row qX a2 a4.row AL hb GI (by omega) wk vm).mono fun e w'=>aiq aJ (by omega)
  ·have aJ:h6 (some t) ⟨kind,key,val,cH⟩=2:=by simp only[h6];rw[if_pos hb]
   exact(B 2 (.inl ⟨rfl,hb⟩)).mono fun e w'=>bad 2 aJ (by decide)
theorem alS (ah bw:Value)(w:World)(o:Nat->Tag)(s i b az n:Nat)(bs:List Nat)(d:aZ)(ts:List aT)(tx:Int)(h:lD ah bw w o s i b n d)(G:uQ w o s az n bs ts)(aq:i<n)(b2:n<=5)(mc:ts.length<2000000)(hp:∀j (af:j<d.ag.length),0<=d.ag[j]∧d.ag[j]<=2000000):
  Calls prog 91 #[.pointer (some (aa az 0)),.pointer (some (aa b 0)),I tx] w (bx (sa i d tx) fun w'=>∃o',lD ah bw w' o' s i b n (p4 i d tx)∧uQ w' o' s az n bs (Ai i d tx ts)∧dS (Ad s i) w o w' o'):=by
 obtain⟨bD,v,xs,h⟩:=h;obtain⟨a6,de,c_,G⟩:=G;have eI:=NQ h tx;have aC:=h.len;cases aB:du d tx with
 |none=>
  rw[aB]at eI;refine(anZ w az b v xs tx h.ea (h.U.U.cell 2) h.row.row eI).mono ?_;rintro e w' ⟨rfl,ao⟩;refine⟨by rw[sa,aB],o,⟨bD,v,xs,?_⟩,⟨a6,de,c_,?_⟩,(ct.dh (A:=lu s i) ao).da fun _=>Or.inl⟩
  ·rw[p4,aB];exact h.below ao
  ·rw[Ai,aB];exact G.below ao
 |some t=>
  obtain⟨k,rfl,hk,gi⟩:=NR h aB;have qX:xs[k].fA=true:=by rw[h.bH k hk,gi];rfl
  obtain⟨cO,a2,a3,a4⟩:=h.tx k hk t gi;obtain⟨mJ,nE,iJ,-⟩:=a4.row.shape;obtain⟨wS,mL,jl,-⟩:=a3.row.shape;have ZF:¬v.ownBlock=some b:=fun e=>by have c:=h.row.tag b e;rw[h.U.tag]at c;simp at c
  by_cases aS:t.ops.length=0
  ·rw[aS]at iJ
   refine(anY w az b v xs k mJ nE h.ea hk h.U.U.lt (h.U.U.cell 2) h.row.row qX iJ ZF).mono ?_;rintro e w' ⟨rfl,bf,al⟩;obtain⟨bI,aD⟩:=WH h hk bf al;refine⟨by simp only[sa,aB];rw[if_pos aS],o,⟨bD,v,xs.set k {xs[k]with fA:=false},?_⟩,⟨a6,de,c_,?_⟩,aD.da fun _=>Or.inl⟩
   ·simp only[p4,aB];rw[if_pos aS];exact bI
   ·simp only[Ai,aB];rw[if_pos aS]
    exact G.ay aD (fun ed aM aJ=>by
     rcases aM with⟨x,rfl⟩|⟨x,rfl|rfl⟩<;>simp[lu]at aJ)
  ·obtain⟨m,hm⟩:∃m,t.ops.length=m+1:=⟨t.ops.length-1,by omega⟩
   rw[hm]at iJ;have a1:jv (vY s i) w o w o (s+8,0,0) (s+8,2,0) (s+2,i,0) (s+3,i,0) (s+4,i,0) az b n i a6 de bD v ah bw d.ag c_ xs:=⟨G.U,G.all,h.U,h.ag,h.row,ct.refl _ _ _⟩;refine(an0 (vY s i) w o _ _ _ _ _ ⟨by simp,by simp,by simp,by simp,by simp,by simp,by simp,by simp,by simp,by simp⟩ az b n i a6 de bD v ah bw d.ag c_ xs k h.ea hk (by omega) (by omega) (hp i (by omega)) (by have:=G.len;omega) a1 ⟨Or.inl rfl,Or.inr (Or.inl rfl),Or.inr (Or.inr (Or.inl rfl)),Or.inr (Or.inr (Or.inr rfl))⟩ qX mJ wS m nE n mL iJ jl (by omega)).mono ?_;rintro e w' ⟨rfl,o',yL,C⟩;obtain⟨dx,bI,kB,bK⟩:=agN h G hk gi (by omega) mc C;have AH:d.ag.getD i 0=d.ag[i]'(by omega):=by simp[show i<d.ag.length by omega]
   refine⟨by simp only[sa,aB];rw[if_neg aS,AH],dx,⟨bD,v,xs.set k {xs[k]with fA:=false},?_⟩,⟨a6,yL,c_++[{xs[k]with fA:=false,rep:=i,seq:=d.ag[i]'(by omega)+1}],?_⟩,bK⟩
   ·simp only[p4,aB];rw[if_neg aS];exact bI
   ·simp only[Ai,aB];rw[if_neg aS];exact kB
end Go.Proofs.YtiplgdkpnhamaaaGreatDoor
