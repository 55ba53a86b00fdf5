import Derived.Test.YtiplgdkpnhamaaaGreatDoorT58
import Derived.Test.YtiplgdkpnhamaaaGreatDoorT12
import Derived.Deep.RegionWith
import Derived.Deep.DeepCutAuto
set_option maxHeartbeats 16000000
set_option maxRecDepth 100000
namespace Go.Proofs.YtiplgdkpnhamaaaGreatDoor
open Go.Proofs.Tryz List
open Go.RowKit
variable {gone:List Int}{bw ah:Value}{i n s:Nat}{aY:Nat->List Int}{o o':Nat->Tag}{w w':World}
structure nR (w:World)(o:Nat->Tag)(s i n:Nat)(ah bw:Value)(aY:Nat->List Int)(gone:List Int):Prop where
 row:∃ks:List Value,ks.length=n∧b3 w o (s+7,i,0) 44 1 ah n ks∧∀j,j<n->∃dV,ks[j]?=some dV∧b3 w o (s+7,i,j+2) 3 1 dV n (ints (aY j))
 uf:b3 w o (s+7,i,1) 3 1 bw n (ints gone)
 lL:∀j,j<n->(aY j).length=n
 F9:gone.length=n
theorem nR.move (h:nR w o s i n ah bw aY gone)
  (hm:∀q,q<w.heap.size->(∃j,o q=(s+7,i,j))->w'.heap[q]?=w.heap[q]?∧o' q=o q):nR w' o' s i n ah bw aY gone:=by
 have f:∀j q,q<w.heap.size->o q=(s+7,i,j)->w'.heap[q]?=w.heap[q]?∧o' q=(s+7,i,j):=fun j q ad e=>by
  have:=hm q ad ⟨j,e⟩;exact⟨this.1,this.2.trans e⟩
 obtain⟨ks,h1,ae,aH⟩:=h.row;refine⟨⟨ks,h1,ae.fp (f _),fun j af=>?_⟩,h.uf.fp (f _),h.lL,h.F9⟩;obtain⟨dV,e,p⟩:=aH j af;exact⟨dV,e,p.fp (f _)⟩
theorem nR.ay {A:Tag->Prop}(h:nR w o s i n ah bw aY gone)(k:ct A w o w' o')(eK:∀j,¬A (s+7,i,j)):nR w' o' s i n ah bw aY gone:=
 h.move fun q ad ⟨j,e⟩=>⟨k.ay.block q ad (by rw[e];exact eK j),k.same q ad⟩
theorem nR.da {B:Tag->Prop}(h:nR w o s i n ah bw aY gone)(k:dS B w o w' o')(ao:∀j,¬B (s+7,i,j)):nR w' o' s i n ah bw aY gone:=
 h.move fun q ad ⟨j,e⟩=>k.at ad (by rw[e];exact ao j)
def rR (aY:Nat->List Int)(j:Nat)(l:List Int):Nat->List Int:=fun k=>if k=j then l else aY k
theorem nR.aap {j:Nat}{dV:Value}{ks:List Value}{l:List Int}(h:nR w o s i n ah bw aY gone)(af:j<n)(aC:l.length=n)
  (h1:ks.length=n)(ae:b3 w o (s+7,i,0) 44 1 ah n ks)(aH:∀j,j<n->∃dV,ks[j]?=some dV∧b3 w o (s+7,i,j+2) 3 1 dV n (ints (aY j)))(nx:ks[j]?=some dV)(bf:Row w' 3 1 dV n (ints l))(al:Touch (fun q=>dV.ownBlock=some q) w w')(hs:∀q,q<w.heap.size->o' q=o q):
  nR w' o' s i n ah bw (rR aY j l) gone∧ct (fun t=>t=(s+7,i,j+2)) w o w' o':=by
 obtain⟨ato,e,p⟩:=aH j af;rw[nx]at e;cases e;have aD:ct (fun t=>t=(s+7,i,j+2)) w o w' o':=⟨al.mono fun q _ c=>p.tag q c,hs⟩;refine⟨⟨⟨ks,h1,ae.ay aD (by simp),fun k hk=>?_⟩,h.uf.ay aD (by simp),fun k hk=>?_,h.F9⟩,aD⟩
 ·by_cases c:k=j
  ·subst c
   refine⟨dV,nx,⟨by simpa[rR]using bf,fun q ad=>?_⟩⟩;rw[hs q (p.lt ad)];exact p.tag q ad
  ·obtain⟨Si,e,anj⟩:=aH k hk
   refine⟨Si,e,?_⟩;simp only[rR,if_neg c];exact anj.ay aD (by simp;omega)
 ·by_cases c:k=j
  ·simp[rR,c,aC]
  ·simp only[rR,if_neg c];exact h.lL k hk
structure r6 (w:World)(o:Nat->Tag)(t:Tag)(n:Nat)(bD lh aG:Value)(vec frm upt:List Int):Prop where
 vec:b3 w o t 3 1 bD n (ints vec)
 frm:b3 w o t 3 1 lh frm.length (ints frm)
 A_:b3 w o t 3 1 aG upt.length (ints upt)
theorem alX (ah bw:Value)(w:World)(o:Nat->Tag)(s i b n:Nat)(d:aZ)(bt:Tag)(h:lD ah bw w o s i b n d)(hn:1<=n)(b2:n<=5):
  Calls prog 97 #[.pointer (some (aa b 0))] w fun e w'=>∃v',e= .returned (zj false i v' (.slice none 0 0) (.slice none 0 0))∧ax w w'∧r6 w' (gX o w.heap.size fun _=>bt) bt n v' (.slice none 0 0) (.slice none 0 0) d.ag [] []:=by
 obtain⟨bD,v,xs,h⟩:=h;have av:=h.ag.row;rw[h.len]at av;refine(aoF w b n i bD d.ag h.len hn b2 h.U.U.lt (h.U.U.cell 0) (h.U.U.cell 1) av).mono ?_;rintro e w' ⟨v',rfl,h1,ae,aH⟩;exact⟨v',rfl,aH,⟨h1,fun q ad=>qj (ae q ad)⟩,⟨by simpa[ints]using jD _ _ _ _,fun q ad=>by simp[Value.ownBlock]at ad⟩,⟨by simpa[ints]using jD _ _ _ _,fun q ad=>by simp[Value.ownBlock]at ad⟩⟩
theorem alQ (ah bw:Value)(w:World)(o:Nat->Tag)(s i b n j:Nat)(d:aZ)(aY:Nat->List Int)(gone:List Int)(aG bt:Tag)(rW:Bool)(v rY st:Value)(bz:List Int)(h:lD ah bw w o s i b n d)(cx:nR w o s i n ah bw aY gone)(av:b3 w o aG 3 1 v n (ints bz))(oY:bz.length=n)(wH:∀k,aG≠(s+7,i,k))(af:j<n)(hn:1<=n)(b2:n<=5):
  Calls prog 98 #[.pointer (some (aa b 0)),zj rW j v rY st] w fun e w'=>∃v' nr ed o',e= .returned (zj true i v' nr ed)∧r6 w' o' bt n v' nr ed d.ag (qN gone bz n) d.ag∧lD ah bw w' o' s i b n d∧nR w' o' s i n ah bw (rR aY j (fB (aY j) bz n)) gone∧ct (fun t=>t=(s+7,i,j+2)) w o w' o':=by
 obtain⟨bD,bU,xs,h⟩:=h;have hp:=h.ag;rw[h.len]at hp;obtain⟨ks,h1,ae,aH⟩:=cx.row;obtain⟨dV,nx,p⟩:=aH j af;refine(anV w b j n i rW bD bU ah bw v rY st dV ks d.ag (aY j) bz gone h.len (cx.lL j af) oY cx.F9 hn b2 af h1 h.U.U hp.row ae.row nx p.row av.row cx.uf.row ?_).mono ?_
 ·intro q ad
  have e:=p.tag q ad;refine⟨fun c=>?_,fun c=>?_,fun c=>?_,fun c=>?_,fun c=>?_⟩
  ·subst c;rw[h.U.tag]at e;simp at e
  ·rw[ae.tag q c]at e;simp at e
  ·rw[av.tag q c]at e;exact wH _ e
  ·rw[hp.tag q c]at e;simp at e
  ·rw[cx.uf.tag q c]at e;simp at e
 ·rintro e w' ⟨v',nr,ed,rfl,cB,b_,dW,iw,hL,al⟩
  have hs:∀q,q<w.heap.size->gX o w.heap.size (fun _=>bt) q=o q:=fun q ad=>nF ad
  obtain⟨K,T⟩:=cx.aap af (by rw[vA];exact cx.lL j af) h1 ae aH nx cB al hs;refine⟨v',nr,ed,gX o w.heap.size fun _=>bt,rfl,⟨⟨b_,fun q ad=>qj (hL q (Or.inl ad))⟩,⟨by rw[W9];exact dW,fun q ad=>qj (hL q (Or.inr (Or.inl ad)))⟩,⟨by rw[h.len];exact iw,fun q ad=>qj (hL q (Or.inr (Or.inr ad)))⟩⟩,⟨bD,bU,xs,h.ay T fun t al c=>?_⟩,K,T⟩;rcases al with rfl|rfl|rfl|⟨x,rfl|rfl⟩<;>simp at c
end Go.Proofs.YtiplgdkpnhamaaaGreatDoor
namespace Go.Proofs.YtiplgdkpnhamaaaGreatDoor.Tv
open Go.Proofs.Tryz List
open Go.RowKit
variable {j:Nat}
def kv (bk:Nat->Nat->List Int)(bQ:Nat->List Int)(w:World)(o:Nat->Tag)(s i b n:Nat)(d:aZ):Prop:=∃ah bw,lD ah bw w o s i b n d∧nR w o s i n ah bw (bk i) (bQ i)
section
variable {bk:Nat->Nat->List Int}{bQ:Nat->List Int}
theorem Tw {s i:Nat}:¬lu s i (s+7,i,j):=by
 rintro (e|e|e|⟨k,e|e⟩)<;>simp at e
theorem VT {s i akO:Nat}:¬Ad s i (s+7,akO,j):=by
 rintro ((e|e|e|⟨x,e|e⟩)|⟨x,e⟩|⟨x,e|e⟩)<;>simp at e
theorem kv.bare {w:World}{o:Nat->Tag}{s i b n:Nat}{d:aZ}(h:kv bk bQ w o s i b n d):Go.Proofs.YtiplgdkpnhamaaaGreatDoor.kv w o s i b n d:=by
 obtain⟨ah,bw,h,-⟩:=h;exact h.bare
theorem aog (w:World)(o:Nat->Tag)(s i b n:Nat)(d:aZ)(h:kv bk bQ w o s i b n d)(hn:1<=n)(b2:n<=5):
  Calls prog 87 #[.pointer (some (aa b 0))] w (bx (tX d) fun w'=>∃o',kv bk bQ w' o' s i b n (pt d)∧ct (lu s i) w o w' o'):=by
 obtain⟨ah,bw,h,K⟩:=h;refine(alR ah bw w o s i b n d h hn b2).mono ?_;rintro e w' ⟨rfl,o',h1,ae⟩;exact⟨rfl,o',⟨ah,bw,h1,K.ay ae fun _=>Tw⟩,ae⟩
theorem aof (w:World)(o:Nat->Tag)(s i b n:Nat)(d:aZ)(tx:Int)(h:kv bk bQ w o s i b n d):
  Calls prog 92 #[.pointer (some (aa b 0)),I tx] w (bx (vR d tx) fun w'=>∃o',kv bk bQ w' o' s i b n (tU d tx)∧ct (lu s i) w o w' o'):=by
 obtain⟨ah,bw,h,K⟩:=h;refine(alP ah bw w o s i b n d tx h).mono ?_;rintro e w' ⟨rfl,o',h1,ae⟩;exact⟨rfl,o',⟨ah,bw,h1,K.ay ae fun _=>Tw⟩,ae⟩
theorem aoi (w:World)(o:Nat->Tag)(s i b n:Nat)(d:aZ)(tx:Int)(p:db)(h:kv bk bQ w o s i b n d)(AL:p.kind=1∨p.kind=2∨p.kind=3∨p.kind=4)(eC:p.key.size<=maxLen)(me:p.value.size<=maxLen):
  Calls prog 93 #[.pointer (some (aa b 0)),I tx,.agg #[I p.kind,ai p.key,ai p.value,I p.cH]] w (bx (I (h6 (du d tx) p)) fun w'=>∃o',kv bk bQ w' o' s i b n (jx d tx p)∧ct (lu s i) w o w' o'):=by
 obtain⟨ah,bw,h,K⟩:=h;refine(alT ah bw w o s i b n d tx p h AL eC me).mono ?_;rintro e w' ⟨rfl,o',h1,ae⟩;exact⟨rfl,o',⟨ah,bw,h1,K.ay ae fun _=>Tw⟩,ae⟩
theorem aoh (w:World)(o:Nat->Tag)(s i b az n:Nat)(bs:List Nat)(d:aZ)(ts:List aT)(tx:Int)(h:kv bk bQ w o s i b n d)(G:uQ w o s az n bs ts)(aq:i<n)(b2:n<=5)(mc:ts.length<2000000)(hp:∀j (af:j<d.ag.length),0<=d.ag[j]∧d.ag[j]<=2000000):
  Calls prog 91 #[.pointer (some (aa az 0)),.pointer (some (aa b 0)),I tx] w (bx (sa i d tx) fun w'=>∃o',kv bk bQ w' o' s i b n (p4 i d tx)∧uQ w' o' s az n bs (Ai i d tx ts)∧dS (Ad s i) w o w' o'):=by
 obtain⟨ah,bw,h,K⟩:=h;refine(alS ah bw w o s i b az n bs d ts tx h G aq b2 mc hp).mono ?_;rintro e w' ⟨rfl,o',h1,ae,aH⟩;exact⟨rfl,o',⟨ah,bw,h1,K.da aH fun _=>VT⟩,ae,aH⟩
theorem Tr (w:World)(o:Nat->Tag)(s i b az n:Nat)(bs:List Nat)(d:aZ)(ts:List aT)(tx:Int)(key:ByteArray)(h:kv bk bQ w o s i b n d)(G:uQ w o s az n bs ts)(b2:n<=5)(eC:key.size<=maxLen)
  (im:∀t,du d tx=some t->DJ t ts):
  Calls prog 88 #[.pointer (some (aa az 0)),.pointer (some (aa b 0)),I tx,ai key] w fun e w'=>∃bz,e= .returned (oM (fu (du d tx) key ts n).1 bz (fu (du d tx) key ts n).2.2)∧
   w'.ownsRow w.heap.size 9 1 bz (fu (du d tx) key ts n).2.1.length (strs (fu (du d tx) key ts n).2.1)∧ax w w':=
 Go.Proofs.YtiplgdkpnhamaaaGreatDoor.Tr w o s i b az n bs d ts tx key h.bare G b2 eC im
end
abbrev iM:Type:=Nat->List Value->Prop
def oQ (m:Nat):iM:=fun _ l=>l.length<=m
structure cU (aX:World->(Nat->Tag)->Tag->Nat->Nat->Nat->aZ->Prop)(bk:Nat->Nat->List Int)(bQ:Nat->List Int)(w:World)(o:Nat->Tag)(s aj az n:Nat)(aI ak:List Nat)(a6 a8 aG aK aN ah:Value)(ar:Int)(m:iM)(eG b1:List aZ)(ts:List aT):Prop where
 U:cP w o (s+11,0,0) aj [a6,ptr az,a8,aG,aK,aN,ah,I ar] 94
 rs:b3 w o (s+11,1,0) 45 1 a6 aI.length (vu aI)
 texts:∃l,m 2 l∧b3 w o (s+11,2,0) 41 1 aG l.length l
 ye:∃l,m 3 l∧b3 w o (s+11,3,0) 3 1 aK l.length l
 x9:∃l,m 4 l∧b3 w o (s+11,4,0) 44 1 aN l.length l
 x7:∃l,m 5 l∧b3 w o (s+11,5,0) 3 1 ah l.length l
 hE:uQ w o s az n ak ts
 pe:aI.length=n
 pf:ak.length=n
 qM:eG.length=n
 sb:b1.length=n
 prog:∀i (h:i<n),aX w o (s+1,i,0) (aI[i]'(by omega)) n i (eG[i]'(by omega))
 ref:∀i (h:i<n),kv bk bQ w o s i (ak[i]'(by omega)) n (b1[i]'(by omega))
section
variable {aX:World->(Nat->Tag)->Tag->Nat->Nat->Nat->aZ->Prop}{bk:Nat->Nat->List Int}{bQ:Nat->List Int}{w w':World}{o o':Nat->Tag}{s aj az n i:Nat}{m:iM}{aI ak:List Nat}{a6 a8 aG aK aN ah:Value}{ar:Int}{eG b1:List aZ}{ts:List aT}
theorem cU.off {B:Tag->Prop}(P:gH aX)(h:cU aX bk bQ w o s aj az n aI ak a6 a8 aG aK aN ah ar m eG b1 ts)(k:dS B w o w' o')(ao:∀t,fN s t->t.1≠s+12->¬B t):cU aX bk bQ w' o' s aj az n aI ak a6 a8 aG aK aN ah ar m eG b1 ts:=by
 have f:∀a b c,1<=a->a<=11->¬B (s+a,b,c):=fun a b c h1 ae=>ao _ ⟨by simp;omega,by simp;omega⟩ (by simp;omega)
 obtain⟨eF,bT,dk⟩:=h.texts;obtain⟨dY,c6,eu⟩:=h.ye;obtain⟨ln,e0,eL⟩:=h.x9;obtain⟨od,fZ,fO⟩:=h.x7;obtain⟨jA,de,c_,G⟩:=h.hE;refine⟨h.U.da k (f 11 _ _ (by omega) (by omega)),h.rs.da k (f 11 _ _ (by omega) (by omega)),⟨eF,bT,dk.da k (f 11 _ _ (by omega) (by omega))⟩,⟨dY,c6,eu.da k (f 11 _ _ (by omega) (by omega))⟩,⟨ln,e0,eL.da k (f 11 _ _ (by omega) (by omega))⟩,⟨od,fZ,fO.da k (f 11 _ _ (by omega) (by omega))⟩,
  ⟨jA,de,c_,G.da k fun t al=>?_⟩,h.pe,h.pf,h.qM,h.sb,fun j af=>P.move (h.prog j af) fun q ad e=>?_,fun j af=>?_⟩
 ·rcases al with⟨x,rfl⟩|⟨x,rfl|rfl⟩
  ·exact f 8 _ _ (by omega) (by omega)
  ·exact f 9 _ _ (by omega) (by omega)
  ·exact f 10 _ _ (by omega) (by omega)
 ·have:=k.at ad (by rw[e];exact f 1 _ _ (by omega) (by omega))
  exact⟨this.1,this.2.trans e⟩
 ·obtain⟨iC,bw,⟨bD,v,xs,R⟩,K⟩:=h.ref j af
  refine⟨iC,bw,⟨bD,v,xs,R.da k fun t al=>?_⟩,K.da k fun y=>f 7 _ _ (by omega) (by omega)⟩;rcases al with rfl|rfl|rfl|⟨x,rfl|rfl⟩
  ·exact f 2 _ _ (by omega) (by omega)
  ·exact f 3 _ _ (by omega) (by omega)
  ·exact f 4 _ _ (by omega) (by omega)
  ·exact f 5 _ _ (by omega) (by omega)
  ·exact f 6 _ _ (by omega) (by omega)
theorem cU.below (P:gH aX)(h:cU aX bk bQ w o s aj az n aI ak a6 a8 aG aK aN ah ar m eG b1 ts)(ao:ax w w'):cU aX bk bQ w' o s aj az n aI ak a6 a8 aG aK aN ah ar m eG b1 ts:=
 h.off P ((ct.dh (A:=fun _=>False) ao).da fun _=>id) fun _ _ _=>id
theorem cU.new (P:gH aX)(h:cU aX bk bQ w o s aj az n aI ak a6 a8 aG aK aN ah ar m eG b1 ts)(bE:Obj)(t:Tag):cU aX bk bQ (w.alloc bE) (ee o w.heap.size t) s aj az n aI ak a6 a8 aG aK aN ah ar m eG b1 ts:=
 h.off P (tw (B:=fun _=>False) w o bE t) fun _ _ _=>id
theorem cU.Kr (P:gH aX)(h:cU aX bk bQ w o s aj az n aI ak a6 a8 aG aK aN ah ar m eG b1 ts)(aq:i<n)(k:ct (·=(s+1,i,0)) w o w' o'){d:aZ}(aB:aX w' o' (s+1,i,0) (aI[i]'(by have:=h.pe;omega)) n i d):
  cU aX bk bQ w' o' s aj az n aI ak a6 a8 aG aK aN ah ar m (eG.set i d) b1 ts:=by
 have f:∀a b c,2<=a->¬(fun t:Tag=>t=(s+1,i,0)) (s+a,b,c):=fun a b c h1 e=>by simp at e;omega
 obtain⟨eF,bT,dk⟩:=h.texts;obtain⟨dY,c6,eu⟩:=h.ye;obtain⟨ln,e0,eL⟩:=h.x9;obtain⟨od,fZ,fO⟩:=h.x7;obtain⟨jA,de,c_,G⟩:=h.hE;refine⟨h.U.ay k (f 11 _ _ (by omega)),h.rs.ay k (f 11 _ _ (by omega)),⟨eF,bT,dk.ay k (f 11 _ _ (by omega))⟩,⟨dY,c6,eu.ay k (f 11 _ _ (by omega))⟩,⟨ln,e0,eL.ay k (f 11 _ _ (by omega))⟩,⟨od,fZ,fO.ay k (f 11 _ _ (by omega))⟩,
  ⟨jA,de,c_,G.ay k fun t al=>?_⟩,h.pe,h.pf,by rw[k5];exact h.qM,h.sb,fun j af=>?_,fun j af=>?_⟩
 ·rcases al with⟨x,rfl⟩|⟨x,rfl|rfl⟩
  ·exact f 8 _ _ (by omega)
  ·exact f 9 _ _ (by omega)
  ·exact f 10 _ _ (by omega)
 ·by_cases e:i=j
  ·subst e;rw[w_];exact aB
  ·rw[w9 e]
   exact P.move (h.prog j af) fun q ad c=>⟨k.ay.block q ad (by rw[c];simp;omega),(k.same q ad).trans c⟩
 ·obtain⟨iC,bw,⟨bD,v,xs,R⟩,K⟩:=h.ref j af
  refine⟨iC,bw,⟨bD,v,xs,R.ay k fun t al=>?_⟩,K.ay k fun y=>f 7 _ _ (by omega)⟩;rcases al with rfl|rfl|rfl|⟨x,rfl|rfl⟩
  ·exact f 2 _ _ (by omega)
  ·exact f 3 _ _ (by omega)
  ·exact f 4 _ _ (by omega)
  ·exact f 5 _ _ (by omega)
  ·exact f 6 _ _ (by omega)
theorem cU.abV (P:gH aX)(h:cU aX bk bQ w o s aj az n aI ak a6 a8 aG aK aN ah ar m eG b1 ts)(aq:i<n)(k:dS (Ad s i) w o w' o'){d:aZ}{KT:List aT}(aB:kv bk bQ w' o' s i (ak[i]'(by have:=h.pf;omega)) n d)(kB:uQ w' o' s az n ak KT):
  cU aX bk bQ w' o' s aj az n aI ak a6 a8 aG aK aN ah ar m eG (b1.set i d) KT:=by
 have f:∀a b c,a=1∨a=11->¬Ad s i (s+a,b,c):=fun a b c h1 e=>by
  rcases e with(e|e|e|⟨x,e|e⟩)|⟨x,e⟩|⟨x,e|e⟩<;>simp at e<;>omega
 obtain⟨eF,bT,dk⟩:=h.texts;obtain⟨dY,c6,eu⟩:=h.ye;obtain⟨ln,e0,eL⟩:=h.x9;obtain⟨od,fZ,fO⟩:=h.x7;refine⟨h.U.da k (f 11 _ _ (Or.inr rfl)),h.rs.da k (f 11 _ _ (Or.inr rfl)),⟨eF,bT,dk.da k (f 11 _ _ (Or.inr rfl))⟩,⟨dY,c6,eu.da k (f 11 _ _ (Or.inr rfl))⟩,⟨ln,e0,eL.da k (f 11 _ _ (Or.inr rfl))⟩,⟨od,fZ,fO.da k (f 11 _ _ (Or.inr rfl))⟩,
  kB,h.pe,h.pf,h.qM,by rw[k5];exact h.sb,fun j af=>P.move (h.prog j af) fun q ad e=>?_,fun j af=>?_⟩
 ·have:=k.at ad (by rw[e];exact f 1 _ _ (Or.inl rfl))
  exact⟨this.1,this.2.trans e⟩
 ·by_cases e:i=j
  ·subst e;rw[w_];exact aB
  ·rw[w9 e]
   obtain⟨iC,bw,⟨bD,v,xs,R⟩,K⟩:=h.ref j af;refine⟨iC,bw,⟨bD,v,xs,R.da k fun t al c=>?_⟩,K.da k fun y=>VT⟩;rcases c with c|c
   ·exact aos (fun dI=>e dI.symm) al c
   ·exact Xn c al
theorem cU.Tq (P:gH aX)(h:cU aX bk bQ w o s aj az n aI ak a6 a8 aG aK aN ah ar m eG b1 ts)(aq:i<n)(k:ct (lu s i) w o w' o'){d:aZ}(aB:kv bk bQ w' o' s i (ak[i]'(by have:=h.pf;omega)) n d):
  cU aX bk bQ w' o' s aj az n aI ak a6 a8 aG aK aN ah ar m eG (b1.set i d) ts:=by
 obtain⟨jA,de,c_,G⟩:=h.hE;exact h.abV P aq (k.da fun _=>Or.inl) aB ⟨jA,de,c_,G.ay k fun t al=>Xn al⟩
end
section
variable {aX:World->(Nat->Tag)->Tag->Nat->Nat->Nat->aZ->Prop}{bk:Nat->Nat->List Int}{bQ:Nat->List Int}{w W dP:World}{o o1:Nat->Tag}{s aj az n bC iP ix mW nj eQ eJ z:Nat}{m:iM}{aI ak:List Nat}{a6 a8 aG aK aN ah:Value}{ar:Int}{a7:List aZ}{d:aZ}{ts:List aT}{kind a b c:Int}{key text:ByteArray}
structure FH (aX:World->(Nat->Tag)->Tag->Nat->Nat->Nat->aZ->Prop)(bk:Nat->Nat->List Int)(bQ:Nat->List Int)(w:World)(o:Nat->Tag)(s aj az n:Nat)(aI ak:List Nat)(a8 aG aK aN ah:Value)(ar:Int)(m:iM)(a7:List aZ)(ts:List aT)(kind a b c:Int)(key text:ByteArray)(bC iP ix mW nj eQ eJ:Nat)(d:aZ)(o1:Nat->Tag)(z:Nat)(W:World):Prop where
 st:Hid (cU aX bk bQ W o1 s aj az n aI ak (bo iP aI.length ix) a8 aG aK aN ah ar m a7 a7 ts)
 uT:Hid (cP W o1 (s+12,0,0) z [I kind,I a,I b,I c,ai key,ai text] 30)
 aK:Hid (∀B,dS B w o W o1)
 aw:Hid (aX W o1 (s+1,bC,0) eQ n bC d)
 aJ:Hid (kv bk bQ W o1 s bC eJ n d)
 c0:W.cell? (aa aj 0)=some (bo iP n ix)
 c1:W.cell? (aa aj 1)=some (ptr az)
 c2:W.cell? (aa az 1)=some (bo mW n nj)
 ab9:W.cell? (aa iP bC)=some (ptr eQ)
 ae_:W.cell? (aa mW bC)=some (ptr eJ)
 ek:W.cell? (aa z 0)=some (I kind)
 cI:W.cell? (aa z 1)=some (I a)
 dq:W.cell? (aa z 2)=some (I b)
 eW:W.cell? (aa z 3)=some (I c)
 fo:W.cell? (aa z 4)=some (ai key)
 iT:W.cell? (aa z 5)=some (ai text)
 wl:aj<W.heap.size
 hi:az<W.heap.size
 uE:z<W.heap.size
 zr:iP<W.heap.size
 afa:mW<W.heap.size
theorem FH.below (h:FH aX bk bQ w o s aj az n aI ak a8 aG aK aN ah ar m a7 ts kind a b c key text bC iP ix mW nj eQ eJ d o1 z W)(P:gH aX)(aq:bC<n)(ao:ax W dP)(aJ:∀(_:a7.length=n) (_:ak.length=n),ak[bC]=eJ∧a7[bC]=d):FH aX bk bQ w o s aj az n aI ak a8 aG aK aN ah ar m a7 ts kind a b c key text bC iP ix mW nj eQ eJ d o1 z dP:=by
 have hs:=ao.size;have S:=h.st.o.below P ao;obtain⟨aP,ba⟩:=aJ S.qM S.pf;have l:∀{q v},W.cell? q=some v->dP.cell? q=some v:=fun e=>bZ ao e
 exact⟨S,h.uT.o.below ao,fun B=>(h.aK.o B).trans ((ct.dh (A:=B) ao).da fun _=>id),P.move h.aw.o fun q ad e=>⟨ao.block q ad,e⟩,aP▸ba▸S.ref bC aq,
  l h.c0,l h.c1,l h.c2,l h.ab9,l h.ae_,l h.ek,l h.cI,l h.dq,l h.eW,l h.fo,l h.iT,hV h.wl hs,hV h.hi hs,hV h.uE hs,hV h.zr hs,hV h.afa hs⟩
theorem vr (P:gH aX)(h:cU aX bk bQ w o s aj az n aI ak a6 a8 aG aK aN ah ar m a7 a7 ts)(aw:gw.Ok ⟨kind,a,b,c,key,text⟩)(hn:0<n)(b2:n<=5):
  ∃bC W o1 iP ix mW nj eQ eJ d,∃(sn:aI.length=n) (nZ:ak.length=n) (tm:a7.length=n) (aq:bC<n),a6=bo iP aI.length ix∧w.alloc (.cells #[I kind,I a,I b,I c,ai key,ai text] 30)=W∧
   n<=ix∧n<=nj∧Hid (∀v,Calls prog 51 #[I a,I n] v (bx (I bC) fun w'=>w'=v))∧aI[bC]=eQ∧ak[bC]=eJ∧a7[bC]=d∧
   Hid (FH aX bk bQ w o s aj az n aI ak a8 aG aK aN ah ar m a7 ts kind a b c key text bC iP ix mW nj eQ eJ d o1 w.heap.size W)∧Hid (∀dP,ax W dP->FH aX bk bQ w o s aj az n aI ak a8 aG aK aN ah ar m a7 ts kind a b c key text bC iP ix mW nj eQ eJ d o1 w.heap.size dP):=by
 have sn:=h.pe;have nZ:=h.pf;have tm:=h.qM;have aq:=Kq a n hn;have H1:=h.new P (.cells #[I kind,I a,I b,I c,ai key,ai text] 30) (s+12,0,0);have sP:=cP.fresh w o [I kind,I a,I b,I c,ai key,ai text] 30 (s+12,0,0);have mS:=fun B=>tw (B:=B) w o (.cells #[I kind,I a,I b,I c,ai key,ai text] 30) (s+12,0,0)
 obtain⟨iP,ix,rfl,asZ,l5,lk⟩:=Oi H1.rs (i:=lq a n) (by omega);obtain⟨jA,de,c_,G⟩:=H1.hE;obtain⟨mW,nj,rfl,arZ,l4,l1⟩:=Oi (bs:=ak) G.rs (i:=lq a n) (by omega);have M:FH aX bk bQ w o s aj az n aI ak a8 aG aK aN ah ar m a7 ts kind a b c key text (lq a n) iP ix mW nj aI[lq a n] ak[lq a n] a7[lq a n] _ w.heap.size _:=
  ⟨H1,sP,mS,H1.prog _ aq,H1.ref _ aq,by rw[<-sn];exact H1.U.U.cell 0,H1.U.U.cell 1,by rw[<-nZ];exact G.U.U.cell 1,lk,l1,
   sP.U.cell 0,sP.U.cell 1,sP.U.cell 2,sP.U.cell 3,sP.U.cell 4,sP.U.cell 5,H1.U.U.lt,G.U.U.lt,sP.U.lt,l5,l4⟩
 exact⟨lq a n,_,_,iP,ix,mW,nj,_,_,_,sn,nZ,tm,aq,rfl,rfl,by omega,by omega,fun v=>abt a n v hn b2 aw.a0 aw.cO,rfl,rfl,rfl,M,fun dP ao=>M.below P aq ao fun _ _=>⟨rfl,rfl⟩⟩
end
theorem apR (aX:World->(Nat->Tag)->Tag->Nat->Nat->Nat->aZ->Prop)(bk:Nat->Nat->List Int)(bQ:Nat->List Int)(P:gH aX)(w:World)(o:Nat->Tag)(s aj az n:Nat)(aI ak:List Nat)(a6 a8 aG aK aN ah:Value)(ar:Int)(m:iM)(a7:List aZ)(ts:List aT)(p:gw)(aw:p.Ok)(hk:p.kind=1)
  (h:cU aX bk bQ w o s aj az n aI ak a6 a8 aG aK aN ah ar m a7 a7 ts)(hn:0<n)(b2:n<=5)(iR:∀d,d∈a7->Room d):
  Calls prog 52 #[ptr aj,p.agg] w (bx (.bool true) fun w'=>∃o' i d,i<n∧a7[i]?=some d∧cU aX bk bQ w' o' s aj az n aI ak a6 a8 aG aK aN ah ar m (a7.set i (pt d)) (a7.set i (pt d)) ts∧dS (fN s) w o w' o'):=by
 obtain⟨kind,a,b,c,key,text⟩:=p;simp only at hk;subst hk;obtain⟨bC,W,o1,iP,ix,mW,nj,eQ,eJ,d,sn,nZ,tm,aq,rfl,bY,wC,wb,iZ,hM,gW,aB,i_,ja⟩:=vr P h aw hn b2;obtain⟨-,-,-,-,-,c0,c1,c2,lk,l1,ek,cI,-,-,-,-,ir,fW,ft,l5,l4⟩:=i_.o;clear h i_;have bn:=J (⟨iR d (by rw[<-aB];exact eT _),aB,hM,gW⟩:_∧_∧_∧_);clear aw iR hM gW aB;go_enter func52,ntmps52;go_upto_region 1 with(fail);go_cut[5] (fun v wc=>v=I bC∧Hid (ax W wc))
 case first=>
  go_region_with(go_at_call 51;refine(iZ.o _).mono ?_;rintro e w5 ⟨rfl,rfl⟩)
  all_goals
   go_wp2_with fail
   go_meet;exact⟨rfl,(cE).drew⟩
 case rest=>
  obtain⟨rfl,ao⟩:=hcut;clear c0 c1 c2 lk l1 ek cI ir fW ft l5 l4 bY iZ;obtain⟨bu,gl,M2,jH,-,nm,ky,nn,nz,nv,nB,-,-,-,-,-,kX,oD,oz,oF,oC⟩:=ja.o _ ao.o;replace M2:=J (M2.o (fN s))
  clear ja;go_wp2_with fail
  refine(P.PV _ o1 (s+1,bC,0) eQ n bC d jH.o bn.o.1).mono ?_;rintro e an ⟨he,dx,hY,aD⟩;obtain⟨x,y,tr⟩:=afV d;rw[tr]at he;subst he;have ck:=J (bu.o.Kr P aq aD (bn.o.2.2.1.symm▸hY));have BB:=J (bn.o.2.2.2▸bn.o.2.1▸ck.o.ref bC aq);have kh:=J (M2.o.trans (aD.da wP));clear hY aD bu gl M2 jH nm ky nn nz nv nB kX oD oz oF oC;go_wp2_with fail
  refine(aog an dx s bC eJ n d BB.o hn b2).mono ?_;rintro e w2 ⟨he,iv,yW,aD⟩;rw[tr]at he;subst he;have cd:=J (ck.o.Tq P aq aD (bn.o.2.2.2.symm▸yW));have kN:=J (kh.o.trans (aD.da fun _=>Oe));clear yW aD ck kh BB tr;go_wp2_with fail
  go_ret;exact⟨rfl,iv,bC,d,aq,by rw[hg (by omega),bn.o.2.1],cd.o,kN.o⟩
section
variable {aX:World->(Nat->Tag)->Tag->Nat->Nat->Nat->aZ->Prop}{bk:Nat->Nat->List Int}{bQ:Nat->List Int}{w w' W dP:World}{o o':Nat->Tag}{s aj az n i:Nat}{m:iM}{aI ak:List Nat}{a6 a8 aG aK aN ah:Value}{ar:Int}{eG b1:List aZ}{ts:List aT}
theorem cU.jo (P:gH aX)(h:cU aX bk bQ w o s aj az n aI ak a6 a8 aG aK aN ah ar m eG b1 ts)(t:Tag):cU aX bk bQ w (ee o w.heap.size t) s aj az n aI ak a6 a8 aG aK aN ah ar m eG b1 ts:=
 h.off P (B:=fun _=>False) ⟨Touch.refl _ _,fun q ad _=>sL (by omega)⟩ fun _ _ _=>id
theorem agM (P:gH aX)(h:cU aX bk bQ W o s aj az n aI ak a6 a8 aG aK aN ah ar m eG b1 ts)(aq:i<n)(b2:n<=5){d:aZ}{eJ:Nat}(aB:b1[i]'(by have:=h.sb;omega)=d)(aJ:ak[i]'(by have:=h.pf;omega)=eJ)(tx:Int)(iR:Room d)(mc:ts.length<2000000)(ao:ax W dP):
  Calls prog 91 #[ptr az,ptr eJ,I tx] dP (bx (sa i d tx) fun w'=>∃o',cU aX bk bQ w' o' s aj az n aI ak a6 a8 aG aK aN ah ar m eG (b1.set i (p4 i d tx)) (Ai i d tx ts)∧dS (Ad s i) dP o w' o'):=by
 have e5:=h.below P ao;refine(aoh dP o s i eJ az n ak d ts tx (aJ▸aB▸e5.ref i aq) e5.hE aq b2 mc (fun j af=>⟨(iR.ag j af).1,by have:=(iR.ag j af).2;omega⟩)).mono ?_;rintro e w' ⟨rfl,o',bI,kB,bK⟩;exact⟨rfl,o',e5.abV P aq bK (aJ.symm▸bI) kB,bK⟩
theorem abP (P:gH aX)(h:cU aX bk bQ W o s aj az n aI ak a6 a8 aG aK aN ah ar m eG b1 ts)(aq:i<n)(b2:n<=5){d:aZ}{eJ:Nat}(aB:b1[i]'(by have:=h.sb;omega)=d)(aJ:ak[i]'(by have:=h.pf;omega)=eJ)(tx:Int)(key:ByteArray)(eC:key.size<=maxLen)(im:∀t,du d tx=some t->DJ t ts)(ao:ax W dP):
  Calls prog 88 #[ptr az,ptr eJ,I tx,ai key] dP fun e w'=>∃bz,e= .returned (oM (fu (du d tx) key ts n).1 bz (fu (du d tx) key ts n).2.2)∧
   w'.ownsRow dP.heap.size 9 1 bz (fu (du d tx) key ts n).2.1.length (strs (fu (du d tx) key ts n).2.1)∧ax dP w':=by
 have e5:=h.below P ao;exact Tr dP o s i eJ az n ak d ts tx key (aJ▸aB▸e5.ref i aq) e5.hE b2 eC im
end
section
variable {aX:World->(Nat->Tag)->Tag->Nat->Nat->Nat->aZ->Prop}{bk:Nat->Nat->List Int}{bQ:Nat->List Int}{w w5:World}{o sB:Nat->Tag}{s aj az n:Nat}{m:iM}{aI ak:List Nat}{a6 a8 aG aK aN ah:Value}{ar:Int}{eG b1:List aZ}{ts:List aT}
theorem SH (P:gH aX)(H:cU aX bk bQ w5 sB s aj az n aI ak a6 a8 aG aK aN ah ar m eG b1 ts)(M:dS (fN s) w o w5 sB)(cs:List Value)(ty:TypeId):
  cU aX bk bQ (w5.alloc (.cells cs.toArray ty)) (ee sB w5.heap.size (s+12,3,0)) s aj az n aI ak a6 a8 aG aK aN ah ar m eG b1 ts∧cP (w5.alloc (.cells cs.toArray ty)) (ee sB w5.heap.size (s+12,3,0)) (s+12,3,0) w5.heap.size cs ty∧dS (fN s) w o (w5.alloc (.cells cs.toArray ty)) (ee sB w5.heap.size (s+12,3,0)):=
 ⟨H.new P _ _,cP.fresh _ _ _ _ _,M.trans (tw _ _ _ _)⟩
theorem SI (P:gH aX){b7:Nat}{c0 c1:Value}{ty:TypeId}(H:cU aX bk bQ w5 sB s aj az n aI ak a6 a8 aG aK aN ah ar m eG b1 ts)(M:dS (fN s) w o w5 sB)(Q:cP w5 sB (s+12,3,0) b7 [c0,c1] ty)(x y:Value):
  cU aX bk bQ ((w5.setCell (aa b7 0) x).setCell (aa b7 1) y) sB s aj az n aI ak a6 a8 aG aK aN ah ar m eG b1 ts∧cP ((w5.setCell (aa b7 0) x).setCell (aa b7 1) y) sB (s+12,3,0) b7 [x,y] ty∧dS (fN s) w o ((w5.setCell (aa b7 0) x).setCell (aa b7 1) y) sB:=by
 have M2:=amx (w:=w5) Q.tag x y;refine⟨H.off P M2 fun t _ h1 e=>h1 (by rw[e]),(Q.set 0 x).set 1 y,M.trans (M2.mono fun t e=>?_)⟩;subst e;exact⟨by simp,by simp⟩
end
section
variable {aX:World->(Nat->Tag)->Tag->Nat->Nat->Nat->aZ->Prop}{bk:Nat->Nat->List Int}{bQ:Nat->List Int}{w w' W dP:World}{o o':Nat->Tag}{s aj az n i:Nat}{M:iM}{m:Nat}{aI ak:List Nat}{a6 a8 aG aK aN ah:Value}{ar:Int}{eG b1:List aZ}{ts:List aT}
theorem cU.CX (P:gH aX)(h:cU aX bk bQ w o s aj az n aI ak a6 a8 aG aK aN ah ar M eG b1 ts)(aq:i<n)(k:ct (·=(s+1,i,0)) w o w' o'){d:aZ}(he:eG[i]'(by have:=h.qM;omega)=d)(aB:aX w' o' (s+1,i,0) (aI[i]'(by have:=h.pe;omega)) n i d):
  cU aX bk bQ w' o' s aj az n aI ak a6 a8 aG aK aN ah ar M eG b1 ts:=by
 have a:=h.Kr P aq k aB;rw[<-he,set_getElem_self]at a;exact a
theorem cU.rest {A:Tag->Prop}(P:gH aX)(h:cU aX bk bQ w o s aj az n aI ak a6 a8 aG aK aN ah ar M eG b1 ts)(T:ct A w o w' o')(eK:∀a b c,a<=10->¬A (s+a,b,c)):
  uQ w' o' s az n ak ts∧(∀i (aq:i<n),aX w' o' (s+1,i,0) (aI[i]'(by have:=h.pe;omega)) n i (eG[i]'(by have:=h.qM;omega)))∧(∀i (aq:i<n),kv bk bQ w' o' s i (ak[i]'(by have:=h.pf;omega)) n (b1[i]'(by have:=h.sb;omega))):=by
 obtain⟨jA,de,c_,G⟩:=h.hE;refine⟨⟨jA,de,c_,G.ay T fun t al=>?_⟩,fun i aq=>P.move (h.prog i aq) fun q ad e=>⟨T.ay.block q ad (by rw[e];exact eK 1 _ _ (by omega)),(T.same q ad).trans e⟩,fun i aq=>?_⟩
 ·rcases al with⟨x,rfl⟩|⟨x,rfl|rfl⟩
  ·exact eK 8 _ _ (by omega)
  ·exact eK 9 _ _ (by omega)
  ·exact eK 10 _ _ (by omega)
 ·obtain⟨iC,bw,⟨bD,v,xs,R⟩,K⟩:=h.ref i aq
  refine⟨iC,bw,⟨bD,v,xs,R.ay T fun t al=>?_⟩,K.ay T fun y=>eK 7 _ _ (by omega)⟩;rcases al with rfl|rfl|rfl|⟨x,rfl|rfl⟩
  ·exact eK 2 _ _ (by omega)
  ·exact eK 3 _ _ (by omega)
  ·exact eK 4 _ _ (by omega)
  ·exact eK 5 _ _ (by omega)
  ·exact eK 6 _ _ (by omega)
theorem abM (P:gH aX){w5:World}{ND:Value}{len:Nat}{xs:List Value}(h:cU aX bk bQ W o s aj az n aI ak a6 a8 aG aK aN ah ar M eG b1 ts)(ao:ax W dP)(c7:ax dP w5)(aC:w5.ownsRow dP.heap.size 9 1 ND len xs):
  cU aX bk bQ w5 (gX o dP.heap.size fun _=>(s+12,6,0)) s aj az n aI ak a6 a8 aG aK aN ah ar M eG b1 ts∧b3 w5 (gX o dP.heap.size fun _=>(s+12,6,0)) (s+12,6,0) 9 1 ND len xs∧ct (fun _=>False) W o w5 (gX o dP.heap.size fun _=>(s+12,6,0)):=by
 have T:ct (fun _=>False) W o w5 (gX o dP.heap.size fun _=>(s+12,6,0)):=
  ⟨(Touch.dh ao).trans (Touch.dh c7),fun q ad=>nF (by have:=ao.size;omega)⟩
 exact⟨h.off P (T.da fun _=>id) fun _ _ _=>id,b3.new aC fun _ _=>rfl,T⟩
end
end Go.Proofs.YtiplgdkpnhamaaaGreatDoor.Tv
namespace Go.Proofs.YtiplgdkpnhamaaaGreatDoor
open Go.Proofs.Tryz List
open Go.RowKit
variable {cap g r:Nat}
def mV (l:List Int):Nat->Int:=fun k=>l.getD k 0
theorem ahY {l:List Int}(aJ:r<l.length):mV (l.set r (l.getD r 0+1))=bump (mV l) r:=by
 funext k;unfold mV bump;by_cases c:k=r
 ·subst c;simp[aJ]
 ·rw[if_neg c]
  simp only[tL];rw[getElem?_set_ne (fun e=>c e.symm)]
def o7 (n:Nat)(frm upt:List Int)(r:Nat)(s:Int):Prop:=r<n∧frm.getD r 0<s∧s<=upt.getD r 0
def vs (upt cur:List Int):Nat->Nat
 |0=>0
 |n+1=>vs upt cur n+(upt.getD n 0-cur.getD n 0).toNat
theorem aaq {upt cur:List Int}(aJ:r<cur.length)(aC:cur.getD r 0<upt.getD r 0):∀n,vs upt (cur.set r (cur.getD r 0+1)) n+(if r<n then 1 else 0)=vs upt cur n
 |0=>by simp[vs]
 |n+1=>by
  have ih:=aaq aJ aC n;unfold vs;by_cases c:r=n
  ·subst c
   have e:(cur.set r (cur.getD r 0+1)).getD r 0=cur.getD r 0+1:=by simp[aJ]
   rw[if_neg (by omega)]at ih;rw[e,if_pos (by omega)];omega
  ·have e:(cur.set r (cur.getD r 0+1)).getD n 0=cur.getD n 0:=by
    simp only[tL];rw[getElem?_set_ne c]
   rw[e];by_cases d:r<n
   ·rw[if_pos d]at ih;rw[if_pos (by omega)];omega
   ·rw[if_neg d]at ih;rw[if_neg (by omega)];omega
def GV (g:Nat)(upt:List Int)(w:World):Nat->Nat
 |0=>0
 |n+1=>GV g upt w n+(upt.getD n 0-intOf ((w.cell? (aa g n)).getD (.bool false))).toNat
theorem aaE {upt cur:List Int}{w:World}:∀{n:Nat},(∀r,r<n->w.cell? (aa g r)=some (I (cur.getD r 0)))->GV g upt w n=vs upt cur n
 |0,_=>rfl
 |n+1,h=>by
  unfold GV vs;rw[aaE (fun r aJ=>h r (by omega)),h n (by omega)];rfl
theorem ahP {ts:List aT}{r s:Int}(h:∃u,u∈ts∧kY r s u=true):∃j,∃af:j<ts.length,kY r s ts[j]=true∧∀k (hk:k<j),kY r s (ts[k]'(by omega))=false:=by
 obtain⟨u,hu,he⟩:=h;have br:ts.findIdx (kY r s)<ts.length:=findIdx_lt_length_of_exists ⟨u,hu,he⟩;exact⟨ts.findIdx (kY r s),br,findIdx_getElem,fun k hk=>by simpa using not_of_lt_findIdx hk⟩
theorem al9 {n k:Nat}{frm upt cur:List Int}{saw:Nat->Int->Nat->Int}{u:aT}(aJ:u.rep=(k:Int))(hs:u.seq=cur.getD k 0+1)(im:∀r,saw u.rep.toNat u.seq r=u.saw.getD r 0)(aC:u.saw.length=n)(aA:cur.length=n)(hj:o7 n frm upt k (cur.getD k 0+1)):
  FZ cur u.rep u.seq u.saw=true↔sW (o7 n frm upt) saw (mV cur) k:=by
 have hk:u.rep.toNat=k:=by rw[aJ];simp
 rw[hk,hs]at im;unfold FZ;rw[decide_eq_true_iff,hk,hs];constructor
 ·rintro ⟨-,h⟩
  refine⟨hj,fun r=>?_⟩;show saw k (cur.getD k 0+1) r<=cur.getD r 0
  rw[im r];by_cases c:r<u.saw.length
  ·exact h r c
  ·simp[show u.saw.length<=r by omega,show cur.length<=r by omega]
 ·rintro ⟨-,h⟩
  refine⟨by omega,fun r _=>?_⟩;have:=h r;have e:saw k (cur.getD k 0+1) r<=cur.getD r 0:=this;rw[im r]at e;exact e
theorem k8.TL {w:World}{o:Nat->Tag}{s i b n:Nat}{v ah bw:Value}{xs:List cq}{d:aZ}(h:k8 w o s i b n (bo g n cap) v ah bw xs d)(x:Int):
  k8 (w.setCell (aa g r) (I x)) o s i b n (bo g n cap) v ah bw xs {d with ag:=d.ag.set r x}:=by
 have aM:=h.ag.tag g rfl;refine⟨h.U.other (p:=(aa g r)) aM (by simp) _,⟨?_,h.ag.tag⟩,h.row.set (p:=(aa g r)) aM (by simp) _,by simp[h.len],h.ea,h.bH,h.s5,fun k hk t al=>?_⟩
 ·have av:=h.ag.row
  rw[h.len]at av;have a:=(ly av r (I x)).1;rw[ints_set]at a;show Row _ _ 1 _ (d.ag.set r x).length _
  rw[k5,h.len];exact a
 ·obtain⟨a,hz,c,e⟩:=h.tx k hk t al
  exact⟨a,hz,c.set (p:=(aa g r)) aM (by simp) _,e.set (p:=(aa g r)) aM (by simp) _⟩
structure uP (w:World)(o:Nat->Tag)(wr:World)(o':Nat->Tag)(s i b az n j lb:Nat)(b8:List Value)(bt:Tag)(bD v ah bw a6 de lh aG:Value)(xs c_:List cq)(bs:List Nat)(ts:List aT)(d:aZ)(aY:Nat->List Int)(gone frm upt cur:List Int)(saw:Nat->Int->Nat->Int):Prop where
 rep:k8 wr o' s i b n bD v ah bw xs {d with ag:=cur}
 hE:qE wr o' s az n a6 de bs c_ ts
 Ss:nR wr o' s i n ah bw aY gone
 box:cP wr o' (s+12,0,0) lb b8 99
 S8:b3 wr o' bt 3 1 lh n (ints frm)
 ES:b3 wr o' bt 3 1 aG n (ints upt)
 ay:ct (fun t=>t=(s+3,i,0)∨t=(s+7,i,j+2)) w o wr o'
 reach:Reach (o7 n frm upt) saw (mV d.ag) (mV cur)
 oQ:∀r,0<=cur.getD r 0∧cur.getD r 0<=2000000
section
variable {w:World}{o:Nat->Tag}{wr w':World}{o':Nat->Tag}{s i b az n j lb:Nat}{b8:List Value}{bt:Tag}{bD v ah bw a6 de lh aG:Value}{xs c_:List cq}{bs:List Nat}{ts:List aT}{d:aZ}{aY:Nat->List Int}{gone frm upt cur:List Int}{saw:Nat->Int->Nat->Int}
theorem uP.below (h:uP w o wr o' s i b az n j lb b8 bt bD v ah bw a6 de lh aG xs c_ bs ts d aY gone frm upt cur saw)(ao:ax wr w'):uP w o w' o' s i b az n j lb b8 bt bD v ah bw a6 de lh aG xs c_ bs ts d aY gone frm upt cur saw:=
 ⟨h.rep.below ao,h.hE.below ao,h.Ss.ay (ct.dh (A:=fun _=>False) ao) fun _=>id,h.box.below ao,h.S8.below ao,h.ES.below ao,h.ay.below ao,h.reach,h.oQ⟩
theorem uP.step {g cap r:Nat}(h:uP w o wr o' s i b az n j lb b8 bt (bo g n cap) v ah bw a6 de lh aG xs c_ bs ts d aY gone frm upt cur saw)(aJ:r<n)(sz:bt≠(s+3,i,0))(aC:sW (o7 n frm upt) saw (mV cur) r)(eP:upt.getD r 0<=2000000):
  uP w o (wr.setCell (aa g r) (I (cur.getD r 0+1))) o' s i b az n j lb b8 bt (bo g n cap) v ah bw a6 de lh aG xs c_ bs ts d aY gone frm upt (cur.set r (cur.getD r 0+1)) saw:=by
 have aM:o' g=(s+3,i,0):=h.rep.ag.tag g rfl;have hlen:cur.length=n:=h.rep.len;have aD:ct (fun t=>t=(s+3,i,0)) wr o' (wr.setCell (aa g r) (I (cur.getD r 0+1))) o':=(ct.refl _ wr o').set (p:=(aa g r)) aM _;refine⟨h.rep.TL _,h.hE.ay aD fun t al e=>?_,h.Ss.ay aD fun k e=>by simp at e,h.box.ay aD (by simp),h.S8.ay aD sz,h.ES.ay aD sz,h.ay.trans (aD.mono fun _ e=>Or.inl e),?_,fun q=>?_⟩
 ·rcases al with⟨x,rfl⟩|⟨x,rfl|rfl⟩<;>simp at e
 ·rw[ahY (by omega)]
  exact .step h.reach aC
 ·have hb:=h.oQ
  by_cases c:q=r
  ·subst c
   have e:(cur.set q (cur.getD q 0+1)).getD q 0=cur.getD q 0+1:=by simp[show q<cur.length by omega]
   rw[e];have:=aC.1.2.2;have aH:mV cur q+1<=upt.getD q 0:=this;have bd:mV cur q=cur.getD q 0:=rfl;have:=hb q;omega
  ·have e:(cur.set r (cur.getD r 0+1)).getD q 0=cur.getD q 0:=by
    simp only[tL];rw[getElem?_set_ne (fun e=>c e.symm)]
   rw[e];exact hb q
theorem uP.cell (h:uP w o wr o' s i b az n j lb b8 bt (bo g n cap) v ah bw a6 de lh aG xs c_ bs ts d aY gone frm upt cur saw)(aJ:r<n):wr.cell? (aa g r)=some (I (cur.getD r 0)):=by
 have hlen:=h.rep.len;have av:=h.rep.ag.row;obtain⟨_,_,e,-,-,-,aA,-⟩:=av.pos (by omega);cases e;rw[aA r (by omega),o9 _ _ (by omega),yS (by omega)]
theorem uP.mem (h:uP w o wr o' s i b az n j lb b8 bt (bo g n cap) v ah bw a6 de lh aG xs c_ bs ts d aY gone frm upt cur saw):GV g upt wr n=vs upt cur n:=aaE fun _ aJ=>h.cell aJ
end
def Vp (w:World)(o:Nat->Tag)(s i b az n j:Nat)(bs:List Nat)(ah bw:Value)(ts:List aT)(d:aZ)(aY:Nat->List Int)(gone frm upt:List Int)(saw:Nat->Int->Nat->Int)(e:Ending)(w':World):Prop:=
 e= .returned (.tuple #[])∧∃(o':Nat->Tag) (cur:List Int),lD ah bw w' o' s i b n {d with ag:=cur}∧uQ w' o' s az n bs ts∧nR w' o' s i n ah bw aY gone∧ct (fun t=>t=(s+3,i,0)∨t=(s+7,i,j+2)) w o w' o'∧Reach (o7 n frm upt) saw (mV d.ag) (mV cur)∧∀r,¬sW (o7 n frm upt) saw (mV cur) r
theorem alW (ah bw:Value)(w:World)(o:Nat->Tag)(s i b az n j:Nat)(bs:List Nat)(ts:List aT)(d:aZ)(aY:Nat->List Int)(gone:List Int)(bt:Tag)(rW:Bool)(CN lh aG:Value)(bz frm upt:List Int)(saw:Nat->Int->Nat->Int)(h:lD ah bw w o s i b n d)(kB:uQ w o s az n bs ts)(cx:nR w o s i n ah bw aY gone)(cT:r6 w o bt n CN lh aG bz frm upt)(oY:bz.length=n)(wq:frm.length=n)(RX:upt.length=n)(sz:bt≠(s+3,i,0)∧∀k,bt≠(s+7,i,k))(af:j<n)(hn:1<=n)(b2:n<=5)
  (X3:∀r,0<=d.ag.getD r 0∧d.ag.getD r 0<=2000000)(eP:∀r,upt.getD r 0<=2000000)(Yy:∀r,0<=frm.getD r 0)
  (ML:∀r q,o7 n frm upt r q->∃u,u∈ts∧kY r q u=true)(im:∀u,u∈ts->∀k,saw u.rep.toNat u.seq k=u.saw.getD k 0):
  Calls prog 99 #[.pointer (some (aa az 0)),.pointer (some (aa b 0)),zj rW j CN lh aG] w (Vp w o s i b az n j bs ah bw ts d (rR aY j (fB (aY j) bz n)) gone frm upt saw):=by
 obtain⟨bD,v,xs,h⟩:=h;obtain⟨a6,de,c_,G⟩:=kB;obtain⟨ks,h1,ae,aH⟩:=cx.row;obtain⟨dV,nx,p⟩:=aH j af;have hp:=h.ag;rw[h.len]at hp;obtain⟨g,cap,Qp,-⟩:=hp.row.pos (by omega);subst Qp;have Gq:=cT.frm;rw[wq]at Gq;have wH:=cT.A_;rw[RX]at wH;obtain⟨gf,xA,ahk,-⟩:=Gq.row.pos (by omega);subst ahk;obtain⟨gt,DQ,ahy,-⟩:=wH.row.pos (by omega);subst ahy;have bS:∀q,dV.ownBlock=some q->q≠b∧¬ah.ownBlock=some q∧¬CN.ownBlock=some q:=fun q ad=>by
  have e:=p.tag q ad;refine⟨fun c=>?_,fun c=>?_,fun c=>?_⟩
  ·subst c;rw[h.U.tag]at e;simp at e
  ·rw[ae.tag q c]at e;simp at e
  ·rw[cT.vec.tag q c]at e;exact sz.2 _ e
 have aL:=J (⟨h,G,cx,Gq,wH⟩:_∧_∧_∧_∧_);have fs:=J (⟨h1,ae,aH,nx,p⟩:_∧_∧_∧_∧_);have ff:=J cT.vec;have cp:=J bS;have dA:=J sz;have cm:=J (⟨X3,eP,Yy,ML,im⟩:_∧_∧_∧_∧_);have zQ:=J (⟨oY,wq,RX,cx.lL j af⟩:_∧_∧_∧_);clear h G cx cT h1 ae aH nx p hp Gq wH bS sz X3 eP Yy ML im oY wq RX;go_enter func99,ntmps99;go_upto_region 1 with(fail);generalize bY:World.alloc w _=W0;have tN:ax w W0:=by rw[<-bY];exact cj _ _
 have cY:aQ W0 w.heap.size [.bool rW,I j,CN,bo gf n xA,bo gt n DQ] 99:=by rw[<-bY];exact cC w _
 have c1:=cY.c1;have c2:=cY.c2;have cl:=cY.lt;have bO:=J (⟨tN,cY⟩:_∧_);clear bY tN cY;go_wp2_with fail
 refine(ab_ W0 b j n ah CN dV ks (aY j) bz zQ.o.2.2.2 zQ.o.1 hn b2 af fs.o.1 (aL.o.1.U.U.below bO.o.1).lt ((aL.o.1.U.U.below bO.o.1).cell 3) (fs.o.2.1.row.below bO.o.1) fs.o.2.2.2.1 (fs.o.2.2.2.2.row.below bO.o.1) (ff.o.row.below bO.o.1) cp.o).mono ?_;rintro e an ⟨rfl,e7,h7⟩;have Fz:Hid (uP w o an (gX o w.heap.size fun _=>(s+12,0,0)) s i b az n j w.heap.size [.bool rW,I j,CN,bo gf n xA,bo gt n DQ] bt (bo g n cap) v ah bw a6 de (bo gf n xA) (bo gt n DQ) xs c_ bs ts d (rR aY j (fB (aY j) bz n)) gone frm upt d.ag saw):=by
  obtain⟨tN,cY⟩:=bO.o;obtain⟨h,G,cx,Gq,wH⟩:=aL.o;obtain⟨h1,ae,aH,nx,p⟩:=fs.o;have hs:∀q,q<w.heap.size->gX o w.heap.size (fun _=>(s+12,0,0)) q=o q:=fun q ad=>nF ad
  have al:Touch (fun q=>dV.ownBlock=some q) w an:=by
   refine(Touch.dh tN).trans (h7.mono fun q ad c=>Or.inl c)
  obtain⟨K,T⟩:=cx.aap af (by rw[vA];exact zQ.o.2.2.2) h1 ae aH nx e7 al hs;refine⟨h.ay T fun t al c=>?_,G.ay T fun t al c=>?_,K,⟨cY.move (h7.block _ cY.lt fun c=>?_),qj cv⟩,Gq.ay T (dA.o.2 _),wH.ay T (dA.o.2 _),T.mono fun _ e=>Or.inr e,.refl,cm.o.1⟩
  ·rcases al with rfl|rfl|rfl|⟨x,rfl|rfl⟩<;>simp at c
  ·rcases al with⟨x,rfl⟩|⟨x,rfl|rfl⟩<;>simp at c
  ·have:=p.lt c
   omega
 clear e7 h7 bO c1 c2 cl aL fs ff cp;generalize gX o w.heap.size (fun _=>(s+12,0,0))=mJ at*;generalize lj:w.heap.size=lb at*;clear lj;generalize rR aY j (fB (aY j) bz n)=GO at*;obtain⟨R,FB⟩:∃R:World->List Int->Prop,Hid (∀wr cur,R wr cur↔uP w o wr mJ s i b az n j lb [.bool rW,I j,CN,bo gf n xA,bo gt n DQ] bt (bo g n cap) v ah bw a6 de (bo gf n xA) (bo gt n DQ) xs c_ bs ts d GO gone frm upt cur saw):=⟨fun wr cur=>uP w o wr mJ s i b az n j lb [.bool rW,I j,CN,bo gf n xA,bo gt n DQ] bt (bo g n cap) v ah bw a6 de (bo gf n xA) (bo gt n DQ) xs c_ bs ts d GO gone frm upt cur saw,fun _ _=>Iff.rfl⟩;have mv:Hid (R an d.ag):=(FB.o _ _).2 Fz.o;clear Fz;go_wp2_with fail
 go_loopw[6,7,8,9,10] (fun aK _ _ _ _ wr=>∃(m:Bool) (cur:List Int),aK= .bool m∧Hid (R wr cur∧(m=false->∀r,¬sW (o7 n frm upt) saw (mV cur) r))) (fun aK _ _ _ _ wr=>2*GV g upt wr n+(match aK with| .bool true=>1|_=>0))
 case atStart=>exact⟨true,d.ag,rfl,mv.o,fun e=>by simp at e⟩
 case round=>
  clear mv;obtain⟨m,cur,rfl,dj⟩:=hrel;cases m
  ·as_aux_lemma=>
    go_wp2_with fail
    go_end0;have st:=(FB.o _ _).1 dj.o.1;exact⟨rfl,mJ,cur,⟨_,v,xs,st.rep⟩,⟨a6,de,c_,st.hE⟩,st.Ss,st.ay,st.reach,dj.o.2 (by simp)⟩
  ·as_aux_lemma=>
    have fr:Hid (GV g upt wr n=vs upt cur n):=((FB.o _ _).1 dj.o.1).mem;have Fu:=J dj.o.1;clear dj;go_wp2_with fail
    go_loopw[6,7,8,9,10] (fun aK kc _ _ _ hv=>∃(k:Nat) (m:Bool) (c2:List Int),k<=n∧kc=I k∧aK= .bool m∧Hid (R hv c2∧(m=false->c2=cur∧∀r,r<k->¬sW (o7 n frm upt) saw (mV cur) r)∧(m=true->vs upt c2 n<vs upt cur n))) (fun _ kc _ _ _ _=>n-(intOf kc).toNat)
    case atStart=>exact⟨0,false,cur,ch,rfl,rfl,Fu.o,fun _=>⟨rfl,fun r aJ=>by omega⟩,fun e=>by simp at e⟩
    case round=>
     clear Fu;obtain⟨k,m,c2,hk,rfl,rfl,bn⟩:=hrel;have er:=J ((FB.o _ _).1 bn.o.1);have pH:=er.o.hE.U.U.cell 0;have nl:=er.o.hE.U.U.lt;by_cases br:k<n
     ·as_aux_lemma=>
       have bT:=er.o.rep.U.U.c1;have uT:=er.o.rep.U.U.lt;have gk:=er.o.cell br;have ln:=er.o.box.U.c3;have od:=er.o.box.U.c4;have tv:=er.o.box.U.lt;obtain⟨_,_,e,-,-,aii,X_,-⟩:=er.o.S8.row.pos (by omega);cases e;obtain⟨_,_,e,-,-,ait,Eg,-⟩:=er.o.ES.row.pos (by omega);cases e;have xD:=X_ k (by omega);have acV:=Eg k (by omega);rw[o9 _ _ (by have:=zQ.o.2.1;omega),<-yS]at xD;rw[o9 _ _ (by have:=zQ.o.2.2.1;omega),<-yS]at acV;obtain⟨vq,oa⟩:=er.o.oQ k;have Ph:Hid ((¬(frm.getD k 0<c2.getD k 0+1∧c2.getD k 0+1<=upt.getD k 0))->R wr c2∧(m=false->c2=cur∧∀r,r<k+1->¬sW (o7 n frm upt) saw (mV cur) r)∧(m=true->vs upt c2 n<vs upt cur n)):=fun hn=>⟨bn.o.1,fun e=>by
        obtain⟨aP,ba⟩:=bn.o.2.1 e;refine⟨aP,fun r aJ aC=>?_⟩;by_cases c:r=k
        ·subst c
         rw[<-aP]at aC;exact hn aC.1.2
        ·exact ba r (by omega) aC,bn.o.2.2⟩
       clear X_ Eg;generalize au:c2.getD k 0=x at*;generalize bm:frm.getD k 0=f at*;generalize al:upt.getD k 0=t at*;have bX:=J (⟨au,bm,al⟩:_∧_∧_);clear au bm al;by_cases q1:x+1<=f
       ·go_wp2_with fail
        exact⟨⟨k+1,m,c2,by omega,by go_num,rfl,Ph.o (by omega)⟩,by simp[intOf];omega⟩
       ·by_cases dy:t<x+1
        ·go_wp2_with fail
         exact⟨⟨k+1,m,c2,by omega,by go_num,rfl,Ph.o (by omega)⟩,by simp[intOf];omega⟩
        ·have cw:Hid (o7 n frm upt k (c2.getD k 0+1)):=⟨br,by rw[bX.o.1,bX.o.2.1];omega,by rw[bX.o.1,bX.o.2.2];omega⟩
         obtain⟨q,ad,y1,eV⟩:=ahP (cm.o.2.2.2.1 k _ cw.o);rw[bX.o.1]at y1 eV;have oV:=sM y1;obtain⟨cA,jU,ahh,-⟩:=er.o.hE.IV.shape;subst ahh;obtain⟨hD,_,ahg,-⟩:=er.o.hE.IV.pick q ad;subst ahg;have QJ:Hid (kY k (x+1) ts[q]=true∧∀j (af:j<q),kY k (x+1) (ts[j]'(by omega))=false):=⟨y1,eV⟩;have Lj:=J oV;clear y1 eV oV Ph;go_wp2_with fail
         refine(WW wr az n hD jU c_ ts k (x+1) er.o.hE.IV q ad QJ.o.1 QJ.o.2).mono ?_;rintro e cc ⟨rfl,hX⟩;have pW:=J (er.o.below hX);clear er hX bT uT gk pH nl QJ xD acV aii ait ln od tv;obtain⟨_,y,e,Xc,dz,ei,fG,-,b9,xZ,mg⟩:=pW.o.hE.IV.pick q ad;cases e;have UW:=J (al9 (frm:=frm) (upt:=upt) (saw:=saw) Lj.o.1 (by rw[bX.o.1];exact Lj.o.2) (cm.o.2.2.2.2 _ (eT ad)) mg pW.o.rep.len cw.o);have o3:=mg.trans pW.o.rep.len.symm;go_wp2_with fail
         refine(agl cc b hD (q*5) (bo g n cap) y.sv c2 ts[q].saw ts[q].rep ts[q].seq xZ.1 (by have:c2.length=n:=pW.o.rep.len;have:=xZ.2;omega) (by rw[Lj.o.2];omega) (by rw[Lj.o.2];have:=cm.o.2.1 k;rw[bX.o.2.2]at this;omega) o3 (by have:c2.length=n:=pW.o.rep.len;omega) pW.o.rep.U.U.lt Xc (pW.o.rep.U.U.cell 1) pW.o.rep.ag.row dz ei fG b9.saw).mono ?_;rintro e w5 ⟨rfl,c7⟩;have tR:=J (pW.o.below c7);clear pW c7 dz ei fG b9 xZ mg Xc o3 cw;generalize FZ c2 ts[q].rep ts[q].seq ts[q].saw=bM at*;cases bM
         ·have aeq:Hid (¬sW (o7 n frm upt) saw (mV c2) k):=fun aC=>by have:=UW.o.2 aC;simp at this
          go_wp2_with fail
          refine⟨⟨k+1,m,c2,by omega,by go_num,rfl,(FB.o _ _).2 tR.o,fun e=>?_,bn.o.2.2⟩,by simp[intOf];omega⟩;obtain⟨aP,ba⟩:=bn.o.2.1 e;refine⟨aP,fun r aJ aC=>?_⟩;by_cases c:r=k
          ·subst c
           rw[<-aP]at aC;exact aeq.o aC
          ·exact ba r (by omega) aC
         ·have aeX:=cy (UW.o.1 (by simp))
          have bT:=tR.o.rep.U.U.c1;have uT:=tR.o.rep.U.U.lt;have gk:=tR.o.cell br;have hi:=tR.o.rep.ag.row.lt rfl;have arQ:∀q,w5.frozen? (aa g q)=false:=fun q=>by
           have av:=tR.o.rep.ag.row;rw[show c2.length=n from tR.o.rep.len]at av;exact World.ownsRow.frozenAt av q
          go_wp2_with fail
          have a:=tR.o.step br dA.o.1 aeX.o (cm.o.2.1 k);have hle:=aaq (upt:=upt) (cur:=c2) (r:=k) (by have:c2.length=n:=tR.o.rep.len;omega) (by rw[bX.o.1,bX.o.2.2];omega) n;rw[if_pos br]at hle;rw[bX.o.1]at a hle;refine⟨⟨k+1,true,c2.set k (x+1),by omega,by go_num,rfl,(FB.o _ _).2 a,fun e=>by simp at e,fun _=>?_⟩,by simp[intOf];omega⟩;cases m
          ·have:=(bn.o.2.1 rfl).1
           subst this;omega
          ·have:=bn.o.2.2 rfl
           omega
     ·as_aux_lemma=>
       have Cs:¬(k:Int)<n:=by omega
       have mG:k=n:=by omega
       have HR:=J er.o.mem;go_wp2_with fail
       refine⟨⟨m,c2,rfl,bn.o.1,fun e r aC=>?_⟩,?_⟩
       ·obtain⟨aP,ba⟩:=bn.o.2.1 e
        subst aP;by_cases c:r<n
        ·exact ba r (by omega) aC
        ·exact c aC.1.1
       ·rw[fr.o,HR.o]
        cases m
        ·rw[(bn.o.2.1 rfl).1];simp
        ·have:=bn.o.2.2 rfl
         simp only[];omega
end Go.Proofs.YtiplgdkpnhamaaaGreatDoor
namespace Go.Proofs.YtiplgdkpnhamaaaGreatDoor.Tv
open Go.Proofs.Tryz List
open Go.RowKit
variable {t:Tag}
theorem aax (c:Int)(n:Nat)(w:World)(hn:0<n)(sq:n<=2000000)(aA: -9223372036854775808<=c)(mY:c<=9223372036854775807):
  Calls prog 51 #[I c,I n] w (bx (I (lq c n)) fun w'=>w'=w):=by
 by_cases h:c<0
 ·have aL:Hid ((lq c n:Int)=(-(c+1))%n):=by
   have aH:=Fi (-(c+1)) (show(n:Int)≠0 by omega);unfold Hid lq;rw[if_pos h];omega
  go_enter func51,ntmps51;go_wp2;all_goals go_ret
  all_goals refine⟨om ?_,rfl⟩
  all_goals rw[aL.o,<-Int.neg_tmod,Int.tmod_eq_emod_of_nonneg (by omega)]
 ·have aL:Hid ((lq c n:Int)=c%n):=by
   have aH:=Fi c (show(n:Int)≠0 by omega);unfold Hid lq;rw[if_neg h];omega
  go_enter func51,ntmps51;go_wp2;all_goals go_ret
  all_goals refine⟨om ?_,rfl⟩
  all_goals rw[aL.o]
structure fC where
 text:ByteArray
 gp:Bool
 cN:Nat
 bD:Value
 lh:Value
 aG:Value
 vec:List Int
 frm:List Int
 upt:List Int
def fC.cells (l:fC):List Value:=[.string l.text,.bool l.gp,.int .i64 l.cN,l.bD,l.lh,l.aG]
structure ru (w:World)(o:Nat->Tag)(s n:Nat)(a8:Value)(L:List fC):Prop where
 row:b3 w o (s+13,0,0) 101 6 a8 L.length (L.flatMap fC.cells)
 lets:∀l,l∈L->r6 w o (s+14,0,0) n l.bD l.lh l.aG l.vec l.frm l.upt
def hq (s:Nat)(t:Tag):Prop:=s+1<=t.1∧t.1<=s+14
theorem x5 {s:Nat}(h:fN s t):hq s t:=⟨h.1,fx h.2 (by omega)⟩
theorem r6.fp {w w':World}{o o':Nat->Tag}{n:Nat}{bD lh aG:Value}{vec frm upt:List Int}(h:r6 w o t n bD lh aG vec frm upt)(hb:∀q,q<w.heap.size->o q=t->w'.heap[q]?=w.heap[q]?∧o' q=t):r6 w' o' t n bD lh aG vec frm upt:=
 ⟨h.vec.fp hb,h.frm.fp hb,h.A_.fp hb⟩
theorem ru.da {B:Tag->Prop}{w w':World}{o o':Nat->Tag}{s n:Nat}{a8:Value}{L:List fC}(h:ru w o s n a8 L)(k:dS B w o w' o')(ao:∀a b c,13<=a->¬B (s+a,b,c)):ru w' o' s n a8 L:=by
 have f:∀a b c,13<=a->∀q,q<w.heap.size->o q=(s+a,b,c)->w'.heap[q]?=w.heap[q]?∧o' q=(s+a,b,c):=fun a b c aU q ad e=>by
  have:=k.at ad (by rw[e];exact ao a b c aU);exact⟨this.1,this.2.trans e⟩
 exact⟨h.row.fp (f 13 _ _ (by omega)),fun l aC=>r6.fp (h.lets l aC) (f 14 _ _ (by omega))⟩
theorem ru.law {w w':World}{o o':Nat->Tag}{s n:Nat}{a8:Value}{L:List fC}(h:ru w o s n a8 L)(k:dS (fN s) w o w' o'):ru w' o' s n a8 L:=
 h.da k fun a b c aU e=>by have:=e.2;simp at this;omega
theorem kv.ay {bk:Nat->Nat->List Int}{bQ:Nat->List Int}{A:Tag->Prop}{w w':World}{o o':Nat->Tag}{s i b n:Nat}{d:aZ}(h:kv bk bQ w o s i b n d)(k:ct A w o w' o')(eK:∀t,lu s i t->¬A t)(cx:∀j,¬A (s+7,i,j)):kv bk bQ w' o' s i b n d:=by
 obtain⟨ah,bw,⟨bD,v,xs,R⟩,K⟩:=h;exact⟨ah,bw,⟨bD,v,xs,R.ay k eK⟩,K.ay k cx⟩
theorem aor {s i:Nat}(h:lu s i t):t.1<=s+6:=by
 rcases h with rfl|rfl|rfl|⟨k,rfl|rfl⟩<;>simp
theorem air {s:Nat}(h:B0 s t):t.1<=s+10:=by
 rcases h with⟨k,rfl⟩|⟨k,rfl|rfl⟩<;>simp
section
variable {aX:World->(Nat->Tag)->Tag->Nat->Nat->Nat->aZ->Prop}{bk:Nat->Nat->List Int}{bQ:Nat->List Int}{w w':World}{o o':Nat->Tag}{s aj az n i:Nat}{m:iM}{aI ak:List Nat}{a6 a8 aG aK aN ah:Value}{ar:Int}{eG b1:List aZ}{ts:List aT}
theorem cU.aoT (P:gH aX)(h:cU aX bk bQ w o s aj az n aI ak a6 a8 aG aK aN ah ar m eG b1 ts)(mm:Value):cU aX bk bQ (w.setCell (aa aj 2) mm) o s aj az n aI ak a6 mm aG aK aN ah ar m eG b1 ts:=by
 have J2:=h.U.tag;have T:ct (fun t=>t=(s+11,0,0)) w o (w.setCell (aa aj 2) mm) o:=(ct.refl _ w o).set (p:=(aa aj 2)) J2 _;obtain⟨eF,bT,dk⟩:=h.texts;obtain⟨dY,c6,eu⟩:=h.ye;obtain⟨ln,e0,eL⟩:=h.x9;obtain⟨od,fZ,fO⟩:=h.x7;obtain⟨jA,de,c_,G⟩:=h.hE;refine⟨h.U.set 2 mm,h.rs.ay T (by simp),⟨eF,bT,dk.ay T (by simp)⟩,⟨dY,c6,eu.ay T (by simp)⟩,⟨ln,e0,eL.ay T (by simp)⟩,⟨od,fZ,fO.ay T (by simp)⟩,⟨jA,de,c_,G.ay T fun t al e=>?_⟩,h.pe,h.pf,h.qM,h.sb,fun j af=>P.move (h.prog j af) fun q ad e=>⟨T.ay.block q ad (by rw[e];simp),e⟩,fun j af=>(h.ref j af).ay T (fun t al e=>?_) fun k e=>?_⟩
 ·have:=air al;rw[e]at this;simp at this
 ·have:=aor al;rw[e]at this;simp at this
 ·simp at e
end
theorem Tryz.ZX:(prog.info? 101).map (fun i=>(i.zero,i.size,i.bytes))=some (some (.agg #[ai ⟨#[]⟩,.bool false,I 0,.slice none 0 0,.slice none 0 0,.slice none 0 0]),6,104):=by kernel_rfl
section
variable {aX:World->(Nat->Tag)->Tag->Nat->Nat->Nat->aZ->Prop}{bk:Nat->Nat->List Int}{bQ:Nat->List Int}{w w' W:World}{o o':Nat->Tag}{s aj az n i:Nat}{m:iM}{aI ak:List Nat}{a6 a8 aG aK aN ah:Value}{ar:Int}{eG b1:List aZ}{ts:List aT}{L:List fC}
theorem aam (P:gH aX)(h:cU aX bk bQ W o s aj az n aI ak a6 a8 aG aK aN ah ar m eG b1 ts)(hw:ru W o s n a8 L)(l:fC)(aC:r6 W o (s+14,0,0) n l.bD l.lh l.aG l.vec l.frm l.upt){bE:Obj}{mm:Value}
  (bf:w'.ownsRow 0 101 6 mm (L.length+1) (L.flatMap fC.cells++l.cells))(aM:(W.alloc bE).grownBy w' a8.ownBlock)(et:mm.ownBlock=a8.ownBlock∨mm.ownBlock=some (W.alloc bE).heap.size):
  ∃o',cU aX bk bQ (w'.setCell (aa aj 2) mm) o' s aj az n aI ak a6 mm aG aK aN ah ar m eG b1 ts∧ru (w'.setCell (aa aj 2) mm) o' s n mm (L++[l])∧dS (hq s) W o (w'.setCell (aa aj 2) mm) o':=by
 have Zo:=hw.row.alloc bE;have p0:ct (fun t=>t=(s+13,0,0)) W o w' (ee o (W.alloc bE).heap.size (s+13,0,0)):=((ct.refl _ W o).alloc bE).dw aM Zo.tag rfl;have h1:=h.off P (p0.da fun _=>id) (fun t al _ e=>by have:=al.2;rw[e]at this;simp at this);have J2:=h1.U.tag;have eD:ct (fun t=>t=(s+11,0,0)) w' (ee o (W.alloc bE).heap.size (s+13,0,0)) (w'.setCell (aa aj 2) mm) (ee o (W.alloc bE).heap.size (s+13,0,0)):=(ct.refl _ w' _).set (p:=(aa aj 2)) J2 _;refine⟨_,h1.aoT P mm,⟨?_,fun q ad=>?_⟩,?_⟩
 ·have a:=(Zo.app bf et).ay eD (by simp)
  have e:(L++[l]).flatMap fC.cells=L.flatMap fC.cells++l.cells:=by simp
  rw[e,eN,ys];exact a
 ·have iB:r6 W o (s+14,0,0) n q.bD q.lh q.aG q.vec q.frm q.upt:=by
   rcases hT.1 ad with ad|ad
   ·exact hw.lets q ad
   ·rw[k4.1 ad];exact aC
  exact⟨(iB.vec.ay p0 (by simp)).ay eD (by simp),(iB.frm.ay p0 (by simp)).ay eD (by simp),(iB.A_.ay p0 (by simp)).ay eD (by simp)⟩
 ·exact(p0.da fun t e=>by subst e;exact⟨by simp,by simp⟩).trans (eD.da fun t e=>by subst e;exact⟨by simp,by simp⟩)
end
theorem aqM (aX:World->(Nat->Tag)->Tag->Nat->Nat->Nat->aZ->Prop)(bk:Nat->Nat->List Int)(bQ:Nat->List Int)(P:gH aX)(w:World)(o:Nat->Tag)(s aj az n:Nat)(aI ak:List Nat)(a6 a8 aG aK aN ah:Value)(ar:Int)(m:iM)(a7:List aZ)(ts:List aT)(L:List fC)(T:Nat->ByteArray)(p:gw)(aw:p.Ok)(hk:p.kind=10)
  (h:cU aX bk bQ w o s aj az n aI ak a6 a8 aG aK aN ah ar m a7 a7 ts)(hw:ru w o s n a8 L)(cT:L.length<=1900000)(hn:0<n)(b2:n<=5)(tn:∀q,q<6->q<w.heap.size∧¬hq s (o q))
  (Ni:∀(i b:Nat) (d:aZ) (W:World) (iK:Nat->Tag),i<n->a7[i]?=some d->aI[i]?=some b->(∀q,q<6->W.heap[q]?=w.heap[q]?)->aX W iK (s+1,i,0) b n i d->Calls prog 37 #[ptr b] W (bx (ai (T i)) fun w'=>ax W w')):
  Calls prog 54 #[ptr aj,p.agg] w (bx (.bool true) fun w'=>∃o' mm i d v',i<n∧a7[i]?=some d∧cU aX bk bQ w' o' s aj az n aI ak a6 mm aG aK aN ah ar m a7 a7 ts∧ru w' o' s n mm (L++[⟨T i,false,i,v',.slice none 0 0,.slice none 0 0,d.ag,[],[]⟩])∧dS (hq s) w o w' o'):=by
 obtain⟨i0,Cl,dC,dM,dK⟩:=iV Tryz.ZX;have cw:=J (⟨Cl,dC,dM,dK⟩:_∧_∧_∧_);clear Cl dC dM dK;obtain⟨kind,a,b,c,key,text⟩:=p;simp only at hk;subst hk;obtain⟨bC,W,o1,iP,ix,mW,nj,eQ,eJ,d,sn,nZ,tm,aq,rfl,bY,wC,wb,iZ,hM,gW,aB,i_,ja⟩:=vr P h aw hn b2;obtain⟨-,-,-,-,-,c0,c1,c2,lk,l1,ek,cI,-,-,-,-,ir,fW,ft,l5,l4⟩:=i_.o;have bR:=J hw;clear h hw i_;have bn:Hid (a7[bC]?=some d∧aI[bC]?=some eQ∧a7[bC]=d∧aI[bC]=eQ∧ak[bC]=eJ):=⟨by rw[hg (by omega),aB],by rw[hg (by omega),hM],aB,hM,gW⟩;have U_:=J Ni;have By:=J tn;clear aw hM gW aB Ni tn;go_enter func54,ntmps54;go_upto_region 1 with(fail);go_cut[5] (fun v wc=>v=I bC∧Hid (ax W wc))
 case first=>
  go_region_with(go_at_call 51;refine(iZ.o _).mono ?_;rintro e w5 ⟨rfl,rfl⟩)
  all_goals
   go_wp2_with fail
   go_meet;exact⟨rfl,(cE).drew⟩
 case rest=>
  obtain⟨rfl,ao⟩:=hcut;clear c0 c1 c2 lk l1 ek cI ir fW ft l5 l4 bY iZ;obtain⟨bu,gl,M2,-,-,nm,ky,nn,nz,nv,nB,-,-,-,-,-,kX,oD,oz,oF,oC⟩:=ja.o _ ao.o;have W2:=J (bR.o.da (M2.o fun _=>False) fun _ _ _ _=>id);replace M2:=J (M2.o (hq s))
  clear bR ja;have tS:Hid (∀q,q<6->wc.heap[q]?=w.heap[q]?):=fun q ad=>by
   have aC:=By.o q ad;exact(M2.o.at aC.1 aC.2).1
  go_wp2_with fail
  refine(U_.o bC eQ d wc o1 aq bn.o.1 bn.o.2.1 tS.o (bn.o.2.2.2.1▸bn.o.2.2.1▸bu.o.prog bC aq)).mono ?_;rintro e an ⟨rfl,aF⟩;have ck:=J (bu.o.below P aF);have dH:=J (W2.o.da ((ct.dh (A:=fun _=>False) (o:=o1) aF).da fun _=>id) fun _ _ _ _=>id);have kh:=J (M2.o.trans ((ct.dh (A:=hq s) (o:=o1) aF).da fun _=>id));have yW:kv bk bQ an o1 s bC eJ n d:=bn.o.2.2.2.2▸bn.o.2.2.1▸ck.o.ref bC aq;obtain⟨x2,xG,tT,-⟩:=yW;have yD:=J tT;clear tT aF bu W2 M2 gl tS U_ By nm ky nn nz nv nB kX oD oz oF oC ao;go_wp2_with fail
  refine(alX x2 xG an o1 s bC eJ n d (s+14,0,0) yD.o hn b2).mono ?_;rintro e w2 ⟨v',rfl,bP,Au⟩;obtain⟨js,r0,bB,-⟩:=Au.vec.row.shape;subst bB;have eD:ct (fun _=>False) an o1 w2 (gX o1 an.heap.size fun _=>(s+14,0,0)):=⟨Touch.dh bP,fun q ad=>nF ad⟩;have cd:=J (ck.o.off P (eD.da fun _=>id) fun _ _ _=>id);have ie:=J (dH.o.da (eD.da fun _=>id) fun _ _ _ _=>id);have kN:=J (kh.o.trans (eD.da fun _ e=>e.elim));have yB:=J Au;clear Au eD bP ck dH kh yD;generalize gX o1 an.heap.size (fun _=>(s+14,0,0))=dx at*;go_upto_region 7 with(fail);have cR:=J (cd.o.new P (.cells #[.bool false,I bC,.slice js n r0,.slice none 0 0,.slice none 0 0] 99) (s+12,1,0));have mP:=J (cP.fresh w2 dx [.bool false,I bC,.slice js n r0,.slice none 0 0,.slice none 0 0] 99 (s+12,1,0));have z6:=tw (B:=fun _=>False) w2 dx (.cells #[.bool false,I bC,.slice js n r0,.slice none 0 0,.slice none 0 0] 99) (s+12,1,0);have fY:=J (ie.o.da z6 fun _ _ _ _=>id);have sV:Hid (r6 _ _ (s+14,0,0) n (.slice js n r0) (.slice none 0 0) (.slice none 0 0) d.ag [] []):=r6.fp yB.o fun q ad e=>by
   have:=z6.at ad id;exact⟨this.1,this.2.trans e⟩
  have sX:=J (kN.o.trans (z6.mono fun _ e=>e.elim));clear z6 cd ie kN yB;generalize tb:w2.alloc (.cells #[.bool false,I bC,.slice js n r0,.slice none 0 0,.slice none 0 0] 99)=V at*;generalize ee dx w2.heap.size (s+12,1,0)=iv at*;generalize w2.heap.size=lb at*;clear tb;obtain⟨jt,oN,px,-⟩:=fY.o.row.row.shape;subst px;have c2:=cR.o.U.U.c2;have f2:=cR.o.U.U.frozen 2;have dY:=cR.o.U.U.lt;have dm:=mP.o.U.c0;have dz:=mP.o.U.c1;have ei:=mP.o.U.c2;have fG:=mP.o.U.c3;have ib:=mP.o.U.c4;have zH:=mP.o.U.lt;have HV:=J fY.o.row;have r4:=J cR.o.U;go_region_law(refine q6 rfl _ _ 90 rfl 101 i0 (.agg #[ai ⟨#[]⟩,.bool false,I 0,.slice none 0 0,.slice none 0 0,.slice none 0 0]) 6 104 underlying90 cw.o.1 cw.o.2.1 cw.o.2.2.1 cw.o.2.2.2 rfl (by decide) (.slice jt L.length oN) L.length (L.flatMap fC.cells) (by simp[Act.eval]) (by exact h2 HV.o.row _) (aa (V.heap.size) 0) 1 1 [ai (T bC),.bool false,I bC,.slice js n r0,.slice none 0 0,.slice none 0 0] (by simp[Act.eval]) rfl (by exact CP _ _ _) (by intro u hu;simp at hu;rcases hu with rfl|rfl|rfl|rfl|rfl<;>rfl) (by unfold maxLen;omega) (by omega) ?_;intro v6 eS xV oE D9;obtain⟨g6,agn,rfl,-,-,-,-,-⟩:=Row.pos xV (by omega);have mD:(V.alloc (.cells #[ai (T bC),.bool false,I bC,.slice js n r0,.slice none 0 0,.slice none 0 0] 101)).grownBy eS (Value.slice jt L.length oN).ownBlock:=⟨oE.os,oE.tape,oE.output,oE.size,oE.block⟩;have dT:=(r4.o.alloc _).dw mD HV.o.tag (by simp);have nc:=dT.U.cell 2;have sF:=dT.U.frozen 2;have CM:=dT.U.lt;clear dT oE)
  all_goals(obtain⟨hr,bd,cc,m4⟩:=aam P cR.o fY.o ⟨T bC,false,bC,.slice js n r0,.slice none 0 0,.slice none 0 0,d.ag,[],[]⟩ sV.o xV mD D9;have cz:=J (⟨bd,cc,sX.o.trans m4⟩:_∧_∧_);clear bd cc m4 xV mD D9 nc sF CM)
  all_goals
   go_wp2_with fail
   go_ret;exact⟨rfl,hr,_,bC,d,_,aq,bn.o.1,cz.o.1,cz.o.2.1,cz.o.2.2⟩
theorem OD (aX:World->(Nat->Tag)->Tag->Nat->Nat->Nat->aZ->Prop)(bk:Nat->Nat->List Int)(bQ:Nat->List Int)(P:gH aX)(w:World)(o:Nat->Tag)(s aj az n:Nat)(aI ak:List Nat)(a6 a8 aG aK aN ah:Value)(ar:Int)(m:iM)(a7:List aZ)(ts:List aT)(p:gw)(hG:Int)(aw:p.Ok)(hk:(p.kind=2∧hG=1)∨(p.kind=3∧hG=2)∨(p.kind=4∧hG=3)∨(p.kind=5∧hG=4))
  (h:cU aX bk bQ w o s aj az n aI ak a6 a8 aG aK aN ah ar m a7 a7 ts)(hn:0<n)(b2:n<=5)(iR:∀d,d∈a7->Room d):
  Calls prog 52 #[ptr aj,p.agg] w (bx (.bool true) fun w'=>∃o' i d,i<n∧a7[i]?=some d∧cU aX bk bQ w' o' s aj az n aI ak a6 a8 aG aK aN ah ar m (a7.set i (jx d p.b ⟨hG,p.key,p.text,p.c⟩)) (a7.set i (jx d p.b ⟨hG,p.key,p.text,p.c⟩)) ts∧dS (fN s) w o w' o'):=by
 obtain⟨kind,a,b,c,key,text⟩:=p;simp only at hk;obtain⟨bC,W,o1,iP,ix,mW,nj,eQ,eJ,d,sn,nZ,tm,aq,rfl,bY,wC,wb,iZ,hM,gW,aB,i_,ja⟩:=vr P h aw hn b2;obtain⟨-,-,-,-,-,c0,c1,c2,lk,l1,ek,cI,-,-,-,-,ir,fW,ft,l5,l4⟩:=i_.o;clear h i_;have bn:=J (⟨iR d (by rw[<-aB];exact eT _),aB,hM,gW⟩:_∧_∧_∧_);have dp:=J aw;clear aw iR hM gW aB;go_enter func52,ntmps52;go_upto_region 1 with(fail);go_cut[5] (fun v wc=>v=I bC∧Hid (ax W wc))
 case first=>
  go_region_with(go_at_call 51;refine(iZ.o _).mono ?_;rintro e w5 ⟨rfl,rfl⟩)
  all_goals
   go_wp2_with fail
   go_meet;exact⟨rfl,(cE).drew⟩
 case rest=>
  obtain⟨rfl,ao⟩:=hcut;clear c0 c1 c2 lk l1 ek cI ir fW ft l5 l4 bY iZ;obtain⟨bu,gl,M2,jH,-,nm,ky,nn,nz,nv,nB,-,rO,alE,J6,J7,kX,oD,oz,oF,oC⟩:=ja.o _ ao.o;replace M2:=J (M2.o (fN s))
  clear ja;have cD:=J hk;have r5:Hid (∀W iK,kv bk bQ W iK s bC eJ n d->Calls prog 93 #[ptr eJ,I b,.agg #[I hG,ai key,ai text,I c]] W (bx (I (h6 (du d b) ⟨hG,key,text,c⟩)) fun w'=>∃o',kv bk bQ w' o' s bC eJ n (jx d b ⟨hG,key,text,c⟩)∧ct (lu s bC) W iK w' o')):=fun W iK bI=>aoi W iK s bC eJ n d b ⟨hG,key,text,c⟩ bI (by rcases hk with⟨-,rfl⟩|⟨-,rfl⟩|⟨-,rfl⟩|⟨-,rfl⟩<;>simp) dp.o.key dp.o.text
  clear hk;rcases cD.o with⟨rfl,rfl⟩|⟨rfl,rfl⟩|⟨rfl,rfl⟩|⟨rfl,rfl⟩
  all_goals
   as_aux_lemma=>
    go_wp2_with fail
    first
    |refine(P.add _ o1 (s+1,bC,0) eQ n bC d b ⟨1,key,text,c⟩ jH.o bn.o.1 rfl dp.o.key).mono ?_
    |refine(P.write _ o1 (s+1,bC,0) eQ n bC d b ⟨2,key,text,c⟩ jH.o bn.o.1 rfl dp.o.key dp.o.text).mono ?_
    |refine(P.insert _ o1 (s+1,bC,0) eQ n bC d b ⟨3,key,text,c⟩ jH.o bn.o.1 rfl dp.o.key dp.o.text).mono ?_
    |refine(P.remove _ o1 (s+1,bC,0) eQ n bC d b ⟨4,key,text,c⟩ jH.o bn.o.1 rfl dp.o.key dp.o.text).mono ?_
    rintro e an ⟨rfl,dx,hY,aD⟩;have ck:=J (bu.o.Kr P aq aD (bn.o.2.2.1.symm▸hY));have BB:=J (bn.o.2.2.2▸bn.o.2.1▸ck.o.ref bC aq);have kh:=J (M2.o.trans (aD.da wP));have jE:=gl.o.ay aD (by simp);have x0:=jE.U.c0;have gK:=jE.U.c2;have x1:=jE.U.c3;have zg:=jE.U.c4;have EG:=jE.U.c5;have ai3:=jE.U.lt;clear hY aD bu gl M2 jH nm ky nn nz nv nB rO alE J6 J7 kX oD oz oF oC jE;generalize au:h6 (du d b) _=x at*;have cm:=J au;clear au;go_wp2_with fail
    refine(r5.o an dx BB.o).mono ?_;rintro e w2 ⟨he,iv,yW,aD⟩;try rw[cm.o]at he
    subst he;have cd:=J (ck.o.Tq P aq aD (bn.o.2.2.2.symm▸yW));have kN:=J (kh.o.trans (aD.da fun _=>Oe));clear yW aD ck kh BB x0 gK x1 zg EG;go_wp2_with fail
    go_ret;exact⟨rfl,iv,bC,d,aq,by rw[hg (by omega),bn.o.2.1],cd.o,kN.o⟩
end Go.Proofs.YtiplgdkpnhamaaaGreatDoor.Tv
