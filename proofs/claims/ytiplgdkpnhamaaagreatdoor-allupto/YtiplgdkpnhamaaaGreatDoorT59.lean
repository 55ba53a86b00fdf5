import Derived.Test.YtiplgdkpnhamaaaGreatDoorT28
import Derived.ControlIn
set_option maxHeartbeats 16000000
set_option maxRecDepth 100000
namespace Go.Proofs.YtiplgdkpnhamaaaGreatDoor
open Go.Proofs.Tryz List
open Go.RowKit Go.Sort
variable {B cap g i j k n b7:Nat}{l ca:List e4}{sv:Value}{w w' wr:World}
structure rn (B:Nat)(w:World)(b7:Nat)(sv:Value)(l:List e4):Prop where
 U:aQ w b7 [sv] 208
 row:sZ B w sv l
theorem rn.cell (h:rn B w b7 sv l):w.cell? (aa b7 0)=some sv:=h.U.cell 0
theorem rn.later (h:rn B w b7 sv l)(hb:ax w w'):rn B w' b7 sv l:=⟨h.U.below hb,jZ h.row hb⟩
theorem rn.ne (h:rn B w b7 sv l):sv.ownBlock≠some b7:=NY h.U h.row (by decide)
structure ot (B:Nat)(w:World)(b7 g cap:Nat)(l ca:List e4)(wr:World):Prop where
 len:ca.length=l.length
 perm:ca.Perm l
 q:rn B wr b7 (bo g l.length cap) ca
 e2:Touch (fun q=>q=g) w wr
theorem ot.later (h:ot B w b7 g cap l ca wr)(hb:ax wr w'):ot B w b7 g cap l ca w':=
 ⟨h.len,h.perm,h.q.later hb,h.e2.then (Touch.dh hb)⟩
theorem ot.swap (h:ot B w b7 g cap l ca wr)(aq:i<ca.length)(af:j<ca.length)(aJ:sZ B w' (bo g (nL ca i j aq af).length cap) (nL ca i j aq af))(al:Touch (fun q=>q=g) wr w'):ot B w b7 g cap l (nL ca i j aq af) w':=by
 have e:(nL ca i j aq af).length=ca.length:=by simp[nL]
 refine⟨e.trans h.len,(swap_perm ca aq af).trans h.perm,⟨h.q.U.ay al fun c=>h.q.ne (by rw[c];rfl),?_⟩,h.e2.then al⟩;rw[e,h.len]at aJ;exact aJ
theorem Hm (hk:k<l.length):iU ji l k=l[k]:=by simp[iU,hk]
abbrev NF (l:List e4)(i j:Nat)(aq:i<l.length)(af:j<l.length):Bool:=kJ l[i] l[j]
theorem ajc (B:Nat)(w:World)(b7 g cap:Nat)(l:List e4)(ad:rn B w b7 (bo g l.length cap) l)(aC:l.length<=100000000)(af:j<l.length)(hu:xv kJ (iU ji l) l.length j):
  Calls prog 172 #[KB b7,I j] w (bx (.tuple #[]) fun w'=>∃ca,ot B w b7 g cap l ca w'∧sU kJ (iU ji ca) ca.length):=by
 have fk:Hid (ot B w b7 g cap l l w∧xv kJ (iU ji l) l.length j):=⟨⟨rfl,List.Perm.refl _,ad,Touch.refl _ _⟩,hu⟩;obtain⟨n,hn⟩:∃n,l.length=n:=⟨_,rfl⟩;have cp:=J hn;have mF:j<n:=by omega
 have Cr:n<=100000000:=by omega
 clear ad hu aC af hn;go_enter func172,ntmps172;go_wp2;go_loopw[1] (fun tu wr=>∃(k:Nat) (ca:List e4),k<n∧tu=I k∧Hid (ot B w b7 g cap l ca wr∧xv kJ (iU ji ca) l.length k)) (fun tu _=>(intOf tu).toNat)
 case atStart=>exact⟨j,l,mF,rfl,fk⟩
 case round=>
  obtain⟨k,ca,hk,rfl,bc⟩:=hrel;have ij:ca.length=n:=bc.o.1.len.trans cp.o;have lf:=bc.o.1.q.cell;have so:=SK b7 wr lf;by_cases vi:k=0
  ·subst vi
   go_wp2_with fail
   go_end0;refine⟨rfl,ca,bc.o.1,?_⟩;rw[bc.o.1.len];exact bc.o.2.done (Or.inl rfl)
  ·obtain⟨m,hm⟩:∃m,par k=m:=⟨_,rfl⟩
   have rI:m<k:=by unfold par at hm;omega
   have em:((k:Int)-1)/2=(m:Int):=by unfold par at hm;omega
   have bS:((m:Int)==(k:Int))=false:=Bi (by omega);have dU:k<ca.length:=by omega
   have kk:m<ca.length:=by omega
   have vn:sZ B wr (bo g ca.length cap) ca:=by have:=bc.o.1.q.row;rw[<-bc.o.1.len]at this;exact this
   have xT:=abG B wr g cap ca vn (by omega) dU kk;have JY:NF ca k m dU kk=kJ (iU ji ca k) (iU ji ca (par k)):=by rw[hm,Hm dU,Hm kk]
   rw[bc.o.1.len]at xT;have tQ:=J xT;have fr:=J hm;clear xT hm;go_upto_region 0 with(fail);go_cut[4] (fun kc wc=>kc=I m∧wc=wr)
   case first=>
    go_wp2_with fail
    go_meet;exact⟨by rw[em],rfl⟩
   case rest=>
    obtain⟨rfl,rfl⟩:=hcut;clear em;cases hb:NF ca k m dU kk with
    |false=>
     unfold NF at hb;rw[hb]at tQ;go_wp2_with(go_at_call 292;refine tQ.o.mono ?_;rintro e an ⟨rfl,aF⟩;have dF:=J aF;clear aF)
     go_end0;refine⟨rfl,ca,bc.o.1.later dF.o,?_⟩;rw[bc.o.1.len];exact bc.o.2.done (Or.inr (by rw[<-JY];exact hb))
    |true=>
     unfold NF at hb;rw[hb]at tQ;have vo:=fun an (aF:ax wc an)=>abH B an g cap ca (jZ vn aF) (by omega) kk dU (by omega)
     rw[bc.o.1.len]at vo;have Pt:=J vo;clear vo vn;go_wp2_with(first|(go_at_call 292;refine tQ.o.mono ?_;rintro e an ⟨rfl,aF⟩;have xU:=SL b7 an (bc.o.1.later aF).q.cell;have dF:=J aF;clear aF)|(go_at_call 295;refine(Pt.o an dF.o).mono ?_;rintro e w2 ⟨rfl,uu,Nj⟩;have mv:=J (⟨uu,Nj⟩:_∧_);clear uu Nj))
     have xH:=(bc.o.1.later dF.o).swap kk dU mv.o.1 mv.o.2;have rD:xv kJ (iU ji (nL ca m k kk dU)) l.length m:=by
      have a:=bc.o.2.step C8 (by omega) (by have:=cp.o;omega) (by rw[<-JY];exact hb);rw[fr.o]at a;have e:=OH ji ca kk dU;unfold nL;rw[e];exact a
     exact⟨⟨m,nL ca m k kk dU,by omega,rfl,xH,rD⟩,by simp only[intOf];omega⟩
theorem ot.row (h:ot B w b7 g cap l ca wr):sZ B wr (bo g ca.length cap) ca:=by have:=h.q.row;rw[<-h.len]at this;exact this
theorem ot.less (h:ot B w b7 g cap l ca wr)(aC:l.length<=100000000)(aq:i<ca.length)(af:j<ca.length):
  Calls prog 292 #[bo g l.length cap,I i,I j] wr (bx (.bool (kJ (iU ji ca i) (iU ji ca j))) fun w'=>ax wr w'):=by
 have a:=abG B wr g cap ca h.row (by rw[h.len];exact aC) aq af;rw[h.len]at a;rw[Hm aq,Hm af];exact a
theorem ot.swp (h:ot B w b7 g cap l ca wr)(aC:l.length<=100000000)(aq:i<ca.length)(af:j<ca.length)(l6:i≠j):
  Calls prog 295 #[bo g l.length cap,I i,I j] wr (bx (.tuple #[]) fun w'=>ot B w b7 g cap l (nL ca i j aq af) w'):=by
 have a:=abH B wr g cap ca h.row (by rw[h.len];exact aC) aq af l6;rw[h.len]at a;refine a.mono ?_;rintro e w' ⟨rfl,h1,ae⟩;exact⟨rfl,h.swap aq af h1 ae⟩
structure ae1 (l:List e4)(n i j:Nat):Prop where
 lt:j<n
 pos:1<=j
 par:par j=i
 min:∀k,1<=k->k<n->Go.Proofs.YtiplgdkpnhamaaaGreatDoor.par k=i->kJ (iU ji l k) (iU ji l j)=false
theorem Sl (h1:1<=k)(h:par k=i):k=2*i+1∨k=2*i+2:=by unfold par at h;omega
structure HG (B:Nat)(w:World)(b7 g cap:Nat)(l:List e4)(n:Nat)(ca:List e4)(i:Nat)(wr:World):Prop where
 q:ot B w b7 g cap l ca wr
 d:vJ kJ (iU ji ca) n i
 s5:∀k,n<=k->iU ji ca k=iU ji l k
theorem HG.later (h:HG B w b7 g cap l n ca i wr)(hb:ax wr w'):HG B w b7 g cap l n ca i w':=⟨h.q.later hb,h.d,h.s5⟩
def adR (B:Nat)(w:World)(b7 g cap:Nat)(l:List e4)(n:Nat)(e:Ending)(w':World):Prop:=(∃b,e= .returned (.bool b))∧∃ca,ot B w b7 g cap l ca w'∧sU kJ (iU ji ca) n∧∀k,n<=k->iU ji ca k=iU ji l k
theorem ai9 (B:Nat)(w:World)(b7 g cap:Nat)(l:List e4)(ad:rn B w b7 (bo g l.length cap) l)(aC:l.length<=100000000)(hn:n<=l.length)(aB:vJ kJ (iU ji l) n 0):
  Calls prog 173 #[KB b7,I 0,I n] w (adR B w b7 g cap l n):=by
 have fk:HG B w b7 g cap l n l 0 w:=⟨⟨rfl,List.Perm.refl _,ad,Touch.refl _ _⟩,aB,fun _ _=>rfl⟩;have dn:=J (⟨hn,aC⟩:_∧_);have asU:n<=100000000:=by omega
 clear ad aB aC hn;go_enter func173,ntmps173;go_wp2;go_loopw[7] (fun kc wr=>∃(i:Nat) (ca:List e4),i<=n∧kc=I i∧Hid (HG B w b7 g cap l n ca i wr)) (fun kc _=>n-(intOf kc).toNat)
 case atStart=>exact⟨0,l,ch,rfl,fk⟩
 case round=>
  obtain⟨i,ca,hj,rfl,bc⟩:=hrel;by_cases eK:n<=2*i+1
  ·go_wp2_with fail
   go_ret;exact⟨⟨_,rfl⟩,ca,bc.o.q,bc.o.d.leaf (by omega),bc.o.s5⟩
  ·have kC:ca.length=l.length:=bc.o.q.len
   have qc:=dn.o.1;have Xq:2*i+1<ca.length:=by omega
   have th:i<ca.length:=by omega
   obtain⟨gr,Cm⟩:∃gr:Nat,2*i+1=gr:=⟨_,rfl⟩;have Ql:(2:Int)*i+1=(gr:Nat):=by omega
   rw[Cm]at eK Xq;have H1:=J Cm;have Xt:gr<n:=by omega
   clear eK Cm qc;go_upto_region 4 with(fail);go_cut[9] (fun tu wc=>tu=I gr∧wc=wr)
   case first=>
    go_wp2_with fail
    go_meet;exact⟨rfl,rfl⟩
   case rest=>
    obtain⟨rfl,rfl⟩:=hcut;apply_assumption
    apply wp_seq_k;intro _ _;go_cut[9] (fun tu w2=>∃j:Nat,tu=I j∧Hid (ae1 ca n i j∧ax wc w2))
    case first=>
     obtain⟨gK,m_⟩:∃gK:Nat,gr+1=gK:=⟨_,rfl⟩;have arF:(gr:Int)+1=(gK:Nat):=by omega
     have h1:=H1.o;have jd:par gr=i:=by unfold par;omega
     have qd:par gK=i:=by unfold par;omega
     by_cases ao:gK<n
     ·have so:=SK b7 wc bc.o.q.q.cell
      have xT:=bc.o.q.less dn.o.2 (i:=gK) (j:=gr) (by have:=dn.o.1;omega) Xq;have tQ:=J xT;have iY:=J (⟨m_,h1,jd,qd⟩:_∧_∧_∧_);clear xT m_ h1 jd qd Ql;cases hb:kJ (iU ji ca gK) (iU ji ca gr)with
      |true=>
       rw[hb]at tQ;have yz:=J hb;clear hb;go_wp2_with(go_at_call 292;refine tQ.o.mono ?_;rintro e an ⟨rfl,aF⟩;have dF:=J aF;clear aF)
       go_meet;obtain⟨m_,h1,jd,qd⟩:=iY.o;refine⟨gK,rfl,⟨ao,by omega,qd,fun k cI dq eW=>?_⟩,dF.o⟩;rcases Sl cI eW with c|c
       ·rw[show k=gr by omega];exact C8.Hj _ _ yz.o
       ·rw[show k=gK by omega];exact C8.Nt _
      |false=>
       rw[hb]at tQ;have yz:=J hb;clear hb;go_wp2_with(go_at_call 292;refine tQ.o.mono ?_;rintro e an ⟨rfl,aF⟩;have dF:=J aF;clear aF)
       go_meet;obtain⟨m_,h1,jd,qd⟩:=iY.o;refine⟨gr,rfl,⟨Xt,by omega,jd,fun k cI dq eW=>?_⟩,dF.o⟩;rcases Sl cI eW with c|c
       ·rw[show k=gr by omega];exact C8.Nt _
       ·rw[show k=gK by omega];exact yz.o
     ·have iY:=J (⟨m_,h1,jd⟩:_∧_∧_)
      clear m_ h1 jd qd Ql;go_wp2_with fail
      go_meet;obtain⟨m_,h1,jd⟩:=iY.o;refine⟨gr,rfl,⟨Xt,by omega,jd,fun k cI dq eW=>?_⟩,cE⟩;rcases Sl cI eW with c|c
      ·rw[show k=gr by omega];exact C8.Nt _
      ·omega
    case rest=>
     obtain⟨j,rfl,iY⟩:=hcut;have p8:=bc.o.later iY.o.2;have hl:j<ca.length:=by have:=iY.o.1.lt;have:=dn.o.1;omega
     have ti:=iY.o.1.lt;have l6:i≠j:=fun c=>by have ae:=iY.o.1.par;have aH:=iY.o.1.pos;unfold par at ae;omega
     have so:=SK b7 _ p8.q.q.cell;have xT:=p8.q.less dn.o.2 hl th;have tQ:=J xT;have mv:=J p8;clear xT p8 Ql;cases hb:kJ (iU ji ca j) (iU ji ca i)with
     |false=>
      rw[hb]at tQ;have yz:=J hb;clear hb;go_wp2_with(go_at_call 292;refine tQ.o.mono ?_;rintro e an ⟨rfl,aF⟩;have dF:=J aF;clear aF)
      go_ret;exact⟨⟨_,rfl⟩,ca,mv.o.q.later dF.o,mv.o.d.done C8 yz.o iY.o.1.min,mv.o.s5⟩
     |true=>
      rw[hb]at tQ;have yz:=J hb;clear hb;have Pt:Hid (∀an,Below _ _ an->_):=fun an aF=>(mv.o.later aF).q.swp dn.o.2 th hl l6
      go_wp2_with(first|(go_at_call 292;refine tQ.o.mono ?_;rintro e an ⟨rfl,aF⟩;have xU:=SL b7 an (mv.o.later aF).q.q.cell;have dF:=J aF;clear aF)|(go_at_call 295;refine(Pt.o an dF.o).mono ?_;rintro e bN ⟨rfl,XO⟩;have aeA:=J XO;clear XO))
      have br:i<j:=by have ae:=iY.o.1.par;have aH:=iY.o.1.pos;unfold par at ae;omega
      have cy:vJ kJ (iU ji (nL ca i j th hl)) n j:=by
       have a:=mv.o.d.step C8 iY.o.1.pos iY.o.1.lt iY.o.1.par yz.o iY.o.1.min;have e:=OH ji ca th hl;unfold nL;rw[e];exact a
      have B4:∀k,n<=k->iU ji (nL ca i j th hl) k=iU ji l k:=fun k hk=>by
       have e:=OH ji ca th hl;unfold nL;rw[e,<-mv.o.s5 k hk];unfold k1;rw[if_neg (by omega),if_neg (by omega)]
      exact⟨⟨j,nL ca i j th hl,by omega,rfl,⟨aeA.o,cy,B4⟩⟩,by simp only[intOf];omega⟩
theorem alo:(prog.info? 213).map (fun i=>(i.zero,i.size,i.bytes))=some (some (.agg #[I 0,I 0,I 0,I 0,I 0,I 0,I 0,.map none,I 0]),9,72):=by kernel_rfl
abbrev K4 (y:e4):Value:= .agg #[I y.x.1.rep,I y.x.1.seq,I y.x.1.saw.a,I y.x.1.saw.b,I y.x.1.saw.c,I y.x.1.saw.d,I y.x.1.saw.e,.map (some y.x.2),I y.dZ]
theorem VB (v:Value)(W:World):(Instr.typeAssert (.iface 213 v) 20 213 false).run prog W= .ok v W:=by kernel_rfl
def ae6 (w:World)(b7:Nat)(sv:Value)(l:List e4)(y:e4)(e:Ending)(w':World):Prop:=e= .returned (.tuple #[])∧∃acO,rn 0 w' b7 acO (l++[y])∧Touch (fun q=>q=b7∨sv.ownBlock=some q) w w'∧∀q,acO.ownBlock=some q->sv.ownBlock=some q∨w.heap.size<=q
theorem anN (w:World)(b7:Nat)(sv:Value)(l:List e4)(y:e4)(ad:rn 0 w b7 sv l)(aC:l.length<=100000000):
  Calls prog 294 #[bl b7,.iface 213 (K4 y)] w (ae6 w b7 sv l y):=by
 have RV:=VB;obtain⟨i0,aq,dC,dM,dK⟩:=iV alo;have cw:=J (⟨aq,dC,dM,dK⟩:_∧_∧_∧_);clear aq dC dM dK;obtain⟨⟨⟨r,gM,⟨a,b,c,d,e⟩,zE⟩,mb⟩,dZ⟩:=y;show Calls _ _ #[bl b7,.iface 213 (.agg #[I r,I gM,I a,I b,I c,I d,I e,.map (some mb),I dZ])] _ _
 have aA:=ad.cell;have Rt:=ad.U.lt;have bS:=ad.ne;obtain⟨cA,cap,rfl,gg,jJ,-⟩:=Row.shape (e3 ad.row ch);have bY:aQ (w.alloc (.cells #[I r,I gM,I a,I b,I c,I d,I e,.map (some mb),I dZ] 213)).drew w.heap.size [I r,I gM,I a,I b,I c,I d,I e,.map (some mb),I dZ] 213:=cC w _;have Dt:=J (A0 bY);have cD:Hid (∀w5,(w.alloc (.cells #[I r,I gM,I a,I b,I c,I d,I e,.map (some mb),I dZ] 213)).drew.grownBy w5 (Value.slice cA l.length cap).ownBlock->w5.cell? (aa b7 0)=some (.slice cA l.length cap)∧w5.frozen? (aa b7 0)=false∧b7<w5.heap.size∧aQ w5 b7 [.slice cA l.length cap] 208):=fun w5 g=>by
  have gS:w5.heap[b7]?=w.heap[b7]?:=(g.block b7 (by show b7<(w.alloc _).heap.size;simp;omega) (fun e=>bS e.symm)).trans (iW _ _ _ Rt);have ow:aQ w5 b7 [.slice cA l.length cap] 208:=ad.U.move gS;exact⟨ow.cell 0,ow.frozen _,ow.lt,ow⟩
 have aO:=J (⟨ad,aC⟩:_∧_);clear ad aC bY bS gg jJ;go_enter func294,ntmps294;go_upto_region 0 with(fail);go_region_law(refine q6 rfl _ _ 208 rfl 213 i0 (.agg #[I 0,I 0,I 0,I 0,I 0,I 0,I 0,.map none,I 0]) 9 72 underlying208 cw.o.1 cw.o.2.1 cw.o.2.2.1 cw.o.2.2.2 rfl (by decide) (.slice cA l.length cap) l.length (l.flatMap yk) (by simp[Act.eval]) (by exact h2 (e3 aO.o.1.row ch) _) (aa (w.heap.size) 0) 1 1 [I r,I gM,I a,I b,I c,I d,I e,.map (some mb),I dZ] (by simp[Act.eval]) rfl (by exact Dt.o) (by intro u hu;simp at hu;rcases hu with rfl|rfl|rfl|rfl|rfl|rfl|rfl|rfl|rfl<;>rfl) (by have:=aO.o.2;unfold maxLen;omega) (by have:=aO.o.2;omega) ?_;intro v5 w5 cB b_ dW;obtain⟨cI,dq,eW,fo⟩:=cD.o w5 b_;obtain⟨g5,t_,rfl,-,-,-,-,-⟩:=Row.pos cB (by omega);have rj:=J (⟨cB,b_,dW,fo⟩:_∧_∧_∧_);clear cB b_ dW fo)
 all_goals go_wp2_with fail
 all_goals
  go_end0;obtain⟨cB,b_,dW,fo⟩:=rj.o;obtain⟨ad,aC⟩:=aO.o;have anP:∀q,(bo g5 (l.length+1) t_).ownBlock=some q->(Value.slice cA l.length cap).ownBlock=some q∨w.heap.size<=q:=fun q iB=>by
   rcases dW with c|c
   ·rw[c]at iB;exact Or.inl iB
   ·rw[c]at iB;cases iB;exact Or.inr (by show w.heap.size<=(w.alloc _).heap.size;simp)
  have aD:Touch (fun q=>q=b7∨(Value.slice cA l.length cap).ownBlock=some q) w w5:=by
   have a0:Touch (fun q=>q=b7∨(Value.slice cA l.length cap).ownBlock=some q) w (w.alloc (.cells #[I r,I gM,I a,I b,I c,I d,I e,.map (some mb),I dZ] 213)).drew:=((Touch.refl _ _).alloc _).drew;exact a0.grown b_ fun k hk=>Or.inl (Or.inr hk)
  refine⟨rfl,bo g5 (l.length+1) t_,⟨fo.set 0 _,?_⟩,aD.setCell (Or.inl (Or.inl rfl)) _,anP⟩;have aj4:g5≠b7:=fun c=>NY fo cB (by decide) (by rw[c];rfl)
  have Cb:(l++[(⟨(⟨r,gM,⟨a,b,c,d,e⟩,zE⟩,mb),dZ⟩:e4)]).flatMap yk=l.flatMap yk++[I r,I gM,I a,I b,I c,I d,I e,.map (some mb),I dZ]:=by rw[r3];rfl
  show World.ownsRow _ _ _ _ _ (l++[_]).length _
  rw[Cb,eN];exact pL cB fun q iB=>rb _ _ _ _ fun c'=>aj4 (by simp[Value.ownBlock]at iB;rw[iB];exact c')
theorem aox {e:TypeId}{size:Nat}{xs:List Value}(h:w.ownsRow B e size (bo g n cap) n xs){m:Nat}(hm:m<=n):w.ownsRow B e size (bo g m cap) m (xs.take (m*size)):=by
 have hmul:m*size<=n*size:=Hy _ hm;refine⟨by rw[ng,h.1];exact Hx hmul,?_⟩;rcases h.2 with⟨a,-⟩|⟨oS,F0,cur,dI,aS,aM,h1,ae,aH,bd⟩
 ·cases a
 ·cases dI
  refine .inr ⟨g,cap,cur,rfl,aS,aM,by omega,ae,aH,?_⟩;rw[<-bd,take_take,Hx hmul]
def ae5 (B:Nat)(w:World)(b7 g cap:Nat)(l:List e4)(y:e4)(e:Ending)(w':World):Prop:=e= .returned (.iface 213 (K4 y))∧rn B w' b7 (bo g l.length cap) l∧Touch (fun q=>q=b7) w w'
theorem anM (B:Nat)(w:World)(b7 g cap n:Nat)(l:List e4)(ad:rn B w b7 (bo g l.length cap) l)(hn:l.length=n+1)(aC:l.length<=100000000)(gg:l.length<=cap):
  Calls prog 293 #[bl b7] w (ae5 B w b7 g cap (l.take n) (l[n]'(by omega))):=by
 have qc:n<l.length:=by omega
 have aA:=ad.cell;have bm:=ad.U.frozen 0;have Rt:=ad.U.lt;have Rr:g<w.heap.size:=(ad.row.lt g rfl).2;have bS:=ad.ne;have jU:=fun(m:Nat) (hm:m<9)=>zG ad.row qc hm
 generalize au:l[n]=x at*;obtain⟨⟨⟨r,gM,⟨a,b,c,d,e⟩,zE⟩,mb⟩,dZ⟩:=x;have c8:w.cell? (aa g (n*9))=some (I r):=jU 0 (by omega);have dr:w.cell? (aa g (n*9+1))=some (I gM):=jU 1 (by omega);have en:w.cell? (aa g (n*9+2))=some (I a):=jU 2 (by omega);have d_:w.cell? (aa g (n*9+3))=some (I b):=jU 3 (by omega);have ev:w.cell? (aa g (n*9+4))=some (I c):=jU 4 (by omega);have gv:w.cell? (aa g (n*9+5))=some (I d):=jU 5 (by omega);have nf:w.cell? (aa g (n*9+6))=some (I e):=jU 6 (by omega);have wZ:w.cell? (aa g (n*9+7))=some (.map (some mb)):=jU 7 (by omega);have w0:w.cell? (aa g (n*9+8))=some (I dZ):=jU 8 (by omega);have aO:=J (⟨ad,hn⟩:_∧_);rw[hn]at aA aC gg;clear ad jU au qc;have sq:((n:Nat):Int)+1-1=n:=by omega
 clear hn;go_enter func293,ntmps293;go_wp2_with fail
 go_ret;obtain⟨ad,hn⟩:=aO.o;have aP:(l.take n).length=n:=by rw[ng];omega
 have Rg:g≠b7:=fun c=>bS (by rw[c];rfl)
 have aJ:=aox (m:=n) ad.row (by omega);have IF:(l.take n).flatMap yk=(l.flatMap yk).take (n*9):=(IP yk 9 (fun _=>rfl) l n).symm;refine⟨rfl,⟨?_,?_⟩,((Touch.refl (fun q=>q=b7) w).setCell (p:=(aa b7 0)) (Or.inl rfl) _).alloc _⟩
 ·rw[aP];exact(ad.U.set 0 _).alloc _
 ·show World.ownsRow _ _ _ _ _ (l.take n).length _
  rw[aP,IF];exact pL aJ fun q iB=>by
   have ba:q=g:=by simp[Value.ownBlock]at iB;exact iB.symm
   subst ba;exact(iW _ _ _ (by simp[World.setCell];omega)).trans (rb _ _ _ _ Rg)
theorem anO (B:Nat)(w:World)(g cap:Nat)(l:List e4)(aJ:sZ B w (bo g l.length cap) l)(aC:l.length<=100000000)(aq:i<l.length):
  Calls prog 295 #[bo g l.length cap,I i,I i] w (bx (.tuple #[]) fun w'=>sZ B w' (bo g (nL l i i aq aq).length cap) (nL l i i aq aq)∧Touch (fun q=>q=g) w w'):=by
 have br:g<w.heap.size:=(aJ.lt g rfl).2;have jd:=N7 aJ aq l[i];have qd:=N7 jd (k:=i) (by simpa using aq) l[i];have aD:=((N8 w g (i*9) l[i]).trans ((N8 (CZ w g (i*9) l[i]) g (i*9) l[i]).mono fun q _ e=>Or.inl e)).drew;have uq:sZ B (CZ (CZ w g (i*9) l[i]) g (i*9) l[i]).drew (bo g (nL l i i aq aq).length cap) (nL l i i aq aq):=jZ qd (cE).drew;have jU:=fun(m:Nat) (hm:m<9)=>zG aJ aq hm
 have hW:=fun(m:Nat)=>adJ aJ m
 generalize au:l[i]=x at*;obtain⟨⟨⟨aqR,xs,aqS,Hs⟩,q_⟩,aqP⟩:=x;have c8:w.cell? (aa g (i*9))=some (I aqR):=jU 0 (by omega);have ah7:w.frozen? (aa g (i*9))=false:=hW _;have dr:w.cell? (aa g (i*9+1))=some (I xs):=jU 1 (by omega);have ah8:w.frozen? (aa g (i*9+1))=false:=hW _;have en:w.cell? (aa g (i*9+2))=some (I aqS.a):=jU 2 (by omega);have ah9:w.frozen? (aa g (i*9+2))=false:=hW _;have d_:w.cell? (aa g (i*9+3))=some (I aqS.b):=jU 3 (by omega);have ah_:w.frozen? (aa g (i*9+3))=false:=hW _;have ev:w.cell? (aa g (i*9+4))=some (I aqS.c):=jU 4 (by omega);have aia:w.frozen? (aa g (i*9+4))=false:=hW _;have gv:w.cell? (aa g (i*9+5))=some (I aqS.d):=jU 5 (by omega);have aib:w.frozen? (aa g (i*9+5))=false:=hW _;have nf:w.cell? (aa g (i*9+6))=some (I aqS.e):=jU 6 (by omega);have aic:w.frozen? (aa g (i*9+6))=false:=hW _;have wZ:w.cell? (aa g (i*9+7))=some (.map (some q_)):=jU 7 (by omega);have aid:w.frozen? (aa g (i*9+7))=false:=hW _;have w0:w.cell? (aa g (i*9+8))=some (I aqP):=jU 8 (by omega);have aie:w.frozen? (aa g (i*9+8))=false:=hW _;have dp:=J (⟨uq,aD⟩:_∧_);obtain⟨n,hn⟩:∃n,l.length=n:=⟨_,rfl⟩;rw[hn];have qS:i<n:=by omega
 have Cr:n<=100000000:=by omega
 clear jd qd uq aD jU hW au aJ hn;go_enter func295,ntmps295;go_upto_region 0 with(fail);go_region;obtain⟨uq,aD⟩:=dp.o;go_end0;exact⟨rfl,uq,aD⟩
theorem ot.apv (h:ot B w b7 g cap l ca wr)(aC:l.length<=100000000)(aq:i<ca.length)(af:j<ca.length):
  Calls prog 295 #[bo g l.length cap,I i,I j] wr (bx (.tuple #[]) fun w'=>ot B w b7 g cap l (nL ca i j aq af) w'):=by
 by_cases l6:i=j
 ·subst l6
  have a:=anO B wr g cap ca h.row (by rw[h.len];exact aC) aq;rw[h.len]at a;refine a.mono ?_;rintro e w' ⟨rfl,h1,ae⟩;exact⟨rfl,h.swap aq af h1 ae⟩
 ·exact h.swp aC aq af l6
def pq (w:World)(b7:Nat)(l:List e4)(X:Nat->Prop):Prop:=∃sv,rn 0 w b7 sv l∧X b7∧(∀q,sv.ownBlock=some q->X q)∧sU kJ (iU ji l) l.length
abbrev Vh (X:Nat->Prop)(w:World):Nat->Prop:=fun q=>X q∨w.heap.size<=q
def aey (w:World)(b7:Nat)(l:List e4)(y:e4)(X:Nat->Prop)(e:Ending)(w':World):Prop:=e= .returned (.tuple #[])∧∃ca,ca.Perm (l++[y])∧pq w' b7 ca (Vh X w)∧Touch X w w'
theorem aja (w:World)(b7:Nat)(l:List e4)(y:e4)(X:Nat->Prop)(ad:pq w b7 l X)(aC:l.length<=90000000):
  Calls prog 126 #[KB b7,.iface 213 (K4 y)] w (aey w b7 l y X):=by
 obtain⟨sv,ad,Jc,Jd,dQ⟩:=ad;have aw:=anN w b7 sv l y ad (by omega);have dp:=J aw;have wx:=ams b7 w;have aO:=J (⟨dQ,aC⟩:_∧_);have cm:=J (⟨Jc,Jd⟩:_∧_);clear aw ad dQ aC Jc Jd;obtain⟨zI,ZO⟩:∃zI,K4 y=zI:=⟨_,rfl⟩;rw[ZO]at dp⊢;clear ZO;go_enter func126,ntmps126;go_wp2_with(first|(go_at_call 294;refine dp.o.mono ?_;rintro e an ⟨rfl,atX,l9,h7,XI⟩;refine gE ?_))
 refine Lib.hid ?_;obtain⟨g,cap,rfl,gg,-⟩:=Row.pos (e3 l9.row ch) (by simp);have so:=aaI b7 an l9.cell;have gJ:(l++[y]).length=l.length+1:=by simp
 have JY:xv kJ (iU ji (l++[y])) (l++[y]).length l.length:=by
  rw[gJ];exact aO.o.1.grow fun k hk=>by simp[iU,w7 hk]
 have hu:=ajc 0 an b7 g cap (l++[y]) l9 (by have:=aO.o.2;omega) (j:=l.length) (by omega) JY;have HY:=J hu;have hn:=fun W=>Tl W (some (aa g 0)) (l++[y]).length cap
 have cp:=J hn;rw[gJ]at so cp;have lj:=aO.o.2;have H1:=J (⟨h7,XI⟩:_∧_);clear hu hn l9 h7 XI JY;go_wp2_with(first|(go_at_call 128;refine(cp.o _).mono ?_;rintro e w2 ⟨rfl,rfl⟩)|(go_at_call 172;refine HY.o.mono ?_;rintro e bN ⟨rfl,ca,xH,hH⟩;have fs:=J (⟨xH,hH⟩:_∧_);clear xH hH))
 go_end0;have aM:Vh X w g:=by
  rcases H1.o.2 g rfl with c|c
  ·exact Or.inl (cm.o.2 g c)
  ·exact Or.inr c
 have aD:=H1.o.1.mono (T:=X) fun q _ c=>by
  rcases c with c|c
  ·rw[c];exact cm.o.1
  ·exact cm.o.2 q c
 refine⟨rfl,ca,fs.o.1.perm,⟨_,fs.o.1.q,Or.inl cm.o.1,fun q ad=>?_,fs.o.2⟩,aD.trans (fs.o.1.e2.mono fun q _ c=>by rw[c];exact aM)⟩;have:q=g:=by simp[Value.ownBlock]at ad;exact ad.symm
 rw[this];exact aM
def aew (w:World)(b7:Nat)(l:List e4)(X:Nat->Prop)(e:Ending)(w':World):Prop:=∃y ca,e= .returned (.iface 213 (K4 y))∧(y::ca).Perm l∧(∀z,z∈l->kJ z y=false)∧pq w' b7 ca X∧Touch X w w'
theorem aql {z:e4}(h:z∈l):∃k,k<l.length∧iU ji l k=z:=by
 obtain⟨k,hk,rfl⟩:=fQ.1 h;exact⟨k,hk,Hm hk⟩
theorem ai_ (w:World)(b7:Nat)(l:List e4)(X:Nat->Prop)(ad:pq w b7 l X)(aC:l.length<=90000000)(Gv:0<l.length):
  Calls prog 129 #[KB b7] w (aew w b7 l X):=by
 obtain⟨sv,ad,Jc,Jd,dQ⟩:=ad;obtain⟨g,cap,rfl,gg,-⟩:=Row.pos (e3 ad.row ch) Gv;have XN:ot 0 w b7 g cap l l w:=⟨rfl,List.Perm.refl _,ad,Touch.refl _ _⟩;obtain⟨n,hn⟩:∃n,l.length=n+1:=⟨l.length-1,by omega⟩;have Qz:0<l.length:=Gv;have qc:n<l.length:=by omega
 have wx:=aaI b7 w ad.cell;have so:=SL b7 w ad.cell;have hlen:=fun W=>Tl W (some (aa g 0)) l.length cap
 have vo:=XN.apv (by omega) Qz qc;rw[show((0:Nat):Int)=0 from rfl]at vo;have aL:=J vo;have cp:=J hlen;have asV:n<=90000000:=by omega
 have aO:=J (⟨dQ,hn,gg⟩:_∧_∧_);have cm:=J (⟨Jc,Jd g rfl⟩:X b7∧X g);clear Jc Jd;rw[hn]at wx so cp aL;clear vo hlen ad XN aC dQ gg Gv hn;go_enter func129,ntmps129;go_wp2_with(first|(go_at_call 128;refine(cp.o _).mono ?_;rintro e w2 ⟨rfl,rfl⟩)|(go_at_call 295;refine aL.o.mono ?_;rintro e an ⟨rfl,Ax⟩;refine gE ?_))
 refine Lib.hid ?_;obtain⟨L,cT⟩:∃L,nL l 0 n Qz qc=L:=⟨_,rfl⟩;rw[cT]at Ax;have J0:iU ji L=k1 (iU ji l) 0 n:=by rw[<-cT];exact OH ji l Qz qc
 have XD:L.length=n+1:=Ax.len.trans aO.o.2.1;have l9:rn 0 an b7 (bo g L.length cap) L:=by have:=Ax.q;rw[<-Ax.len]at this;exact this
 have Ei:vJ kJ (iU ji L) n 0:=by
  have a:=aO.o.1;rw[aO.o.2.1]at a;exact a.pop fun k h1 ae=>by rw[J0];unfold k1;rw[if_neg (by omega),if_neg (by omega)]
 have Yj:=ai9 0 an b7 g cap L l9 (by omega) (n:=n) (by omega) Ei;have bn:=J Yj;have H1:=J (⟨Ax,J0,XD⟩:_∧_∧_);clear Yj l9 Ei Ax J0 cT;go_wp2_with(first|(go_at_call 173;refine bn.o.mono ?_;rintro e bN ⟨⟨b,rfl⟩,dY,B9,Mv,Mu⟩;refine gE ?_))
 refine Lib.hid ?_;have aiD:dY.length=n+1:=B9.len.trans XD;have jW:rn 0 bN b7 (bo g dY.length cap) dY:=by have:=B9.q;rw[<-B9.len]at this;exact this
 have Ru:=amr b7 bN;have xW:=anM 0 bN b7 g cap n dY jW aiD (by omega) (by have:=aO.o;omega);have Pm:=J xW;have bu:=J (⟨B9,Mv,Mu⟩:_∧_∧_);clear xW jW B9 Mv Mu;go_wp2_with(first|(go_at_call 293;refine Pm.o.mono ?_;rintro e cc ⟨rfl,jK,hX⟩;have cd:=J (⟨jK,hX⟩:_∧_);clear jK hX))
 go_ret;obtain⟨Ax,J0,-⟩:=H1.o;obtain⟨B9,Mv,Mu⟩:=bu.o;have Gx:n<dY.length:=by omega
 have ahH:dY[n]=iU ji l 0:=by
  have a:=Mu n cv;rw[Hm Gx,J0]at a;rw[a];unfold k1;rw[if_pos rfl]
 have al:(dY.take n).length=n:=by rw[ng];omega
 have qd:(dY[n]::dY.take n).Perm dY:=by
  have e:dY=dY.take n++[dY[n]]:=by
   have:=kr Gx;rw[<-this,lQ (by omega)]
  exact(perm_append_singleton _ _).symm.trans (by rw[<-e])
 have aD:Touch X w2 cc:=((Ax.e2.mono fun q _ c=>by rw[c];exact cm.o.2).then (B9.e2.mono fun q _ c=>by rw[c];exact cm.o.2)).then (cd.o.2.mono fun q _ c=>by rw[c];exact cm.o.1);have aiW:∀q,(bo g (dY.take n).length cap).ownBlock=some q->X q:=fun q ad=>by
  have e:q=g:=by simp[Value.ownBlock]at ad;exact ad.symm
  rw[e];exact cm.o.2
 refine⟨dY[n],dY.take n,rfl,qd.trans (B9.perm.trans Ax.perm),fun z cF=>?_,⟨_,cd.o.1,cm.o.1,aiW,?_⟩,aD⟩
 ·obtain⟨k,hk,rfl⟩:=aql cF
  rw[ahH];exact aO.o.1.min C8 k hk
 ·rw[al]
  exact Mv.cut cv fun k hk=>by simp[iU,hk]
def afc {α:Type}(S:List α->Prop)(ni:(Nat->Prop)->List α->World->Prop)(e:Ending)(dP:World):Prop:=(∃v,e= .returned v)∧∃xs,S xs∧ni (fun _=>False) xs dP
def Vr {α:Type}(n:Nat)(P:Program)(g:Nat)(lb:Array Value)(IH:α->Array Value)(L:List α)(S:List α->Prop)(w:World):Prop:=
 ∀(l:Nat) (ni:(Nat->Prop)->List α->World->Prop) (W:World),ax w W->
  (∀X Y pre bR W2,ni X pre bR->Touch X bR W2->(∀q,Y q->(X q∨bR.heap.size<=q)∧q<W2.heap.size)->ni Y pre W2)->
  (∀X pre x bR,ni X pre bR->x∈L->pre.length<L.length->YieldAt Fence.wide (n-1) P l (IH x) bR fun e dP=>e= .returned (.bool true)∧ni X (pre++[x]) dP∧bR.heap.size<=dP.heap.size∧∀q,X q->dP.heap[q]?=bR.heap[q]?)->
  ni (fun _=>False) [] W->CallsIn Fence.wide n P g (#[.func (.yield l) #[] #[]]++lb) W (afc S ni)
def j1 (bb:List (dt×Nat)):List e4:=zipWith (fun x v=>⟨x,v.count⟩) bb (oh (bb.map Prod.fst))
theorem tH (bb:List (dt×Nat)):(j1 bb).length=bb.length:=by
 unfold j1;rw[length_zipWith];have:(oh (bb.map Prod.fst)).length=bb.length:=by
  show(wM nC (bb.map Prod.fst)).length=_
  rw[CO,mO]
 omega
theorem aqO {bb:List (dt×Nat)}(hk:k<bb.length)(hn:k<(oh (bb.map Prod.fst)).length):(j1 bb).take (k+1)=(j1 bb).take k++[⟨bb[k],(oh (bb.map Prod.fst))[k].count⟩]:=by
 rw[kr (by rw[tH];exact hk)];simp[j1]
theorem pq.mono {X Y:Nat->Prop}(h:pq w b7 l X)(XZ:∀q,q<w.heap.size->X q->Y q):pq w b7 l Y:=by
 obtain⟨sv,h1,ae,aH,bd⟩:=h;exact⟨sv,h1,XZ _ h1.U.lt ae,fun q ad=>XZ q (h1.row.lt q ad).2 (aH q ad),bd⟩
theorem pq.move {X:Nat->Prop}(h:pq w b7 l X)(hm:∀q,X q->w'.heap[q]?=w.heap[q]?):pq w' b7 l X:=by
 obtain⟨sv,h1,ae,aH,bd⟩:=h;exact⟨sv,⟨h1.U.move (hm _ ae),pL h1.row fun q ad=>hm q (aH q ad)⟩,ae,aH,bd⟩
theorem pq.later {X:Nat->Prop}(h:pq w b7 l X)(hb:ax w w'):pq w' b7 l X:=by
 obtain⟨sv,h1,ae,aH,bd⟩:=h;exact⟨sv,h1.later hb,ae,aH,bd⟩
structure FK (W:World)(b7:Nat)(aN:Value)(bb:List (dt×Nat))(k:Nat)(wr:World):Prop where
 cZ:ax W wr
 Kh:wr.ownsRow W.heap.size 104 5 aN bb.length ((oh (bb.map Prod.fst)).flatMap aW.cells)
 q:∃l,l.Perm ((j1 bb).take k)∧pq wr b7 l fun q=>W.heap.size<=q∧aN.ownBlock≠some q
theorem FK.later {W:World}{aN:Value}{bb:List (dt×Nat)}(h:FK W b7 aN bb k wr)(hb:ax wr w'):FK W b7 aN bb k w':=by
 obtain⟨l,h1,ae⟩:=h.q;exact⟨h.cZ.trans (hb.mono h.cZ.size),jZ h.Kh hb,l,h1,ae.later hb⟩
def G5 (w:World)(b7:Nat):Nat:=match w.cell? (aa b7 0)with|some (.slice _ n _)=>n|_=>0
theorem pq.cell {X:Nat->Prop}(h:pq w b7 l X):∃a c,w.cell? (aa b7 0)=some (.slice a l.length c)∧b7<w.heap.size:=by
 obtain⟨sv,h1,-⟩:=h;obtain⟨a,c,rfl,-⟩:=Row.shape (e3 h1.row ch);exact⟨a,c,h1.cell,h1.U.lt⟩
theorem pq.G5 {X:Nat->Prop}(h:pq w b7 l X):G5 w b7=l.length:=by
 obtain⟨a,c,e,-⟩:=h.cell;unfold Go.Proofs.YtiplgdkpnhamaaaGreatDoor.G5;rw[e]
structure PH (ni:(Nat->Prop)->List e4->World->Prop)(X:Nat->Prop)(b7:Nat)(L pre rest:List e4)(Fa:World):Prop where
 perm:(pre++rest).Perm L
 acD:pre.Pairwise fun a b=>kJ b a=false
 e_:∀a,a∈pre->∀b,b∈rest->kJ b a=false
 q:pq Fa b7 rest X
 j:ni X pre Fa
 q_:∀q,X q->q<Fa.heap.size
theorem ahL (v0 v1 v2 v3 v4 v5 v6 adg ap9:Value)(W:World):(Instr.field 213 (.agg #[v0,v1,v2,v3,v4,v5,v6,adg,ap9]) 0).run prog W= .ok (.agg #[v0,v1,v2,v3,v4,v5,v6,adg]) W:=by kernel_rfl
theorem alq (n PF base:Nat)(bb:List (dt×Nat))(bz:Value)(w:World)(uj:eh w PF 0 bz)(Ev:w.ownsRow base 139 8 bz bb.length (bb.flatMap ia))(aC:bb.length<=50000000)(bm:∀x,x∈bb->x.1.rep<5∧0<=x.1.seq∧x.1.seq<=9223372036854775807)(n_:∀v,v∈oh (bb.map Prod.fst)->v.small):
  Vr n prog 124 #[bl PF] (fun y:e4=> #[.agg #[I y.x.1.rep,I y.x.1.seq,I y.x.1.saw.a,I y.x.1.saw.b,I y.x.1.saw.c,I y.x.1.saw.d,I y.x.1.saw.e,.map (some y.x.2)]]) (j1 bb) (fun xs=>xs.Perm (j1 bb)∧xs.Pairwise fun a b=>kJ b a=false) w:=by
 intro l ni W bY u_ ui aS;have aA:eh W PF 0 bz:=bZ bY uj;have bf:=jZ Ev bY;show CallsIn _ _ _ _ #[.func (.yield l) #[] #[],bl PF] W _
 refine callsIn_of_wp func124 rfl trivial ?_ rfl;simp only[ntmps124,Bn,lP,w3,Nat.reduceAdd,Nat.reduceSub,Array.replicate_succ,Array.replicate_zero,push_toArray,append_toArray,w1,yo];refine wpIn_wide.2 ?_;have vL:=J ui;have iY:=J (⟨u_,aS⟩:_∧_);have dn:=J (⟨bf,aC,bm,n_⟩:_∧_∧_∧_);clear ui u_ aS bf uj Ev bY aC bm n_;obtain⟨cA,cap,rfl,-⟩:=Row.shape (e3 dn.o.1 ch);generalize fg:(W.alloc (.cells #[] 213)).alloc (.cells #[bo (W.heap.size) 0 0] 208)=W2;have bP:ax W W2:=by rw[<-fg];exact((cj _ _)).alloc (by simp) _
 have jW:pq W2 (W.heap.size+1) [] fun q=>W.heap.size<=q:=by
  refine⟨bo (W.heap.size) 0 0,⟨?_,rfl,.inr ⟨W.heap.size,0,#[],rfl,ch,?_,cv,ch,rfl,rfl⟩⟩,pU _,fun q ad=>?_,fun k h1 ae=>by simp at ae⟩
  ·rw[<-fg,show W.heap.size+1=(W.alloc (.cells #[] 213)).heap.size by simp];exact cC _ _
  ·rw[<-fg];exact(iW _ _ _ (by simp)).trans (cC W _)
  ·have e:q=W.heap.size:=by simp[Value.ownBlock]at ad;exact ad.symm
   omega
 have sh:=bZ bP aA;have ho:=aa2 W2 base bb (.slice cA bb.length cap) (jZ dn.o.1 bP) dn.o.2.1 dn.o.2.2.1;have cp:=J ho;have bu:=J (⟨bP,jW⟩:_∧_);have pZ:=J fg;obtain⟨b7,RG⟩:∃b7,W.heap.size+1=b7:=⟨_,rfl⟩;have aeD:=J RG;have dj:=J aA;clear ho bP jW aA fg;go_upto_region 1 with(fail);rw[pZ.o];try simp only[RG]
 clear RG;go_wp2_with(go_at_call 125;refine cp.o.mono ?_;rintro e bN ⟨aN,rfl,su,b0⟩;obtain⟨xx,Ah,rfl,-⟩:=Row.shape (e3 su ch);have ck:=J (⟨su,b0⟩:_∧_);have yY:=bZ b0 sh;clear su b0 sh)
 have U3:Hid (FK W b7 (.slice xx bb.length Ah) bb 0 bN):=by
  refine⟨bu.o.1.trans (ck.o.2.mono bu.o.1.size),e3 ck.o.1 bu.o.1.size,[],by simp,?_⟩;have a:=bu.o.2;rw[aeD.o]at a;refine(a.mono fun q ad gd=>?_).later ck.o.2;refine⟨gd,fun e=>?_⟩;have:=(ck.o.1.lt q e).1;omega
 have kC:=dn.o.2.1;clear bu cp pZ ck yY;go_loopw[11] (fun kc wr=>∃k:Nat,k<=bb.length∧kc=I k∧Hid (FK W b7 (.slice xx bb.length Ah) bb k wr)) (fun kc _=>bb.length-(intOf kc).toNat)
 case atStart=>exact⟨0,ch,rfl,U3⟩
 case round=>
  obtain⟨k,hk,rfl,dp⟩:=hrel;by_cases dU:k<bb.length
  ·have qc:k<(oh (bb.map Prod.fst)).length:=by
    show k<(wM nC (bb.map Prod.fst)).length
    rw[CO,mO];exact dU
   have Gl:=dp.o.cZ;have vn:=jZ dn.o.1 Gl;obtain⟨IQ,arA,kW,-,-,fW,fh,-⟩:=Row.pos (e3 dp.o.Kh ch) (by omega);obtain⟨hD,ary,sA,-,-,qP,Cc,-⟩:=Row.pos (e3 vn ch) (by omega);cases kW;cases sA;have Q2:=bZ Gl dj.o;have lj:=hU wr _ Q2;have b4:=fun(j:Nat) (af:j<5)=>(fh (k*5+j) (by omega)).trans (hC aW.cells 5 (fun _=>rfl) _ k j qc af)
   have DR:=fun(j:Nat) (af:j<8)=>(Cc (k*8+j) (by omega)).trans (hC ia 8 (fun _=>rfl) _ k j dU af)
   have GH:=dn.o.2.2.2 _ (eT qc);have rK:=aqO dU qc;obtain⟨v,av⟩:∃v,(oh (bb.map Prod.fst))[k]=v:=⟨_,rfl⟩;obtain⟨x,au⟩:∃x,bb[k]=x:=⟨_,rfl⟩;rw[av]at b4 GH rK;rw[au]at DR rK;obtain⟨⟨r,gM,⟨cY,s1,s2,fX,hI⟩,zE⟩,mb⟩:=x;have v0:wr.cell? (aa IQ (k*5))=some (I v.a):=b4 0 (by omega);have v1:wr.cell? (aa IQ (k*5+1))=some (I v.b):=b4 1 (by omega);have v2:wr.cell? (aa IQ (k*5+2))=some (I v.c):=b4 2 (by omega);have v3:wr.cell? (aa IQ (k*5+3))=some (I v.d):=b4 3 (by omega);have v4:wr.cell? (aa IQ (k*5+4))=some (I v.e):=b4 4 (by omega);generalize j9:wr.alloc (.cells #[I v.a,I v.b,I v.c,I v.d,I v.e] 104)=dv;have dT:ax wr dv:=by rw[<-j9];exact cj _ _
   have gm:aQ dv wr.heap.size v.cells 104:=by rw[<-j9];exact cC wr _
   have ad6:=J DR;have ad5:=J Q2;have dL:=J (⟨dT,gm,rK,GH⟩:_∧_∧_∧_);have Px:=J j9;clear b4 DR fh Cc Q2 vn Gl dT gm av au rK GH j9;go_upto_region 4 with(fail);rw[Px.o];obtain⟨dT,gm,rK,GH⟩:=dL.o;have AD:=ad6.o;have dm:=aR.cell (bZ dT ad5.o);have c8:=aR.cell (bZ dT (show wr.cell? (aa hD (k*8))=some (I r)from AD 0 (by omega)));have dr:=aR.cell (bZ dT (show wr.cell? (aa hD (k*8+1))=some (I gM)from AD 1 (by omega)));have en:=aR.cell (bZ dT (show wr.cell? (aa hD (k*8+2))=some (I cY)from AD 2 (by omega)));have d_:=aR.cell (bZ dT (show wr.cell? (aa hD (k*8+3))=some (I s1)from AD 3 (by omega)));have ev:=aR.cell (bZ dT (show wr.cell? (aa hD (k*8+4))=some (I s2)from AD 4 (by omega)));have gv:=aR.cell (bZ dT (show wr.cell? (aa hD (k*8+5))=some (I fX)from AD 5 (by omega)));have nf:=aR.cell (bZ dT (show wr.cell? (aa hD (k*8+6))=some (I hI)from AD 6 (by omega)));have wZ:=aR.cell (bZ dT (show wr.cell? (aa hD (k*8+7))=some (.map (some mb))from AD 7 (by omega)));have z0:=aR.cell (show dv.cell? (aa (wr.heap.size) 0)=some (I v.a)from gm.cell 0);have h0:=aR.cell (show dv.cell? (aa (wr.heap.size) 1)=some (I v.b)from gm.cell 1);have z2:=aR.cell (show dv.cell? (aa (wr.heap.size) 2)=some (I v.c)from gm.cell 2);have z3:=aR.cell (show dv.cell? (aa (wr.heap.size) 3)=some (I v.d)from gm.cell 3);have z4:=aR.cell (show dv.cell? (aa (wr.heap.size) 4)=some (I v.e)from gm.cell 4);have Eg:∀f:dO (aR dv),Calls prog 127 #[v.val] f.w fun e fv=>e= .returned (I v.count)∧∃g:dO (aR dv),fv=g.w:=fun f=>aR.call f (Qa f.w v GH)
   have ad4:=J Eg;have aev:Hid (∀jT,ax dv jT->Calls prog 126 #[KB b7,.iface 213 (.agg #[I r,I gM,I cY,I s1,I s2,I fX,I hI,.map (some mb),I v.count])] jT (bx (.tuple #[]) fun w'=>Hid (FK W b7 (bo IQ bb.length Ah) bb (k+1) w'))):=fun jT gb=>by
    have Aw:=(dp.o.later dT).later gb;obtain⟨zi,Zf,akn⟩:=Aw.q;have Rp:zi.length<=50000000:=by
     have:=Zf.length_eq;rw[ng,tH]at this;omega
    refine(aja jT b7 zi ⟨(⟨r,gM,⟨cY,s1,s2,fX,hI⟩,zE⟩,mb),v.count⟩ _ akn (by omega)).mono ?_;rintro e kI ⟨rfl,x3,aki,y7,Gg⟩;have akv:W.heap.size<=jT.heap.size:=Aw.cZ.size;refine⟨rfl,⟨⟨Gg.os.trans Aw.cZ.os,Gg.tape.trans Aw.cZ.tape,Gg.output.trans Aw.cZ.output,fx akv Gg.size,fun q ad=>(Gg.block q (by omega) (fun c=>by omega)).trans (Aw.cZ.block q ad)⟩,pL Aw.Kh fun q ad=>Gg.block q (Aw.Kh.lt q ad).2 fun c=>c.2 ad,x3,?_,y7.mono fun q _ c=>?_⟩⟩
    ·rw[rK]
     exact aki.trans (List.Perm.append_right _ Zf)
    ·rcases c with c|c
     ·exact c
     ·exact⟨by omega,fun e=>by have:=(Aw.Kh.lt q e).2;omega⟩
   clear Eg AD dT gm rK GH;refine kd (aR dv) 10 (by kernel_rfl) (by kernel_rfl) (cE).drew ?_;simp only[jC,ju,j4,jR];repeat(go_big_quiet_step (first|(go_at_call 127;exact ad4.o _)))
   refine gG ?_;intro _ ds;obtain⟨fq,rfl⟩:=ds;obtain⟨jT,gb⟩:=fq;try dsimp only
   have Ft:=J gb;clear dm c8 dr en d_ ev gv nf wZ z0 h0 z2 z3 z4 gb;go_wp2_with(go_at_call 126;refine(aev.o jT Ft.o).mono ?_;rintro e kI ⟨rfl,aiP⟩)
   exact⟨⟨k+1,by omega,by simp,aiP⟩,by simp only[intOf];omega⟩
  ·have mG:k=bb.length:=by omega
   subst mG;go_wp2_with fail
   obtain⟨pF,pE,RF⟩:=dp.o.q;have Gl:=dp.o.cZ;have aL:Hid (PH ni (fun q=>W.heap.size<=q∧q<wr.heap.size) b7 (j1 bb) [] pF wr):=by
    refine⟨?_,by simp,by simp,RF.mono fun q ad gd=>⟨gd.1,ad⟩,?_,fun q gd=>gd.2⟩
    ·rw[lQ (by rw[tH];exact cv)]at pE
     simpa using pE
    ·exact iY.o.1 (fun _=>False) _ [] W wr iY.o.2 (Touch.dh Gl) fun q gd=>⟨Or.inr gd.1,gd.2⟩
   generalize (fun q=>W.heap.size<=q∧q<wr.heap.size)=X at aL;clear pE RF Gl U3 dp;go_loopw[] (fun Fa=>∃pre rest,Hid (PH ni X b7 (j1 bb) pre rest Fa)) (fun Fa=>G5 Fa b7)
   case atStart=>exact⟨[],pF,aL⟩
   case round=>
    obtain⟨pre,rest,bc⟩:=hrel;obtain⟨a,c,eb,br⟩:=bc.o.q.cell;have ij:=fun W=>Tl W a rest.length c
    have xi:=J ij;clear ij;by_cases ur:rest.length=0
    ·rw[ur]at eb xi
     go_wp2_with(go_at_call 128;refine(xi.o _).mono ?_;rintro e w2 ⟨rfl,rfl⟩)
     go_end0;have aJ:rest=[]:=Hv.1 ur;have h1:=bc.o;rw[aJ]at h1;refine⟨⟨_,rfl⟩,pre,⟨by simpa using h1.perm,h1.acD⟩,iY.o.1 X _ pre _ _ h1.j (Touch.refl _ _) fun q gd=>gd.elim⟩
    ·have o0:(0:Int)<(rest.length:Nat):=by omega
     go_upto_region 7 with(go_at_call 128;refine(xi.o _).mono ?_;rintro e w2 ⟨rfl,rfl⟩);have hF:rest.length<=50000000:=by
      have:=bc.o.perm.length_eq;rw[eN,tH]at this;omega
     have Zh:=ai_ w2 b7 rest X bc.o.q (by omega) (by omega);have aet:=J Zh;have RV:=VB;have asp:=ahL;clear Zh eb br;go_cut[40] (fun bv wc=>bv= .bool false∧∃Td C1,Hid (PH ni X b7 (j1 bb) Td C1 wc∧C1.length<rest.length))
     case first=>
      refine(wpIn_wide (n:=n)).1 ?_;gi_wp2
      refine⟨trivial,fun h=>by simp[Fence.wide]at h,(callsIn_wide.2 aet.o).mono ?_⟩;rintro e bN ⟨y,C1,rfl,xW,kV,M8,aD⟩;have zc:y∈j1 bb:=bc.o.perm.mem_iff.1 (mem_append_right _ (xW.mem_iff.1 (by simp)));have I8:ni X pre bN:=iY.o.1 X X pre w2 bN bc.o.j aD fun q gd=>⟨Or.inl gd,hV (bc.o.q_ q gd) aD.size⟩
      obtain⟨fn,tmps,assign,body,b9,bI⟩:=vL.o X pre y bN I8 zc (by
       have:=bc.o.perm.length_eq;rw[eN]at this;omega)
      have FA:=J bI;have Pm:=J (⟨xW,kV,M8,aD⟩:_∧_∧_∧_);clear bI xW kV M8 aD I8 zc;gi_wp2
      refine⟨fun h=>by simp[Fence.wide]at h,FA.o.mono ?_⟩;rintro e ie ⟨rfl,Gd,fb,Mz⟩;have cd:=J (⟨Gd,fb,Mz⟩:_∧_∧_);clear Gd fb Mz b9;gi_wp2
      go_meet;obtain⟨Gd,fb,Mz⟩:=cd.o;obtain⟨xW,kV,M8,aD⟩:=Pm.o;refine⟨rfl,pre++[y],C1,⟨?_,?_,?_,M8.move Mz,Gd,fun q gd=>?_⟩,?_⟩
      ·have e:pre++[y]++C1=pre++(y::C1):=by simp
       rw[e];exact(List.Perm.append_left pre xW).trans bc.o.perm
      ·rw[pairwise_append]
       refine⟨bc.o.acD,by simp,fun a aU b hb=>?_⟩;rw[k4]at hb;subst hb;exact bc.o.e_ a aU b (xW.mem_iff.1 (by simp))
      ·intro a aU b hb
       have D_:b∈rest:=xW.mem_iff.1 (Da _ hb);rw[hT,k4]at aU;rcases aU with aU|rfl
       ·exact bc.o.e_ a aU b D_
       ·exact kV b D_
      ·exact hV (hV (bc.o.q_ q gd) aD.size) fb
      ·have:=xW.length_eq
       simp at this;omega
     case rest=>
      obtain⟨rfl,Td,C1,Pn⟩:=hcut;go_wp2_with fail
      exact⟨⟨Td,C1,Pn.o.1⟩,by rw[Pn.o.1.q.G5,bc.o.q.G5];exact Pn.o.2⟩
theorem OB {X:Nat->Prop}(W:World){l:Nat}(o:Obj)(h:X l):Touch X W (W.putObj l o):=
 ⟨rfl,rfl,rfl,by simp,fun q _ hn=>World.putObj_heap_other fun e=>hn (by rw[e];exact h)⟩
theorem anT {α:Type}{P:Program}{gf:Nat}{lb:Array Value}{IH:α->Array Value}{L:List α}{S:List α->Prop}{cr:World}{g:Operand}{ps:Array Tmp}{assign body:Code}{Q:Exit->Act->World->Prop}{a:Act}
  (h1:1<=n)(aM:a.eval g= .func (.func gf) #[] lb)(v7:∀args w,(callFunc gf args).run P w= .ok (.enter gf args) w)(wF:Vr (n-1) P gf lb IH L S cr)(iQ:ax cr w)(akl:∀x,(IH x).size=ps.size)
  (mQ:(Nat->Prop)->List α->World->Prop)(ez:∀X Y pre bR W2,mQ X pre bR->Touch X bR W2->(∀q,Y q->(X q∨bR.heap.size<=q)∧q<W2.heap.size)->mQ Y pre W2)(QM:∀X pre W,mQ X pre W->∀q,X q->q<W.heap.size)(aS:mQ (fun _=>False) [] w)
  (La:α->Act->World->(Nat->Prop)->Prop)(hAx:∀x cf W X l r o,La x cf W X->W.heap[l]?=some (.loop r)->La x cf (W.putObj l o) X)
  (aiZ:∀(l:Nat) (X:Nat->Prop) (pre:List α) (x:α) (W:World) (K:Act->World->Prop),x∈L->pre.length<L.length->mQ X pre W->(∀cf dP p1,mQ p1 pre dP->(∀q,X q->p1 q)->Touch (fun _=>False) W dP->La x cf dP p1->K cf dP)->assign.wpIn (Fence.wide.inRound l) (n-1-1) P (Exit.then K fun _ _ _=>False) {tmps:=(ps.zip (IH x)).foldl (fun t (p,v)=>t.setIfInBounds p v) a.tmps,defers:=[]} W)
  (ai4:∀(l:Nat) (X:Nat->Prop) (pre:List α) (x:α) (cf:Act) (W:World),x∈L->pre.length<L.length->mQ X pre W->La x cf W X->body.wpIn (Fence.wide.inRound l) (n-1-1) P (fun e _ dP=>e= .normal∧mQ X (pre++[x]) dP∧W.heap.size<=dP.heap.size∧∀q,X q->dP.heap[q]?=W.heap[q]?) cf W)
  (Q6:∀(D:Nat) (xs:List α) (W:World),w.heap.size<=D->S xs->mQ (fun q=>q=D) xs W->W.heap[D]?=some (.deferred (some []))->Q .normal {a with defers:={target:= .collected D,args:= #[]}::a.defers} W):
  (Code.rangeFunc g ps assign body).wpIn Fence.wide n P Q a w:=by
 refine wpIn_rangeFunc fun fn Ej=>?_
 let rc:LoopState->Loop:=fun st=>{state:=st,pending:=none,fn,tmps:=a.tmps,params:=ps,assign,body,defers:=w.heap.size}
 obtain⟨bR,dE⟩:∃bR,(w.alloc (.deferred (some []))).alloc (.loop (rc .ready))=bR:=⟨_,rfl⟩;have jX:bR.heap.size=w.heap.size+2:=by rw[<-dE];simp
 have h7:Touch (fun _=>False) w bR:=by rw[<-dE];exact((Touch.refl _ _).alloc _).alloc _
 have gJ:bR.heap[w.heap.size+1]?=some (.loop (rc .ready)):=by
  have:=World.alloc_heap_new (w.alloc (.deferred (some []))) (.loop (rc .ready));rw[World.size_alloc]at this;rw[<-dE];exact this
 have Eh:bR.heap[w.heap.size]?=some (.deferred (some [])):=by
  rw[<-dE];exact(iW _ _ _ (by simp)).trans (World.alloc_heap_new w _)
 let Ii:(Nat->Prop)->Nat->Prop:=fun X q=>X q∨q=w.heap.size∨q=w.heap.size+1
 let ni:(Nat->Prop)->List α->World->Prop:=fun X pre W=>mQ (Ii X) pre W∧W.heap[w.heap.size+1]?=some (.loop (rc .ready))∧W.heap[w.heap.size]?=some (.deferred (some []))∧¬X w.heap.size∧¬X (w.heap.size+1)
 have br:∀{W:World} {q:Nat} {o:Obj},W.heap[q]?=some o->q<W.heap.size:=fun h=>(w6.1 h).1
 have u_:∀X Y pre A B,ni X pre A->Touch X A B->(∀q,Y q->(X q∨A.heap.size<=q)∧q<B.heap.size)->ni Y pre B:=fun X Y pre A B u_ aD ui=>by
  obtain⟨gr,gK,x1,zg,EG⟩:=u_;have dY:=br gK;have ln:=br x1;have fb:=aD.size;refine⟨ez (Ii X) (Ii Y) pre A B gr (aD.mono fun q _ h=>Or.inl h) fun q ad=>?_,(aD.block _ dY EG).trans gK,(aD.block _ ln zg).trans x1,fun c=>?_,fun c=>?_⟩
  ·rcases ad with ad|rfl|rfl
   ·obtain⟨c,d⟩:=ui q ad
    exact⟨c.imp Or.inl id,d⟩
   ·exact⟨Or.inl (Or.inr (Or.inl rfl)),by omega⟩
   ·exact⟨Or.inl (Or.inr (Or.inr rfl)),by omega⟩
  ·rcases(ui _ c).1 with d|d
   ·exact zg d
   ·omega
  ·rcases(ui _ c).1 with d|d
   ·exact EG d
   ·omega
 have eA:ax cr bR:=by
  rw[<-dE];exact iQ.trans ((((Hz _ w).alloc cv _).alloc (by simp) _).mono iQ.size)
 have aiN:ni (fun _=>False) [] bR:=⟨ez _ _ [] w bR aS h7 (fun q ad=>by
  rcases ad with ad|rfl|rfl
  ·exact ad.elim
  ·exact⟨Or.inr cv,by omega⟩
  ·exact⟨Or.inr (pU _),by omega⟩),gJ,Eh,id,id⟩
 refine⟨w.heap.size+1,[{target:= .collected w.heap.size,args:= #[]}],bR,{target:= .fn (.func gf) lb,args:= #[.func (.yield (w.heap.size+1)) #[] #[]]},bR,gf,#[.func (.yield (w.heap.size+1)) #[] #[]]++lb,bR,?_,?_,fun _ _=>trivial,?_,fun _=>h1,?_⟩
 ·rw[<-dE];exact run_enterLoop_outer _ _ _ _ _
 ·simp only[resolve,aM]
  simp[go_sem]
 ·simp[invoke,go_sem,v7]
 refine(wF (w.heap.size+1) ni bR eA u_ (fun X pre x A eK au hlen=>?_) aiN).mono ?_
 ·obtain⟨gr,gK,x1,zg,EG⟩:=eK
  refine⟨fn,_,assign,body,run_yield gK (akl x),roundIn_of_wpIn Ej (aiZ _ (Ii X) pre x A _ au hlen gr fun cf Vt p1 XA l_ Jb ai0=>?_)⟩;have pG:=(Jb.block _ (br gK) id).trans gK;have agZ:=(Jb.block _ (br x1) id).trans x1;have OU:p1 (w.heap.size+1):=l_ _ (Or.inr (Or.inr rfl));have OT:p1 w.heap.size:=l_ _ (Or.inr (Or.inl rfl));refine⟨_,run_beginRound pG rfl,?_⟩;have eO:=OB (X:=p1) Vt (.loop {rc .ready with state:= .busy}) OU;have B6:=ez p1 p1 pre Vt _ XA eO fun q ad=>⟨Or.inl ad,by rw[World.putObj_size];exact QM _ _ _ XA q ad⟩
  have Ka:(Vt.putObj (w.heap.size+1) (.loop {rc .ready with state:= .busy})).heap[w.heap.size+1]?=some (.loop {rc .ready with state:= .busy}):=World.putObj_heap_same (br pG);refine wpIn_mono (ai4 _ p1 pre x cf _ au hlen B6 (hAx _ _ _ _ _ _ _ ai0 pG)) ?_;rintro e a3 dv ⟨rfl,Mw,Zs,Cp⟩;have CM:=(Cp _ OU).trans Ka;refine⟨_,_,run_endRound none CM,rfl,⟨ez p1 (Ii X) _ dv _ Mw (OB dv _ OU) fun q ad=>⟨Or.inl (l_ q ad),by rw[World.putObj_size];exact QM _ _ _ Mw q (l_ q ad)⟩,World.putObj_heap_same (br CM),?_,zg,EG⟩,?_,fun q ad=>?_⟩
  ·rw[World.putObj_heap_other (by omega),Cp _ OT,World.putObj_heap_other (by omega)];exact agZ
  ·rw[World.putObj_size];rw[World.putObj_size]at Zs;exact fx Jb.size Zs
  ·have n3:q≠w.heap.size+1:=fun e=>EG (by rw[<-e];exact ad)
   rw[World.putObj_heap_other n3,Cp q (l_ q (Or.inl ad)),World.putObj_heap_other n3];exact Jb.block q (QM _ _ _ gr q (Or.inl ad)) id
 ·rintro e W2 ⟨⟨v,rfl⟩,xs,dJ,gr,gK,x1,-,-⟩
  refine⟨none,_,run_endLoop gK (by simp[rc]),Q6 w.heap.size xs _ cv dJ (ez _ _ xs W2 _ gr (OB W2 _ (Or.inr (Or.inr rfl))) fun q ad=>?_) ((World.putObj_heap_other (by omega)).trans x1)⟩;subst ad;exact⟨Or.inl (Or.inr (Or.inl rfl)),by rw[World.putObj_size];exact br x1⟩
theorem alp (w:World)(cA:Option Addr)(m c:Nat):Calls prog 81 #[.slice cA m c] w (bx (.func (.func 124) #[] #[bl w.heap.size]) fun w'=>w'=w.alloc (.cells #[.slice cA m c] 106)):=by
 have Rw:∀(fn:Fn) (first cap:Array Value) (w:World),(Instr.makeFunc fn first cap).run prog w= .ok (.func fn first cap) w:=fun _ _ _ _=>rfl
 go_enter func81,ntmps81;go_wp2_with fail
 go_ret;exact⟨rfl,rfl⟩
theorem aoM (w:World)(yx cP:Nat)(n:Nat)(eQ:Nat->Bool)(hn:n<=100000000)(bm:∀W i,ax w W->i<n->Calls prog 168 #[I i,bl yx,bl cP] W (bx (.bool (eQ i)) fun w'=>ax W w'))(k:Nat)(hk:k<=n)(nY:∀i,i<k->eQ i=false)(Ck:∀i,k<=i->i<n->eQ i=true):
  Calls prog 167 #[I n,.func (.func 168) #[] #[bl yx,bl cP]] w (bx (I k) fun w'=>ax w w'):=by
 have cz:=J bm;have cD:=J (⟨hk,nY,Ck⟩:_∧_∧_);clear bm hk nY Ck;go_enter func167,ntmps167;go_wp2;go_loopw[5,6] (fun bz av wr=>∃e_ aq:Nat,e_<=aq∧aq<=n∧bz=I e_∧av=I aq∧Hid (e_<=k∧k<=aq∧ax w wr)) (fun bz av _=>(intOf av).toNat-(intOf bz).toNat)
 case atStart=>exact⟨0,n,ch,cv,rfl,rfl,ch,cD.o.1,cE⟩
 case round=>
  obtain⟨e_,aq,asN,ajE,rfl,rfl,bc⟩:=hrel;by_cases br:e_<aq
  ·obtain⟨m,hm⟩:∃m,(e_+aq)/2=m:=⟨_,rfl⟩
   have so:e_<=m:=by omega
   have xU:m<aq:=by omega
   go_upto_region 3 with(fail);go_cut[7] (fun aK wc=>aK=I m∧wc=wr)
   case first=>
    go_wp2_with fail
    go_meet;exact⟨congrArg _ (by omega),rfl⟩
   case rest=>
    obtain⟨rfl,rfl⟩:=hcut;have aA:=cz.o wc m bc.o.2.2 (by omega);cases aw:eQ m with
    |false=>
     rw[aw]at aA;have dj:=J aA;have dp:=J aw;clear aA aw hm;go_wp2_with(go_at_call 168;refine dj.o.mono ?_;rintro e an ⟨rfl,aF⟩;have dF:=J aF;clear aF)
     refine⟨⟨m+1,aq,by omega,ajE,by simp,rfl,?_,bc.o.2.1,bc.o.2.2.trans (dF.o.mono bc.o.2.2.size)⟩,by simp only[intOf];omega⟩;by_cases c:m+1<=k
     ·exact c
     ·have:=cD.o.2.2 m (by omega) (by omega);rw[dp.o]at this;cases this
    |true=>
     rw[aw]at aA;have dj:=J aA;have dp:=J aw;clear aA aw hm;go_wp2_with(go_at_call 168;refine dj.o.mono ?_;rintro e an ⟨rfl,aF⟩;have dF:=J aF;clear aF)
     refine⟨⟨e_,m,so,by omega,rfl,rfl,bc.o.1,?_,bc.o.2.2.trans (dF.o.mono bc.o.2.2.size)⟩,by simp only[intOf];omega⟩;by_cases c:k<=m
     ·exact c
     ·have:=cD.o.2.1 m (by omega);rw[dp.o]at this;cases this
  ·have he:e_=k:=by have:=bc.o.1;have:=bc.o.2.1;omega
   subst he;go_wp2_with fail
   go_ret;exact⟨rfl,bc.o.2.2⟩
theorem agV (w:World)(yx cP base:Nat)(v:aW)(bb:List (dt×Nat))(bz:Value)(bv:aQ w yx v.cells 104)(uT:aQ w cP [bz] 106)(bf:w.ownsRow base 139 8 bz bb.length (bb.flatMap ia))(aC:bb.length<=100000000)(i:Nat)(aq:i<bb.length)(cS:bb[i].1.rep<5):
  Calls prog 168 #[I i,bl yx,bl cP] w (bx (.bool (!v.gI bb[i].1.dot)) fun w'=>ax w w'):=by
 obtain⟨g,cap,rfl,-,-,aM,aA,-⟩:=Row.pos (e3 bf ch) (by omega);have DR:=fun(j:Nat) (af:j<8)=>(aA (i*8+j) (by omega)).trans (hC ia 8 (fun _=>rfl) _ i j aq af)
 have dm:=aR.cell (show w.cell? (aa g (i*8))=some (I bb[i].1.rep)from DR 0 (by omega));have dz:=aR.cell (show w.cell? (aa g (i*8+1))=some (I bb[i].1.seq)from DR 1 (by omega));have z0:=aR.cell (show w.cell? (aa yx 0)=some (I v.a)from bv.cell 0);have h0:=aR.cell (show w.cell? (aa yx 1)=some (I v.b)from bv.cell 1);have z2:=aR.cell (show w.cell? (aa yx 2)=some (I v.c)from bv.cell 2);have z3:=aR.cell (show w.cell? (aa yx 3)=some (I v.d)from bv.cell 3);have z4:=aR.cell (show w.cell? (aa yx 4)=some (I v.e)from bv.cell 4);have pF:=aR.cell (show w.cell? (aa cP 0)=some (bo g bb.length cap)from uT.cell 0);have oU:∀f:dO (aR w),Calls prog 169 #[v.val,.agg #[I bb[i].1.rep,I bb[i].1.seq]] f.w fun e fv=>e= .returned (.bool (v.gI bb[i].1.dot))∧∃g:dO (aR w),fv=g.w:=fun f=>aR.call f (Mb f.w v bb[i].1.dot (by show(0:Int)<=(bb[i].1.rep:Nat);omega) (by show((bb[i].1.rep:Nat):Int)<5;omega))
 generalize v.gI bb[i].1.dot=b4 at*;generalize bb[i].1.rep=r at*;generalize bb[i].1.seq=s at*;have pn:=J oU;obtain⟨n,hn⟩:∃n,bb.length=n:=⟨_,rfl⟩;rw[hn]at pF;have qS:i<n:=by omega
 have Cr:n<=100000000:=by omega
 clear oU DR aA bv uT bf aq aC hn;go_enter func168,ntmps168;go_upto_region 1 with(fail);refine qm (aR w) (by kernel_rfl) (by kernel_rfl) (cE).drew ?_;repeat(go_big_quiet_step (first|(go_at_call 169;exact pn.o _)))
 refine gG ?_;intro _ ds;obtain⟨f1,rfl⟩:=ds;go_wp2_with fail
 go_ret;exact⟨rfl,f1.ok⟩
theorem Wh (w:World)(base:Nat)(v:aW)(bb:List (dt×Nat))(bz:Value)(bf:w.ownsRow base 139 8 bz bb.length (bb.flatMap ia))(aC:bb.length<=100000000)(cS:∀y,y∈bb->y.1.rep<5)(k:Nat)(hk:k<=bb.length)(nY:∀i (aq:i<bb.length),i<k->v.gI bb[i].1.dot=true)(Ck:∀i (aq:i<bb.length),k<=i->v.gI bb[i].1.dot=false):
  Calls prog 121 #[bz,v.val] w (bx (I k) fun w'=>ax w w'):=by
 have Rw:∀(fn:Fn) (first cap:Array Value) (w:World),(Instr.makeFunc fn first cap).run prog w= .ok (.func fn first cap) w:=fun _ _ _ _=>rfl
 obtain⟨cA,cap,rfl,-⟩:=Row.shape (e3 bf ch);generalize dE:(w.alloc (.cells #[.slice cA bb.length cap] 106)).alloc (.cells #[I v.a,I v.b,I v.c,I v.d,I v.e] 104)=bR;have aF:ax w bR:=by rw[<-dE];exact((cj _ _)).alloc (by simp) _
 have uT:aQ bR w.heap.size [.slice cA bb.length cap] 106:=by rw[<-dE];exact aQ.alloc (cC w _) _
 have bv:aQ bR (w.heap.size+1) v.cells 104:=by
  rw[<-dE,show w.heap.size+1=(w.alloc (.cells #[.slice cA bb.length cap] 106)).heap.size by simp];exact cC _ _
 have o0:=jZ bf aF;have hs:=aoM bR (w.heap.size+1) w.heap.size bb.length (fun i=>if h:i<bb.length then !v.gI bb[i].1.dot else true) aC (fun W i ao aq=>by
  have a:=agV W (w.heap.size+1) w.heap.size base v bb _ (bv.below ao) (uT.below ao) (jZ o0 ao) aC i aq (cS _ (eT aq));simp only[aq,dif_pos];exact a) k hk (fun i aq=>by
  have ae:i<bb.length:=by omega
  simp only[ae,dif_pos,nY i ae aq,Bool.not_true]) (fun i h1 ae=>by simp only[ae,dif_pos,Ck i ae h1,Bool.not_false])
 have pF:=uT.c0;have Gv:=uT.lt;have aL:=J hs;have dF:=J aF;have ic:=J dE;clear hs aF dE uT bv o0 bf nY Ck hk cS;go_enter func121,ntmps121;go_upto_region 1 with(fail);rw[ic.o];go_wp2_with(go_at_call 167;refine aL.o.mono ?_;rintro e w2 ⟨rfl,bP⟩;have dG:=J bP;clear bP)
 go_ret;exact⟨rfl,dF.o.trans (dG.o.mono dF.o.size)⟩
end Go.Proofs.YtiplgdkpnhamaaaGreatDoor
