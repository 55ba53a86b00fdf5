/- The texts ZK21, ZN4, ZL1, ZL2, ZN5, ZN6, ZN7, QK1, QW1, QW2, QK2, QK3, QK4, QK5, ZN8, QK6, joined. -/
import Derived.Test.YtiplgdkpnhamaaaGreatDoorE43
import Derived.Test.YtiplgdkpnhamaaaGreatDoorE38
import Derived.Test.YtiplgdkpnhamaaaGreatDoorE33
import Derived.Test.YtiplgdkpnhamaaaGreatDoorE04
namespace Go.Proofs.YtiplgdkpnhamaaaGreatDoor.Tv
open Go.RowKit
end Go.Proofs.YtiplgdkpnhamaaaGreatDoor.Tv
namespace Go.Proofs.YtiplgdkpnhamaaaGreatDoor.Tv
open Go.RowKit
theorem PR.hist {xq:DX} {w:World} {o:Nat→Tag} {t:Tag} {b n i:Nat} {d:DRep} (h:PR xq w o t b n i d):HistG n d.hs∧d.vis=visOf n d.hs∧i<n:=by
 obtain ⟨p,h1,sb,st,sl,tbs,mbs,hv,kn,h2⟩:=h
 exact ⟨h2.ok.hist,h2.ok.vis,h2.ok.hi⟩
theorem summary_pr {xq:DX} {w:World} {o:Nat→Tag} {t:Tag} {b n i:Nat} {d:DRep} (h:PR xq w o t b n i d) (hR:d.hs.length≤1100000) (ht:Tabs w) :
  Calls Tryz.prog 37 #[bptr b] w fun e w'=>e=.returned (.string ⟨(sumT n i d.vis).toArray⟩)∧Below w.heap.size w w':=by
 obtain ⟨p,h1,h2⟩:=h
 exact summary_call h2 hR ht
theorem answer_pr {xq:DX} {w:World} {o:Nat→Tag} {t:Tag} {b n i:Nat} {d:DRep} (h:PR xq w o t b n i d) (hR:d.hs.length≤1100000) {j:Nat} (hj:j<n) (l:List Int) (hl:l.length=n) (hmo:∀ k (hk:k<l.length),0≤l[k]∧l[k]≤maxSeq) (hsz:(sumT n j l).length≤200000000000) (ht:Tabs w) (h6:∀ q,q<6→o q≠t) :
  Calls Tryz.prog 40 #[bptr b,.string ⟨(sumT n j l).toArray⟩] w fun e w'=>e=.returned (.tuple #[.string ⟨(ansT n i (vecOf d.vis) ((beyondL d.hs xq (vecOf l)).map trOf)).toArray⟩,.int .i64 0])∧∃ o',PR (learnX xq j (vecOf l)) w' o' t b n i d∧TouchT (·=t) w o w' o':=by
 obtain ⟨hist,-,-⟩:=h.hist
 obtain ⟨p,h1,h2⟩:=h
 have hn5:=hist.n5
 have hrd:=read_text_sum w n j ⟨(sumT n j l).toArray⟩ l true hn5 hj hl (by show (sumT n j l).toArray.size≤_;simpa using hsz) (by unfold Rem;rw [if_pos rfl];exact ⟨_,by show (sumT n j l).toArray.toList=_;rw [List.toList_toArray];rfl⟩) hmo ht
 refine (answer_ok h2 hR _ j (vecOf l) (by omega) ht (fun q hq=>?_) (fun u hu=>tr_fit hist hR hu) (hrd.mono ?_)).mono ?_
 ·by_cases c:p q=.other
  ·exact c
  ·exact absurd (h1 q (by have:=ht.room;omega) c) (h6 q hq)
 ·rintro e w' ⟨hB,⟨-,rfl⟩ | ⟨hno,-⟩⟩
  ·exact ⟨hB,rfl⟩
  ·exact absurd (by show (sumT n j l).toArray.toList=_;rw [List.toList_toArray]) hno
 ·rintro e w' ⟨rfl,h3,h4⟩
  exact ⟨rfl,PR.outW h1 h3 ⟨h4.touch.mono fun q _ e=>by rw [e];simp,fun q hq e=>by rw [← h4.same q hq];exact e⟩⟩
theorem receive_pr {xq:DX} {w:World} {o:Nat→Tag} {t:Tag} {b n i:Nat} {d:DRep} (h:PR xq w o t b n i d) {ts hs us:List RTx} (hT:HistG n ts) (hd:∀ u,u ∈ d.hs→u ∈ ts) (hH:HistG n hs) (hm:∀ u,u ∈ hs→u ∈ ts) (x:DX) (v:Vec) (hus:us=beyondL hs x v) (hM:ts.length≤1100000) {j:Nat} (hj:j<n)
  (hsz:(ansT n j (vecOf (visOf n hs)) (us.map trOf)).length≤200000000000) (ht:Tabs w) :
  Calls Tryz.prog 41 #[bptr b,.string ⟨(ansT n j (vecOf (visOf n hs)) (us.map trOf)).toArray⟩] w fun e w'=>e=.returned (.int .i64 0)∧∃ o' d',PR (learnX xq j (vecOf (visOf n hs))) w' o' t b n i d'∧TouchT (·=t) w o w' o'∧RecD d us d':=by
 obtain ⟨p,h1,h2⟩:=h
 have hn5:=hT.n5
 have husT:∀ u,u ∈ us→u ∈ ts:=fun u hu=>hm u (bey_mem (x:=x) (v:=v) (hus ▸ hu))
 have hN:hs.length≤1100000:=Nat.le_trans (hH.few hm) hM
 have hA:AnsOk n j (vecOf (visOf n hs)) (ansF hs x v) (ansC hs x v):=bey_ans hj hH hN x v
 have hL:upToL (ansF hs x v) (ansC hs x v) 5=us.map trOf:=by rw [hus];exact ans_list hs x v
 have hrd:∀ W,Below w.heap.size w W→Calls Tryz.prog 79 #[.func (.func 80) #[] #[],.string ⟨(ansT n j (vecOf (visOf n hs)) (us.map trOf)).toArray⟩,.int .i64 n] W fun e w'=>Below W.heap.size W w'∧∃ lv,e=.returned (.tuple #[ansVal j (vecOf (visOf n hs)) lv,.int .i64 0])∧GotL W (us.map trOf) lv w':=fun W hB=>by
  refine (read_text_ans W n j _ (vecOf (visOf n hs)) (us.map trOf) (((ansT n j (vecOf (visOf n hs)) (us.map trOf)).toArray).toList=ansT n j (vecOf (visOf n hs)) (us.map trOf)) fun W' hB'=>?_).mono ?_
  ·have:=read_answer W' n j ⟨(ansT n j (vecOf (visOf n hs)) (us.map trOf)).toArray⟩ (vecOf (visOf n hs)) (ansF hs x v) (ansC hs x v) true hA (by show (ansT n j (vecOf (visOf n hs)) (us.map trOf)).toArray.size≤_;simpa using hsz) (by unfold Rem;rw [if_pos rfl,hL];exact ⟨_,by show (ansT n j (vecOf (visOf n hs)) (us.map trOf)).toArray.toList=_;rw [List.toList_toArray];exact ansT_eq ..⟩) ((ht.later hB).later hB')
   rw [hL] at this
   exact this
  ·rintro e w' ⟨hB',⟨-,lv,rfl,hg⟩ | ⟨hno,-⟩⟩
   ·exact ⟨hB',lv,rfl,hg⟩
   ·exact absurd (by rw [List.toList_toArray]) hno
 have hR:∀ vs,(∀ v,v ∈ vs→v ∈ us)→HistG n (passD d vs).hs→(passD d vs).hs.length≤1100000:=fun vs hvs hp=>Nat.le_trans (hp.few fun u hu=>(passD_mem vs d u hu).elim (hd u) fun h=>husT u (hvs u h)) hM
 have hU:us.length≤50000000:=by
  have h1:=segs_few hs x v 5
  rw [hus]
  exact Nat.le_trans h1 (by omega)
 refine (receive_ok h2 us hU hR _ j (vecOf (visOf n hs)) (by omega) hrd (fun u hu=>?_) (fun nd hnd=>?_) (by rw [hus];exact bey_dots hH x v) (hnew_of hT hd husT)).mono ?_
 ·obtain ⟨a,ha,e⟩:=List.mem_iff_getElem.1 (bey_mem (x:=x) (v:=v) (hus ▸ hu))
  have hk:=hH.tx a ha
  have h3:=cntR_le (hs.take a) hs[a].rep.toNat
  rw [List.length_take] at h3
  have h4:=hk.seq
  have h5:=hk.rN
  rw [e] at h3 h4 h5
  omega
 ·exact bey_small hH hN x v nd (by rw [← hus];exact hnd)
 ·rintro e w' ⟨rfl,p',ys,xs,h3,h4,h5,h6,h7⟩
  obtain ⟨o',h8,h9⟩:=PR.outW h1 h6 h7
  exact ⟨rfl,o',_,h8,h9,bey_rec hH x v hus d h3 h4 h5⟩
end Go.Proofs.YtiplgdkpnhamaaaGreatDoor.Tv
namespace Go.Proofs.YtiplgdkpnhamaaaGreatDoor.Tv
open Go.RowKit
def goX (x:DX) (v:Vec) (r:Nat):DX:={ x with gone:=fun s=>if s<r then max (x.gone s) (v.get s).toNat else x.gone s }
def goN (hs:List RTx) (x:DX) (v:Vec):Nat→Nat
 | 0=>0
 | r+1=>goN hs x v r+covK hs x v r
theorem cov_few (hs:List RTx) (x:DX) (v:Vec) (r:Nat):covK hs x v r≤hs.length:=by
 have:=held_few hs r (x.gone r)
 unfold covK
 omega
theorem goN_few (hs:List RTx) (x:DX) (v:Vec):∀ r,goN hs x v r≤r * hs.length
 | 0=>by simp [goN]
 | r+1=>by
  have h1:=goN_few hs x v r
  have h2:=cov_few hs x v r
  unfold goN
  rw [Nat.add_mul]
  omega
theorem goX_none (x:DX) (v:Vec) (hs:List RTx) (r:Nat) (h:covK hs x v r=0) (hl:∀ s,x.gone s≤cntR hs s) (hv:∀ s:Nat,(v.get s).toNat≤cntR hs s):goX x v (r+1)=goX x v r:=by
 unfold goX
 congr 1
 funext s
 by_cases c:s=r
 ·subst c
  rw [if_pos (Nat.lt_succ_self _),if_neg (Nat.lt_irrefl _)]
  unfold covK at h
  rw [held_len] at h
  have h1:=hl s
  have h2:=hv s
  unfold cntR at h1 h2
  have:(filR hs s).length=(hs.filter fun u=>decide (u.rep=(s:Int))).length:=rfl
  omega
 ·by_cases c2:s<r
  ·rw [if_pos c2,if_pos (by omega)]
  ·rw [if_neg c2,if_neg (by omega)]
theorem goX_zero (x:DX) (v:Vec):goX x v 0=x:=by
 unfold goX
 cases x
 simp
section
variable {x x':DX} {w w5:World} {p:Nat→Own} {b n i:Nat} {d:DRep} {sb:Nat} {st:St} {sl tbs mbs:Nat→Nat} {hv kn:List Value}
theorem RepP.letOne (h:RepP x w p b n i d sb st sl tbs mbs hv kn) {r:Nat} (hr:r<5) (hB5:Below w.heap.size w w5) (hx:x'.kn=x.kn) (hg:∀ s,s≠r→x'.gone s=x.gone s) (hgr:x'.gone r≤cntR d.hs r) {nv:Value} {ys:List (Tr × Nat)} (hys:ys.map Prod.fst=(heldOf d.hs r (x'.gone r)).map trOf) (hm:∀ y,y ∈ ys→p y.2=.held 5∧TrIn w y) (hrow:Row w5 139 8 nv ys.length (ys.flatMap trCells)) (hnew:∀ q,nv.ownBlock=some q→w.heap.size≤q) :
  RepP x' (w5.setCell ⟨b,3+r,none⟩ nv) (own2q p w.heap.size fun _=>.held r) b n i d sb st sl tbs mbs (hv.set r nv) kn∧QT (fun t=>t=Own.rep) w p (w5.setCell ⟨b,3+r,none⟩ nv) (own2q p w.heap.size fun _=>.held r):=by
 have hbl:=h.blk.blk.lt
 have q0:=(QT.ofBelow (A:=fun t=>t=Own.rep) (o:=p) hB5).set (p:=⟨b,3+r,none⟩) h.blk.tag nv
 have q:QT (fun t=>t=Own.rep) w p (w5.setCell ⟨b,3+r,none⟩ nv) (own2q p w.heap.size fun _=>.held r):=⟨q0.touch,fun z hz=>own2q_low hz⟩
 refine ⟨?_,q⟩
 have hbt:(own2q p w.heap.size fun _=>Own.held r) b=.rep:=by rw [own2q_low hbl];exact h.blk.tag
 have hb:=(h.blk.below hB5).set (3+r) nv
 rw [repCells_setH h.hlen r hr] at hb
 obtain ⟨vb,cb,eb,ov,cv,ev,kv,hs⟩:=h.sto
 refine ⟨⟨hb.blk,hbt⟩,by simp [h.hlen],h.klen,⟨vb,cb,eb,ov,cv,ev,kv,hs.touch q (fun u hu e=>by rw [e] at hu;exact hu)⟩,h.ok,fun s hs=>?_,fun k t e=>?_,h.snp,by rw [hx];exact h.known,fun s=>?_⟩
 ·have hs':s<hv.length:=by simpa using hs
  by_cases c:s=r
  ·subst c
   have e:(hv.set s nv)[s]=nv:=by simp
   rw [e]
   have R5:Qc w5 (own2q p w.heap.size fun _=>Own.held s) (.held s) 139 8 nv ys.length (ys.flatMap trCells):=⟨hrow,fun z hz=>own2q_high (hnew z hz)⟩
   refine ⟨ys,hys,R5.set (p:=⟨b,3+s,none⟩) hbt (by simp) nv,fun y hy=>?_⟩
   obtain ⟨y1,y2⟩:=hm y hy
   exact ⟨by rw [own2q_low y2.lt];exact y1,MapIn.move y2 (q.touch.block _ y2.lt (by rw [y1];simp))⟩
  ·have e:(hv.set r nv)[s]=hv[s]:=by rw [List.getElem_set_ne (fun e=>c e.symm)]
   rw [e,hg s c]
   exact (h.held s hs').touch q (by simp) (by simp)
 ·have hx:=h.tx k t e
  exact ⟨hx.blk.touch q (by simp),by rw [own2q_low hx.own.lt];exact hx.ownT,hx.own.movet q (by rw [hx.ownT];simp)⟩
 ·by_cases c:s=r
  ·subst c;exact hgr
  ·rw [hg s c];exact h.gle s
end
structure LetAt (xq:DX) (v:Vec) (w:World) (p:Nat→Own) (b n i:Nat) (d:DRep) (sb:Nat) (st:St) (sl tbs mbs:Nat→Nat) (hv kn:List Value) (r:Nat) (wr:World):Prop where
 ex:∃ p' hv',RepP (goX xq v r) wr p' b n i d sb st sl tbs mbs hv' kn∧QT (fun t=>t=Own.rep) w p wr p'∧∀ s,r≤s→hv'[s]? = hv[s]?
 box:Blk wr w.heap.size v.cells 104
def LetEnd (xq:DX) (v:Vec) (w:World) (p:Nat→Own) (b n i:Nat) (d:DRep) (sb:Nat) (st:St) (sl tbs mbs:Nat→Nat) (kn:List Value) (e:Ending) (w':World):Prop:=
 e=.returned (.int .i64 (goN d.hs xq v 5))∧∃ p' hv',RepP (goX xq v 5) w' p' b n i d sb st sl tbs mbs hv' kn∧QT (fun t=>t=Own.rep) w p w' p'
end Go.Proofs.YtiplgdkpnhamaaaGreatDoor.Tv
namespace Go.Proofs.YtiplgdkpnhamaaaGreatDoor.Tv
open Go.RowKit
set_option maxRecDepth 100000 in
set_option maxHeartbeats 16000000 in
theorem letgo_any {xq:DX} {w:World} {p:Nat→Own} {b n i:Nat} {d:DRep} {sb:Nat} {st:St} {sl tbs mbs:Nat→Nat} {hv kn:List Value} (h:RepP xq w p b n i d sb st sl tbs mbs hv kn) (hR:d.hs.length≤1100000) (v:Vec) (hvl:∀ s:Nat,(v.get s).toNat≤cntR d.hs s) :
  Calls Tryz.prog 84 #[.pointer (some ⟨b,3,none⟩),v.val] w (LetEnd xq v w p b n i d sb st sl tbs mbs kn):=by
 obtain ⟨i0,hi,hz0,hz1,hz2⟩:=info_parts Tryz.infoTrx
 have HI:=hide (⟨hi,hz0,hz1,hz2⟩:_∧_∧_∧_)
 clear hi hz0 hz1 hz2
 obtain ⟨v0,v1,v2,v3,v4,hve⟩:∃ v0 v1 v2 v3 v4,hv=[v0,v1,v2,v3,v4]:=by
  have:=h.hlen
  match hv,this with
  | [a,b,c,d,e],_=>exact ⟨a,b,c,d,e,rfl⟩
 generalize hW0:w.alloc (.cells #[.int .i64 v.a,.int .i64 v.b,.int .i64 v.c,.int .i64 v.d,.int .i64 v.e] 104)=W0
 have hB0:Below w.heap.size w W0:=by rw [← hW0];exact (Below.refl _ _).alloc (Nat.le_refl _) _
 have bx:Blk W0 w.heap.size v.cells 104:=by rw [← hW0];exact heap_alloc_new w _
 have h0:=h.below hB0
 have ch:∀ k (hk:k<5),W0.cell? ⟨b,3+k,none⟩=hv[k]?:=fun k hk=>by rw [h0.blk.blk.cell (3+k),repCells_hv h.hlen k hk]
 rw [hve] at ch
 have c0:W0.cell? ⟨b,3,none⟩=some v0:=ch 0 (by omega)
 have c1:W0.cell? ⟨b,4,none⟩=some v1:=ch 1 (by omega)
 have c2:W0.cell? ⟨b,5,none⟩=some v2:=ch 2 (by omega)
 have c3:W0.cell? ⟨b,6,none⟩=some v3:=ch 3 (by omega)
 have c4:W0.cell? ⟨b,7,none⟩=some v4:=ch 4 (by omega)
 have hlb:=h0.blk.blk.lt
 have hbw:=h.blk.blk.lt
 have HX:=hide (idxH hv v0 v1 v2 v3 v4 hve)
 have HL0:Hid (LetAt xq v w p b n i d sb st sl tbs mbs hv kn 0 W0):=⟨⟨p,hv,by rw [goX_zero];exact h0,QT.ofBelow hB0,fun _ _=>rfl⟩,bx⟩
 have HH:=hide (⟨h.hlen,hR,hvl,hbw,h.gle⟩:_∧_∧_∧_∧_)
 have HF:Hid (∀ r,r≤5→goN d.hs xq v r≤5500000):=fun r hr=>by
  have h1:=goN_few d.hs xq v r
  have h2:=Nat.mul_le_mul hr hR
  omega
 have HW0:=hide hW0
 clear h hR hvl hB0 bx h0 ch hW0 hbw
 go_enter Tryz.func84,Tryz.ntmps84
 go_upto_region 2 with (fail)
 rw [HW0.out]
 go_wp2_with fail
 clear c0 c1 c2 c3 c4 hlb HW0
 go_loopw [5,6,7,8,13] (fun gv _ _ _ rv wr=>∃ r:Nat,r≤5∧rv=.int .i64 r∧gv=.int .i64 (goN d.hs xq v r)∧Hid (LetAt xq v w p b n i d sb st sl tbs mbs hv kn r wr)) (fun _ _ _ _ rv _=>5 - (intOf rv).toNat)
 case atStart=>exact ⟨0,Nat.zero_le _,rfl,rfl,HL0.out⟩
 case round=>
  clear HL0
  obtain ⟨r,hr5,rfl,rfl,HA⟩:=hrel
  by_cases hr:r<5
  ·obtain ⟨hlen,hR,hvl,hbw,hgle⟩:=HH.out
   have hrl:r<hv.length:=by rw [hlen];exact hr
   obtain ⟨⟨p',hv',h,hq,hsame⟩,hbox⟩:=HA.out
   have hrl':r<hv'.length:=by rw [h.hlen];exact hr
   have hvr:hv'[r]=hv[r]:=by
    have:=hsame r (Nat.le_refl _)
    rw [List.getElem?_eq_getElem hrl,List.getElem?_eq_getElem hrl'] at this
    exact Option.some.inj this
   have hgr:(goX xq v r).gone r=xq.gone r:=by show (if r<r then _ else _)=_;rw [if_neg (Nat.lt_irrefl _)]
   have hhd:=h.held r hrl'
   rw [hvr,hgr] at hhd
   obtain ⟨ys,y1,y2,y3⟩:=hhd.ex
   have hrow:wr.ownsRow 0 139 8 hv[r] ys.length (ys.flatMap trCells):=y2.row
   have hyl:ys.length=(heldOf d.hs r (xq.gone r)).length:=by have:=congrArg List.length y1;simpa using this
   have hfew:=held_few d.hs r (xq.gone r)
   have hyd:∀ i (hi:i<ys.length),ys[i].1=trOf ((heldOf d.hs r (xq.gone r))[i]'(by omega)):=fun i hi=>by
    have:=congrArg (fun l=>l[i]?) y1
    simp only [List.getElem?_map,List.getElem?_eq_getElem hi,List.getElem?_eq_getElem (show i<(heldOf d.hs r (xq.gone r)).length by omega),Option.map_some,Option.some.injEq] at this
    exact this
   have hstep:goN d.hs xq v (r+1)=goN d.hs xq v r+covK d.hs xq v r:=rfl
   obtain ⟨k,hk⟩:∃ k,covK d.hs xq v r=k:=⟨_,rfl⟩
   rw [hk] at hstep
   have hkl:k≤ys.length:=by rw [← hk,hyl];unfold covK;omega
   have hcov:=covered_any wr 0 v ys hv[r] hrow (by omega) (fun y hy=>by
    obtain ⟨i,hi,rfl⟩:=List.mem_iff_getElem.1 hy
    rw [hyd i hi]
    have hj:i<(heldOf d.hs r (xq.gone r)).length:=by omega
    have hl:=held_len d.hs r (xq.gone r)
    show (heldOf d.hs r (xq.gone r))[i].rep.toNat<5
    rw [held_get hj,(fil_seq h.ok.hist r _ (by omega)).2,Int.toNat_natCast]
    exact hr) k hkl (fun i hi c=>by rw [hyd i hi,cov_split h.ok.hist xq v i (by omega),hk];simpa using c) (fun i hi c=>by rw [hyd i hi,cov_split h.ok.hist xq v i (by omega),hk];simpa using c)
   have hix:=HX.out r hrl
   have z0:wr.cell? ⟨w.heap.size,0,none⟩=some (.int .i64 v.a):=hbox.cell 0
   have z1:wr.cell? ⟨w.heap.size,1,none⟩=some (.int .i64 v.b):=hbox.cell 1
   have z2:wr.cell? ⟨w.heap.size,2,none⟩=some (.int .i64 v.c):=hbox.cell 2
   have z3:wr.cell? ⟨w.heap.size,3,none⟩=some (.int .i64 v.d):=hbox.cell 3
   have z4:wr.cell? ⟨w.heap.size,4,none⟩=some (.int .i64 v.e):=hbox.cell 4
   have hlx:=hbox.lt
   have hb1:=HF.out r hr5
   have hb2:ys.length≤1100000:=by omega
   have hseg:(ys.drop k).map Prod.fst=(heldOf d.hs r ((goX xq v (r+1)).gone r)).map trOf:=by
    have e:(goX xq v (r+1)).gone r=max (xq.gone r) (v.get r).toNat:=by show (if r<r+1 then _ else _)=_;rw [if_pos (Nat.lt_succ_self _)]
    rw [e]
    show _=(segB d.hs xq v r).map trOf
    rw [← seg_drop,hk,List.map_drop,y1,List.map_drop]
   have HCV:=hide hcov
   have hshape:=Row.shape hrow
   obtain ⟨ao,cap,hlv,-⟩:=hshape
   by_cases hk0:k=0
   ·have hno:=goX_none xq v d.hs r (by rw [hk,hk0]) hgle hvl
    rw [hk0,Nat.add_zero] at hstep
    have HE:Hid (∀ w1,Below wr.heap.size wr w1→LetAt xq v w p b n i d sb st sl tbs mbs hv kn (r+1) w1):=fun w1 hB1=>by
     have hwr:w.heap.size≤wr.heap.size:=hq.touch.size
     exact ⟨⟨p',hv',by rw [hno];exact h.below hB1,hq.trans (QT.ofBelow hB1),fun s hs=>hsame s (by omega)⟩,hbox.below hB1⟩
    rw [hlv] at hix HCV
    subst hk0
    have HSt:=hide hstep
    clear h hq hsame hbox hhd y1 y2 y3 hrow hyl hyd hcov hseg hno hgle hvl hvr HA hstep hgr
    go_wp2_with (go_at_call 121;refine HCV.out.mono ?_;rintro e w1 ⟨rfl,hB1⟩;have HB1:=hide hB1;clear hB1)
    exact ⟨⟨r+1,by omega,by go_num,by rw [HSt.out];rfl,HE.out _ HB1.out⟩,by simp [intOf];omega⟩
   ·obtain ⟨g,cap',hlv',hcp,-,hg,hcc,-⟩:=Row.pos hrow (by omega)
    rw [hlv] at hlv'
    injection hlv' with ea eb ec
    subst ea ec
    have hcl:∀ (w1:World) (hB1:Below wr.heap.size wr w1) j u,((ys.drop k).flatMap trCells)[j]? = some u→w1.cell? ((⟨g,k * 8,none⟩:Addr).add j)=some u:=fun w1 hB1 j u hu=>by
     have e:=flat_drop trCells 8 (fun _=>rfl) ys k
     rw [e,List.getElem?_drop] at hu
     have hlt:k * 8+j<ys.length * 8:=by
      have:=(List.getElem?_eq_some_iff.1 hu).1
      rw [flat_len trCells 8 (fun _=>rfl)] at this
      exact this
     have a:=hcc (k * 8+j) hlt
     rw [hu] at a
     have e2:(⟨g,k * 8,none⟩:Addr).add j=⟨g,k * 8+j,none⟩:=by rw [Addr.add_lit]
     rw [e2]
     exact cell_later hB1 a
    have h1c:∀ u ∈ (ys.drop k).flatMap trCells,u.oneCell'=true:=fun u hu=>by
     obtain ⟨y,-,hy⟩:=List.mem_flatMap.1 hu
     simp only [trCells,List.mem_cons,List.not_mem_nil,or_false] at hy
     rcases hy with rfl | rfl | rfl | rfl | rfl | rfl | rfl | rfl <;> rfl
    have hln:((ys.drop k).flatMap trCells).length=(ys.length - k) * 8:=by rw [flat_len trCells 8 (fun _=>rfl),List.length_drop]
    have HCL:=hide (⟨hcl,h1c,hln⟩:_∧_∧_)
    have HE:Hid (∀ w1,Below wr.heap.size wr w1→∀ w5 nv,w1.drew.grownBy w5 none→(nv.ownBlock=none∨nv.ownBlock=some w1.drew.heap.size)→Row w5 139 8 nv (ys.length - k) ((ys.drop k).flatMap trCells)→LetAt xq v w p b n i d sb st sl tbs mbs hv kn (r+1) (w5.setCell ⟨b,3+r,none⟩ nv)):=fun w1 hB1 w5 nv hgw hnb hrw=>by
     have hwr:w.heap.size≤wr.heap.size:=hq.touch.size
     have hB5:Below wr.heap.size wr w5:=hB1.grown (row:=none) ⟨hgw.os,hgw.tape,hgw.output,hgw.size,hgw.block⟩ hB1.size (fun q e=>by cases e)
     have hrw':Row w5 139 8 nv (ys.drop k).length ((ys.drop k).flatMap trCells):=by rw [List.length_drop];exact hrw
     obtain ⟨a1,a2⟩:=h.letOne (x':=goX xq v (r+1)) (w5:=w5) hr hB5 rfl (fun s hs=>by
      show (if s<r+1 then _ else _)=(if s<r then _ else _)
      by_cases c:s<r
      ·rw [if_pos c,if_pos (by omega)]
      ·rw [if_neg c,if_neg (by omega)]) (by
      show (if r<r+1 then _ else _)≤_
      rw [if_pos (Nat.lt_succ_self _)]
      have:=hgle r
      have:=hvl r
      omega) hseg (fun y hy=>y3 y (List.mem_of_mem_drop hy)) hrw' (fun q hq=>by
      rcases hnb with e | e
      ·rw [e] at hq;cases hq
      ·rw [e] at hq
       have h1:w1.drew.heap.size=q:=Option.some.inj hq
       have h2:w1.drew.heap.size=w1.heap.size:=rfl
       have:=hB1.size
       omega)
     refine ⟨⟨_,_,a1,hq.trans a2,fun s hs=>?_⟩,?_⟩
     ·rw [List.getElem?_set_ne (by omega)]
      exact hsame s (by omega)
     ·exact (hbox.below hB5).other (by show w.heap.size≠b;omega) _
    have HK:Hid (∀ w1,Below wr.heap.size wr w1→∀ w5,w1.drew.grownBy w5 none→w5.cell? ⟨b,3+r,none⟩=some hv[r]∧w5.frozen? ⟨b,3+r,none⟩=false∧b<w5.heap.size):=fun w1 hB1 w5 hgw=>by
     have hB5:Below wr.heap.size wr w5:=hB1.grown (row:=none) ⟨hgw.os,hgw.tape,hgw.output,hgw.size,hgw.block⟩ hB1.size (fun q e=>by cases e)
     have b5:=h.blk.below hB5
     refine ⟨?_,b5.blk.frozen _,b5.blk.lt⟩
     rw [b5.blk.cell (3+r),repCells_hv h.hlen r hr,← hvr,List.getElem?_eq_getElem hrl']
    have HSt:=hide hstep
    have HCap:=hide hcp
    rw [hlv] at hix HCV HK
    have e1:¬ (r:Int)<0:=by omega
    have e2:(r:Int)<5:=by omega
    have e3:(0:Int)<k:=by omega
    have hbr:=h.blk.blk.lt
    generalize goN d.hs xq v r=gn at *
    clear h hq hsame hbox hhd y1 y2 y3 hrow hyl hyd hcov hseg hgle hvl hvr HA hstep hgr hcl h1c hln hcc hfew hk hlv hcp
    by_cases hck:cap=k
    ·as_aux_lemma=>
      have HKK:Hid (ys.length=cap):=(by have:=HCap.out;omega:ys.length=cap)
      subst hck
      have HZ:Hid (([]:List Value).length=(ys.length - cap) * 8):=by have:=HKK.out;show 0=(ys.length - cap) * 8;omega
      go_upto_region 8 with (go_at_call 121;refine HCV.out.mono ?_;rintro e w1 ⟨rfl,hB1⟩;have HB1:=hide hB1;clear hB1)
      clear z0 z1 z2 z3 z4 hlx HCV hix
      have hbw1:b<w1.heap.size:=Nat.lt_of_lt_of_le hbr HB1.out.size
      go_region_held3 (fun W=>b<W.heap.size) (go_keep) ((refine step_append_own rfl _ _ 106 rfl 139 i0 (.agg #[.int .i64 0,.int .i64 0,.int .i64 0,.int .i64 0,.int .i64 0,.int .i64 0,.int .i64 0,.map none]) 8 64 Tryz.underlying106 HI.out.1 HI.out.2.1 HI.out.2.2.1 HI.out.2.2.2 rfl (by decide) (.slice none 0 0) 0 [] rfl (World.ownsRow_nil _ _ _ _) ⟨g,0,none⟩ (ys.length - cap) 0 [] (by simp [Act.eval]) HZ.out (by intro j u hj;simp at hj) (by simp) (by unfold maxLen;omega) (by omega) ?_;intro v5 w5 r1 r2 r3;rw [Nat.zero_add,List.nil_append] at r1;obtain ⟨k1,k2,k3⟩:=HK.out _ HB1.out w5 r2;obtain ⟨ao5,cap5,rfl,-⟩:=Row.shape r1;have HR5:=hide (⟨r1,r2,r3⟩:_∧_∧_);clear r1 r2 r3))
      all_goals go_wp2_with fail
      all_goals
       obtain ⟨r1,r2,r3⟩:=HR5.out
       have hkk:=HKK.out
       have hd0:(ys.drop cap).flatMap trCells=[]:=by rw [List.drop_eq_nil_of_le (by omega)];rfl
       refine ⟨⟨r+1,by omega,by go_num,by rw [HSt.out];go_num,HE.out _ HB1.out _ _ r2 r3 ?_⟩,by simp [intOf];omega⟩
       rw [hd0]
       exact r1
    ·as_aux_lemma=>
      have hck2:k<cap:=by have:=HCap.out;omega
      go_upto_region 8 with (go_at_call 121;refine HCV.out.mono ?_;rintro e w1 ⟨rfl,hB1⟩;have HB1:=hide hB1;clear hB1)
      clear z0 z1 z2 z3 z4 hlx HCV hix
      have hbw1:b<w1.heap.size:=Nat.lt_of_lt_of_le hbr HB1.out.size
      go_region_held3 (fun W=>b<W.heap.size) (go_keep) ((refine step_append_own rfl _ _ 106 rfl 139 i0 (.agg #[.int .i64 0,.int .i64 0,.int .i64 0,.int .i64 0,.int .i64 0,.int .i64 0,.int .i64 0,.map none]) 8 64 Tryz.underlying106 HI.out.1 HI.out.2.1 HI.out.2.2.1 HI.out.2.2.2 rfl (by decide) (.slice none 0 0) 0 [] rfl (World.ownsRow_nil _ _ _ _) ⟨g,k * 8,none⟩ (ys.length - k) (cap - k) ((ys.drop k).flatMap trCells) (by simp [Act.eval]) HCL.out.2.2 (by exact HCL.out.1 _ HB1.out.drew) HCL.out.2.1 (by unfold maxLen;omega) (by omega) ?_;intro v5 w5 r1 r2 r3;rw [Nat.zero_add,List.nil_append] at r1;obtain ⟨k1,k2,k3⟩:=HK.out _ HB1.out w5 r2;obtain ⟨ao5,cap5,rfl,-⟩:=Row.shape r1;have HR5:=hide (⟨r1,r2,r3⟩:_∧_∧_);clear r1 r2 r3))
      all_goals go_wp2_with fail
      all_goals
       obtain ⟨r1,r2,r3⟩:=HR5.out
       refine ⟨⟨r+1,by omega,by go_num,by rw [HSt.out];go_num,HE.out _ HB1.out _ _ r2 r3 ?_⟩,by simp [intOf];omega⟩
       exact r1
  ·have hre:r=5:=by omega
   subst hre
   go_wp2_with fail
   go_ret
   obtain ⟨⟨p',hv',h,hq,hsame⟩,hbox⟩:=HA.out
   exact ⟨rfl,p',hv',h,hq⟩
end Go.Proofs.YtiplgdkpnhamaaaGreatDoor.Tv
namespace Go.Proofs.YtiplgdkpnhamaaaGreatDoor.Tv
open Go.RowKit
theorem sum_size {n j:Nat} {l:List Int} (hn:n≤5) (hj:j<n) (hl:l.length=n) (h:∀ k,k ∈ l→-9223372036854775808≤k∧k≤9223372036854775807):(sumT n j l).length≤200:=by
 have h1:=seal_len (headT 115 n j l)
 have h2:=vec_len l h
 have h3:=num_len (k:=(n:Int)) (by omega) (by omega)
 have h4:=num_len (k:=(j:Int)) (by omega) (by omega)
 show (headT 115 n j l ++ sealT (headT 115 n j l)).length≤_
 rw [List.length_append]
 have h5:(headT 115 n j l).length=(numT n).length+((numT j).length+(vecT l).length)+1:=by simp [headT]
 omega
theorem tr_len {n:Nat} {hs:List RTx} (h:HistG n hs) (hN:hs.length≤1100000) {u:RTx} (hu:u ∈ hs):(txT n (trOf u).saw (trOf u).wr).length≤1300:=by
 have hf:=tr_fit h hN hu
 obtain ⟨j,hj,e⟩:=List.mem_iff_getElem.1 hu
 have hk:=h.tx j hj
 rw [e] at hk
 obtain ⟨k1,-,-,k4⟩:=own_keysOf hk.ops hk.one
 have h1:=vec_take_len hf.saw (k:=n) h.n5
 have hw:(trOf u).wr=ownOf u.ops:=rfl
 rw [← hw] at k1 k4
 have h2:=num_len (k:=((keysOf (trOf u).wr).length:Int)) (by omega) (by omega)
 have h3:=wrs_len (m:=(trOf u).wr) (ks:=keysOf (trOf u).wr) fun p hp=>by
  obtain ⟨x,e⟩:=Option.isSome_iff_exists.1 ((k1.2 p).1 hp)
  exact ⟨x,e,hf.wr p x e⟩
 simp only [txT,List.length_append]
 omega
theorem trs_len {n:Nat} {hs:List RTx} (h:HistG n hs) (hN:hs.length≤1100000):∀ {us:List RTx},(∀ u,u ∈ us→u ∈ hs)→(txsT n (us.map trOf)).length≤1300 * us.length
 | [],_=>by simp [txsT]
 | a :: l,hu=>by
  have h1:=trs_len h hN (us:=l) fun x hx=>hu x (by simp [hx])
  have h2:=tr_len h hN (hu a (by simp))
  simp only [txsT,List.map_cons,List.flatMap_cons,List.length_append,List.length_cons] at h1 ⊢
  omega
theorem bey_few (hs:List RTx) (x:DX) (v:Vec):(beyondL hs x v).length≤5 * hs.length:=segs_few hs x v 5
theorem ans_size {n j:Nat} {hs us:List RTx} (h:HistG n hs) (hN:hs.length≤1100000) (hj:j<n) (hu:∀ u,u ∈ us→u ∈ hs) (hl:us.length≤5 * hs.length):(ansT n j (vecOf (visOf n hs)) (us.map trOf)).length≤200000000000:=by
 have hn5:=h.n5
 have hvis:∀ k,k ∈ (vecOf (visOf n hs)).list→-9223372036854775808≤k∧k≤9223372036854775807:=fun k hk=>by
  obtain ⟨r,hr,rfl⟩:=vec_mem hk
  rw [vecOf_get (by rw [visOf_len];exact hn5),Int.toNat_natCast]
  have:=cntR_le hs r
  by_cases c:r<n
  ·rw [visOf_get c];omega
  ·rw [visOf_out (by omega)];omega
 have hrep:∀ t,t ∈ us.map trOf→t.rep<5:=fun t ht=>by
  obtain ⟨u,hu',rfl⟩:=List.mem_map.1 ht
  exact (tr_fit h hN (hu u hu')).rep
 have hcnt:∀ k,k ∈ (countsOf (us.map trOf)).list→-9223372036854775808≤k∧k≤9223372036854775807:=fun k hk=>by
  obtain ⟨r,hr,rfl⟩:=vec_mem hk
  have:=counts_small (us.map trOf) hrep r
  rw [List.length_map] at this
  omega
 have h1:=vec_take_len hvis (k:=n) hn5
 have h2:=vec_take_len hcnt (k:=n) hn5
 have h3:=num_len (k:=(n:Int)) (by omega) (by omega)
 have h4:=num_len (k:=(j:Int)) (by omega) (by omega)
 have h5:=trs_len h hN hu
 have h7:(ansBody n j (vecOf (visOf n hs)) (us.map trOf)).length=(numT n).length+((numT j).length+(vecT ((vecOf (visOf n hs)).list.take n)).length)+1+((vecT ((countsOf (us.map trOf)).list.take n)).length+(txsT n (us.map trOf)).length):=by simp [ansBody,headT];omega
 rw [ansT_eq,List.length_append]
 have h6:=seal_len (ansBody n j (vecOf (visOf n hs)) (us.map trOf))
 omega
theorem vis_small {n:Nat} {hs:List RTx} (hN:hs.length≤1100000):∀ k (hk:k<(visOf n hs).length),0≤(visOf n hs)[k]∧(visOf n hs)[k]≤maxSeq:=fun k hk=>by
 have hkn:k<n:=by rwa [visOf_len] at hk
 have h1:=visOf_get (hs:=hs) hkn
 rw [List.getD_eq_getElem?_getD,List.getElem?_eq_getElem hk] at h1
 have h2:(visOf n hs)[k]=cntR hs k:=h1
 have:=cntR_le hs k
 unfold maxSeq
 omega
theorem answer_of {xq:DX} {w:World} {o:Nat→Tag} {t:Tag} {b n i:Nat} {d:DRep} (h:PR xq w o t b n i d) (hR:d.hs.length≤1100000) {j:Nat} (hj:j<n) {hs:List RTx} (hN:hs.length≤1100000) (ht:Tabs w) (h6:∀ q,q<6→o q≠t) :
  Calls Tryz.prog 40 #[bptr b,.string ⟨(sumT n j (visOf n hs)).toArray⟩] w fun e w'=>e=.returned (.tuple #[.string ⟨(ansT n i (vecOf (visOf n d.hs)) ((beyondL d.hs xq (vecOf (visOf n hs))).map trOf)).toArray⟩,.int .i64 0])∧∃ o',PR (learnX xq j (vecOf (visOf n hs))) w' o' t b n i d∧TouchT (·=t) w o w' o':=by
 obtain ⟨hist,hv,-⟩:=h.hist
 have hs1:=vis_small (n:=n) hN
 have hsz:=sum_size (j:=j) hist.n5 hj (visOf_len n hs) fun k hk=>by
  obtain ⟨a,ha,rfl⟩:=List.mem_iff_getElem.1 hk
  have:=hs1 a ha
  unfold maxSeq at this
  omega
 have:=answer_pr h hR hj (visOf n hs) (visOf_len n hs) hs1 (by omega) ht h6
 rwa [hv] at this
theorem receive_of {xq:DX} {w:World} {o:Nat→Tag} {t:Tag} {b n i:Nat} {d:DRep} (h:PR xq w o t b n i d) {ts hs:List RTx} (hT:HistG n ts) (hd:∀ u,u ∈ d.hs→u ∈ ts) (hH:HistG n hs) (hm:∀ u,u ∈ hs→u ∈ ts) (x:DX) (v:Vec) (hM:ts.length≤1100000) {j:Nat} (hj:j<n) (ht:Tabs w) :
  Calls Tryz.prog 41 #[bptr b,.string ⟨(ansT n j (vecOf (visOf n hs)) ((beyondL hs x v).map trOf)).toArray⟩] w fun e w'=>e=.returned (.int .i64 0)∧∃ o' d',PR (learnX xq j (vecOf (visOf n hs))) w' o' t b n i d'∧TouchT (·=t) w o w' o'∧RecD d (beyondL hs x v) d':=
 receive_pr h hT hd hH hm x v rfl hM hj (ans_size hH (Nat.le_trans (hH.few hm) hM) hj (fun _ hu=>bey_mem hu) (bey_few hs x v)) ht
end Go.Proofs.YtiplgdkpnhamaaaGreatDoor.Tv
namespace Go.Proofs.YtiplgdkpnhamaaaGreatDoor.Tv
open Go.RowKit
def put {α:Type} (f:Nat→α) (i:Nat) (x:α):Nat→α:=fun j=>if j=i then x else f j
theorem put_same {α:Type} (f:Nat→α) (i:Nat) (x:α):put f i x i=x:=by simp [put]
theorem put_other {α:Type} {f:Nat→α} {i j:Nat} {x:α} (h:j≠i):put f i x j=f j:=by simp [put,h]
theorem cnt_sub {n:Nat} {hs ts:List RTx} (hT:HistG n ts) (h:HistG n hs) (hm:∀ u,u ∈ hs→u ∈ ts) (k:Nat):cntR hs k≤cntR ts k:=by
 by_cases c:cntR hs k=0
 ·omega
 ·obtain ⟨u,h1,h2,h3⟩:=h.has (r:=k) (s:=cntR hs k) (by omega) (Int.le_refl _)
  have:=(hT.seq_le (hm u h1)).2
  rw [show u.rep.toNat=k by omega,h3] at this
  omega
theorem cntR_app (a b:List RTx) (k:Nat):cntR (a ++ b) k=cntR a k+cntR b k:=by simp [cntR]
theorem RecD.more {d d':DRep} {us:List RTx} (h:RecD d us d'):(∃ l,d'.hs=d.hs ++ l)∧d'.opn=d.opn∧∀ u,u ∈ d'.hs→u ∈ d.hs∨u ∈ us:=by
 obtain ⟨zs,rfl,hp,-⟩:=h
 exact ⟨passD_pre zs d,passD_opn d zs,fun u hu=>(passD_mem zs d u hu).imp id fun h=>hp.mem_iff.1 h⟩
theorem RecD.cnt {d d':DRep} {us:List RTx} (h:RecD d us d') (k:Nat):cntR d.hs k≤cntR d'.hs k:=by
 obtain ⟨⟨l,e⟩,-,-⟩:=h.more
 rw [e,cntR_app];omega
structure Net (n:Nat) (w:World) (o:Nat→Tag) (T:Nat→Tag) (B:Nat→Nat) (ts:List RTx) (D:Nat→DRep) (X:Nat→DX):Prop where
 hist:HistG n ts
 few:ts.length≤1100000
 dif:∀ i j,i<n→j<n→T i=T j→i=j
 pr:∀ i,i<n→PR (X i) w o (T i) (B i) n i (D i)
 sub:∀ i,i<n→∀ u,u ∈ (D i).hs→u ∈ ts
 own:∀ i,i<n→cntR ts i=cntR (D i).hs i
 tabs:Tabs w
 low:∀ q,q<6→∀ i,i<n→o q≠T i
 gone:∀ i k r,i<n→k<n→(X i).gone r≤cntR (D k).hs r
def grp (n:Nat) (T:Nat→Tag) (t:Tag):Prop:=∃ i,i<n∧t=T i
section
variable {n:Nat} {w w':World} {o o':Nat→Tag} {T:Nat→Tag} {B:Nat→Nat} {ts ts':List RTx} {D:Nat→DRep} {X:Nat→DX}
theorem Net.move (h:Net n w o T B ts D X) (hm:∀ q,q<w.heap.size→(q<6∨grp n T (o q))→w'.heap[q]? = w.heap[q]?∧o' q=o q):Net n w' o' T B ts D X:=
 ⟨h.hist,h.few,h.dif,fun i hi=>(h.pr i hi).move fun q hq e=>by
  obtain ⟨a,b⟩:=hm q hq (Or.inr ⟨i,hi,e⟩)
  exact ⟨a,b.trans e⟩,h.sub,h.own,h.tabs.kept fun q hq=>(hm q (by have:=h.tabs.room;omega) (Or.inl hq)).1,fun q hq i hi=>by
  rw [(hm q (by have:=h.tabs.room;omega) (Or.inl hq)).2];exact h.low q hq i hi,h.gone⟩
theorem Net.below (h:Net n w o T B ts D X) (hb:Below w.heap.size w w'):Net n w' o T B ts D X:=h.move fun q hq _=>⟨hb.block q hq,rfl⟩
theorem Net.len (h:Net n w o T B ts D X) {i:Nat} (hi:i<n):(D i).hs.length≤1100000:=Nat.le_trans ((h.pr i hi).hist.1.few (h.sub i hi)) h.few
theorem Net.turn (h:Net n w o T B ts D X) {i:Nat} (hi:i<n) {d':DRep} {x':DX} (hp:PR x' w' o' (T i) (B i) n i d') (ht:TouchT (·=T i) w o w' o') (hT:HistG n ts') (hf:ts'.length≤1100000) (hsub:∀ u,u ∈ ts→u ∈ ts') (hd:∀ u,u ∈ d'.hs→u ∈ ts') (hown:cntR ts' i=cntR d'.hs i) (hoth:∀ k,k<n→k≠i→cntR ts' k=cntR ts k) (hmono:∀ r,cntR (D i).hs r≤cntR d'.hs r) (hg:∀ k r,k<n→x'.gone r≤cntR (put D i d' k).hs r):Net n w' o' T B ts' (put D i d') (put X i x'):=by
 have hroom:=h.tabs.room
 refine ⟨hT,hf,h.dif,fun k hk=>?_,fun k hk u hu=>?_,fun k hk=>?_,h.tabs.kept fun q hq=>ht.touch.block q (by omega) (h.low q hq i hi),fun q hq k hk=>by rw [ht.same q (by omega)];exact h.low q hq k hk,fun a k r ha hk=>?_⟩
 ·by_cases c:k=i
  ·subst c;rw [put_same,put_same];exact hp
  ·rw [put_other c,put_other c]
   exact (h.pr k hk).move fun q hq e=>⟨ht.touch.block q hq (by rw [e];exact fun x=>c (h.dif k i hk hi x)),(ht.same q hq).trans e⟩
 ·by_cases c:k=i
  ·subst c;rw [put_same] at hu;exact hd u hu
  ·rw [put_other c] at hu;exact hsub u (h.sub k hk u hu)
 ·by_cases c:k=i
  ·subst c;rw [put_same];exact hown
  ·rw [put_other c,hoth k hk c];exact h.own k hk
 ·by_cases c:a=i
  ·subst c;rw [put_same];exact hg k r hk
  ·rw [put_other c]
   have:=h.gone a k r ha hk
   by_cases c2:k=i
   ·subst c2;rw [put_same];have:=hmono r;omega
   ·rw [put_other c2];exact this
theorem Net.still (h:Net n w o T B ts D X) {i:Nat} (hi:i<n) {d':DRep} {x':DX} (hp:PR x' w' o' (T i) (B i) n i d') (ht:TouchT (·=T i) w o w' o') (he:d'.hs=(D i).hs) (hx:x'.gone=(X i).gone):Net n w' o' T B ts (put D i d') (put X i x'):=
 h.turn hi hp ht h.hist h.few (fun _ hu=>hu) (by rw [he];exact h.sub i hi) (by rw [he];exact h.own i hi) (fun _ _ _=>rfl) (fun r=>by rw [he];exact Nat.le_refl _) (fun k r hk=>by
  rw [hx]
  by_cases c:k=i
  ·subst c;rw [put_same,he];exact h.gone k k r hi hi
  ·rw [put_other c];exact h.gone i k r hi hk)
theorem Net.more (h:Net n w o T B ts D X) {i:Nat} (hi:i<n) {d':DRep} {x':DX} {u:RTx} (hp:PR x' w' o' (T i) (B i) n i d') (ht:TouchT (·=T i) w o w' o') (he:d'.hs=(D i).hs ++ [u]) (hr:u.rep=i) (hx:x'.gone=(X i).gone) (hf:ts.length+1≤1100000):Net n w' o' T B (ts ++ [u]) (put D i d') (put X i x'):=by
 have hD:=(h.pr i hi).hist.1
 have hnew:NewOk n (D i).hs u:=by
  have hH:=hp.hist.1
  rw [he] at hH
  have:=hH.tx (D i).hs.length (by simp)
  rwa [List.take_left' rfl,List.getElem_append_right (Nat.le_refl _),List.getElem_singleton] at this
 have hrn:u.rep.toNat=i:=by omega
 have hn:NewOk n ts u:=by
  refine ⟨hnew.r0,hnew.rn,?_,⟨hnew.saw.len,hnew.saw.pos,fun r=>?_,fun v hv hs r=>?_⟩,hnew.ops,hnew.one⟩
  ·have:=hnew.seq
   rw [hrn] at this ⊢
   rw [this,h.own i hi]
  ·have:=hnew.saw.le r
   have:=cnt_sub h.hist hD (h.sub i hi) r
   omega
  ·refine hnew.saw.clo v ?_ hs r
   rw [mem_seen h.hist hD (h.sub i hi) hv]
   exact Int.le_trans (sees_le.1 hs) (hnew.saw.le _)
 refine h.turn hi hp ht (h.hist.snoc hn) (by simpa using hf) (fun v hv=>by simp [hv]) (fun v hv=>?_) ?_ (fun k _ hk=>?_) (fun r=>?_) (fun k r hk=>?_)
 ·rw [he] at hv
  rcases List.mem_append.1 hv with hv | hv
  ·simp [h.sub i hi v hv]
  ·simp [List.mem_singleton.1 hv]
 ·rw [he,cntR_snoc,cntR_snoc,h.own i hi]
 ·rw [cntR_snoc,if_neg (by omega)];rfl
 ·rw [he,cntR_snoc];omega
 ·rw [hx]
  by_cases c:k=i
  ·subst c;rw [put_same,he,cntR_snoc];have:=h.gone k k r hi hi;omega
  ·rw [put_other c];exact h.gone i k r hi hk
theorem touch_grp {i:Nat} (h:TouchT (·=T i) w o w' o') (hi:i<n):TouchT (grp n T) w o w' o':=h.mono fun _ e=>⟨i,hi,e⟩
theorem Net.summary (h:Net n w o T B ts D X) {b:Nat} (hb:b<n):Calls Tryz.prog 37 #[bptr (B b)] w fun e w'=>e=.returned (.string ⟨(sumT n b (visOf n (D b).hs)).toArray⟩)∧Net n w' o T B ts D X∧TouchT (grp n T) w o w' o:=by
 have a:=summary_pr (h.pr b hb) (h.len hb) h.tabs
 rw [(h.pr b hb).hist.2.1] at a
 refine a.mono ?_
 rintro e w' ⟨rfl,hB⟩
 exact ⟨rfl,h.below hB,(TouchT.refl _ _ _).below hB⟩
theorem Net.answer (h:Net n w o T B ts D X) {a:Nat} (ha:a<n) {hs:List RTx} (hH:HistG n hs) (hm:∀ u,u ∈ hs→u ∈ ts) {b:Nat} (hb:b<n):Calls Tryz.prog 40 #[bptr (B a),.string ⟨(sumT n b (visOf n hs)).toArray⟩] w fun e w'=>e=.returned (.tuple #[.string ⟨(ansT n a (vecOf (visOf n (D a).hs)) ((beyondL (D a).hs (X a) (vecOf (visOf n hs))).map trOf)).toArray⟩,.int .i64 0])∧∃ o',Net n w' o' T B ts D (put X a (learnX (X a) b (vecOf (visOf n hs))))∧TouchT (grp n T) w o w' o':=by
 refine (answer_of (h.pr a ha) (h.len ha) hb (Nat.le_trans (hH.few hm) h.few) h.tabs fun q hq=>h.low q hq a ha).mono ?_
 rintro e w' ⟨rfl,o',h1,h2⟩
 refine ⟨rfl,o',?_,touch_grp h2 ha⟩
 have:=h.still ha h1 h2 rfl rfl
 have e:put D a (D a)=D:=by funext k;by_cases c:k=a <;> simp [put,c]
 rwa [e] at this
theorem Net.receive (h:Net n w o T B ts D X) {b:Nat} (hb:b<n) {hs:List RTx} (hH:HistG n hs) (hm:∀ u,u ∈ hs→u ∈ ts) (x:DX) (v:Vec) {a:Nat} (ha:a<n):Calls Tryz.prog 41 #[bptr (B b),.string ⟨(ansT n a (vecOf (visOf n hs)) ((beyondL hs x v).map trOf)).toArray⟩] w fun e w'=>e=.returned (.int .i64 0)∧∃ o' d',Net n w' o' T B ts (put D b d') (put X b (learnX (X b) a (vecOf (visOf n hs))))∧TouchT (grp n T) w o w' o'∧RecD (D b) (beyondL hs x v) d':=by
 refine (receive_of (h.pr b hb) h.hist (h.sub b hb) hH hm x v h.few ha h.tabs).mono ?_
 rintro e w' ⟨rfl,o',d',h1,h2,h3⟩
 refine ⟨rfl,o',d',?_,touch_grp h2 hb,h3⟩
 have hsub:∀ u,u ∈ d'.hs→u ∈ ts:=fun u hu=>(h3.more.2.2 u hu).elim (h.sub b hb u) fun hu=>hm u (bey_mem hu)
 have hc:=h3.cnt
 refine h.turn hb h1 h2 h.hist h.few (fun _ hu=>hu) hsub ?_ (fun _ _ _=>rfl) hc (fun k r hk=>?_)
 ·have h4:=cnt_sub h.hist h1.hist.1 hsub b
  have h5:=hc b
  have h6:=h.own b hb
  omega
 ·show (X b).gone r≤_
  by_cases c:k=b
  ·subst c;rw [put_same];have:=h.gone k k r hb hb;have:=hc r;omega
  ·rw [put_other c];exact h.gone b k r hb hk
end
end Go.Proofs.YtiplgdkpnhamaaaGreatDoor.Tv
namespace Go.Proofs.YtiplgdkpnhamaaaGreatDoor.Tv
open Go.RowKit
def tellX (n:Nat) (D:Nat→DRep) (X:Nat→DX) (a b:Nat):Nat→DX:=put (put X a (learnX (X a) b (vecOf (visOf n (D b).hs)))) b (learnX (put X a (learnX (X a) b (vecOf (visOf n (D b).hs))) b) a (vecOf (visOf n (D a).hs)))
def TellEnd (n:Nat) (w:World) (o:Nat→Tag) (T:Nat→Tag) (B:Nat→Nat) (ts:List RTx) (D:Nat→DRep) (X:Nat→DX) (a b:Nat) (e:Ending) (w':World):Prop:=
 e=.returned (.bool true)∧∃ o' d' X',Net n w' o' T B ts (put D b d') X'∧TouchT (grp n T) w o w' o'∧RecD (D b) (beyondL (D a).hs (X a) (vecOf (visOf n (D b).hs))) d'∧(∀ k,(X' k).gone=(X k).gone)∧X'=tellX n D X a b
set_option maxRecDepth 100000 in
set_option maxHeartbeats 4000000 in
theorem tells_any {n:Nat} {w:World} {o:Nat→Tag} {T:Nat→Tag} {B:Nat→Nat} {ts:List RTx} {D:Nat→DRep} {X:Nat→DX} (h:Net n w o T B ts D X) {a b:Nat} (ha:a<n) (hb:b<n) :
  Calls Tryz.prog 39 #[bptr (B a),bptr (B b)] w (TellEnd n w o T B ts D X a b):=by
 have hA:=(h.pr a ha).hist.1
 have hB:=(h.pr b hb).hist.1
 have hc1:=h.summary hb
 have hc2:∀ w1,Net n w1 o T B ts D X→_:=fun w1 (h1:Net n w1 o T B ts D X)=>h1.answer ha hB (h.sub b hb) hb
 have hc3:∀ w2 o2,Net n w2 o2 T B ts D (put X a (learnX (X a) b (vecOf (visOf n (D b).hs))))→_:=fun w2 o2 (h2:Net n w2 o2 T B ts D (put X a (learnX (X a) b (vecOf (visOf n (D b).hs)))))=>h2.receive hb hA (h.sub a ha) (X a) (vecOf (visOf n (D b).hs)) ha
 have hE:∀ w3 o2 o3 d' w1 w2,TouchT (grp n T) w o w1 o→TouchT (grp n T) w1 o w2 o2→Net n w3 o3 T B ts (put D b d') (put (put X a (learnX (X a) b (vecOf (visOf n (D b).hs)))) b (learnX (put X a (learnX (X a) b (vecOf (visOf n (D b).hs))) b) a (vecOf (visOf n (D a).hs))))→TouchT (grp n T) w2 o2 w3 o3→RecD (D b) (beyondL (D a).hs (X a) (vecOf (visOf n (D b).hs))) d'→TellEnd n w o T B ts D X a b (.returned (.bool true)) w3:=fun w3 o2 o3 d' w1 w2 t1 t2 hN t3 hr=>by
  refine ⟨rfl,o3,d',_,hN,(t1.trans t2).trans t3,hr,fun k=>?_,rfl⟩
  have e1:∀ k,(put X a (learnX (X a) b (vecOf (visOf n (D b).hs))) k).gone=(X k).gone:=fun k=>by
   by_cases c:k=a
   ·subst c;rw [put_same];rfl
   ·rw [put_other c]
  by_cases c:k=b
  ·subst c;rw [put_same];exact e1 k
  ·rw [put_other c];exact e1 k
 generalize (⟨(sumT n b (visOf n (D b).hs)).toArray⟩:ByteArray)=s at hc1 hc2
 generalize (⟨(ansT n a (vecOf (visOf n (D a).hs)) ((beyondL (D a).hs (X a) (vecOf (visOf n (D b).hs))).map trOf)).toArray⟩:ByteArray)=t at hc2 hc3
 have H1:=hide hc1
 have H2:=hide hc2
 have H3:=hide hc3
 have HE:=hide hE
 clear hc1 hc2 hc3 hE hA hB h
 go_enter Tryz.func39,Tryz.ntmps39
 go_wp2_with first
  | (go_at_call 37;refine H1.out.mono ?_;rintro e w1 ⟨rfl,hn1,t1⟩;have G1:=hide (⟨hn1,t1⟩:_∧_);clear hn1 t1)
  | (go_at_call 40;refine (H2.out _ G1.out.1).mono ?_;rintro e w2 ⟨rfl,o2,hn2,t2⟩;have G2:=hide (⟨hn2,t2⟩:_∧_);clear hn2 t2)
  | (go_at_call 41;refine (H3.out _ _ G2.out.1).mono ?_;rintro e w3 ⟨rfl,o3,d3,hn3,t3,hr3⟩;have G3:=hide (⟨hn3,t3,hr3⟩:_∧_∧_);clear hn3 t3 hr3)
 go_ret
 exact HE.out _ _ _ _ _ _ G1.out.2 G2.out.2 G3.out.1 G3.out.2.1 G3.out.2.2
end Go.Proofs.YtiplgdkpnhamaaaGreatDoor.Tv
namespace Go.Proofs.YtiplgdkpnhamaaaGreatDoor.Tv
open Go.RowKit
set_option maxHeartbeats 400000 in
theorem kpick_any (c:Int) (n:Nat) (w:World) (hn:0<n) (hn':n≤1000000) (hc:-9223372036854775808≤c) (hc':c≤9223372036854775807) :
  Calls Tryz.prog 29 #[.int .i64 c,.int .i64 n] w fun e w'=>e=.returned (.int .i64 (pickOf c n))∧w'=w:=by
 by_cases h:c<0
 ·have HS:Hid ((pickOf c n:Int)=(-(c+1)) % n):=by
   have h3:=Int.emod_nonneg (-(c+1)) (show (n:Int)≠0 by omega)
   unfold Hid pickOf;rw [if_pos h];omega
  go_enter Tryz.func29,Tryz.ntmps29
  go_wp2
  all_goals go_ret
  all_goals refine ⟨ret_int ?_,rfl⟩
  all_goals rw [HS.out,← Int.neg_tmod,Int.tmod_eq_emod_of_nonneg (by omega)]
 ·have HS:Hid ((pickOf c n:Int)=c % n):=by
   have h3:=Int.emod_nonneg c (show (n:Int)≠0 by omega)
   unfold Hid pickOf;rw [if_neg h];omega
  go_enter Tryz.func29,Tryz.ntmps29
  go_wp2
  all_goals go_ret
  all_goals refine ⟨ret_int ?_,rfl⟩
  all_goals rw [HS.out]
set_option maxRecDepth 100000 in
set_option maxHeartbeats 1000000 in
theorem ksame_any (w:World) (a b:Int) (lv mv:Value) (l m:List ByteArray) (hl:Row w 9 1 lv l.length (strs l)) (hm:Row w 9 1 mv m.length (strs m)) (hb:l.length≤100000000) (hb':m.length≤100000000) :
  Calls Tryz.prog 35 #[.agg #[.int .i64 a,lv],.agg #[.int .i64 b,mv]] w fun e w'=>e=.returned (.bool (sameB a b l m))∧Below w.heap.size w w':=by
 obtain ⟨lo,lcap,rfl,-,-,lc⟩:=hl.shape
 obtain ⟨mo,mcap,rfl,-,-,mc⟩:=hm.shape
 have llt:=fun q hq=>hl.lt (k:=q) hq
 have mlt:=fun q hq=>hm.lt (k:=q) hq
 clear hl hm
 have hB0:Below w.heap.size w ((w.alloc (.cells #[.int .i64 a,.slice lo l.length lcap] 66)).alloc (.cells #[.int .i64 b,.slice mo m.length mcap] 66)):=((Below.refl _ _).alloc (Nat.le_refl _) _).alloc (by simp) _
 by_cases hab:a=b
 ·have hab':(a != b)=false:=by rw [hab];simp
  by_cases hlen:l.length=m.length
  ·have hlen':((l.length:Int) != m.length)=false:=by rw [hlen];simp
   have HL:=hide hlen
   have HAB:=hide hab
   clear hlen hab
   go_enter Tryz.func35,Tryz.ntmps35
   go_wp2_with fail
   go_loopw [5] (fun i wr=>∃ k:Nat,k≤l.length∧i=.int .i64 k∧(∀ j (hj:j<l.length) (hj':j<m.length),j<k→l[j]=m[j])∧Below (w.heap.size+2) ((w.alloc (.cells #[.int .i64 a,.slice lo l.length lcap] 66)).alloc (.cells #[.int .i64 b,.slice mo m.length mcap] 66)) wr) (fun i _=>l.length - (intOf i).toNat)
   case atStart=>exact ⟨0,Nat.zero_le _,rfl,fun j _ _ h=>by omega,Below.refl _ _⟩
   case round=>
    obtain ⟨k,hk,rfl,hal,hbe⟩:=hrel
    have HA:=hide hal
    have hB:Hid (Below w.heap.size w wr):=hB0.trans (hbe.mono (by omega))
    have c1:wr.cell? ⟨w.heap.size,1,none⟩=some (.slice lo l.length lcap):=by rw [hbe.cell (p:=⟨w.heap.size,1,none⟩) (by simp)];simp [go_sem]
    have c2:wr.cell? ⟨w.heap.size+1,1,none⟩=some (.slice mo m.length mcap):=by rw [hbe.cell (p:=⟨w.heap.size+1,1,none⟩) (by simp)];simp [go_sem]
    clear hal
    by_cases hlk:k<l.length
    ·have hmk:k<m.length:=by have:=HL.out;omega
     obtain ⟨g1,rfl,u1⟩:=lc k (by omega)
     obtain ⟨g2,rfl,u2⟩:=mc k (by omega)
     rw [strs_get _ _ hlk] at u1
     rw [strs_get _ _ hmk] at u2
     have v1:=cell_later hB.out u1
     have v2:=cell_later hB.out u2
     clear lc mc u1 u2
     by_cases he:l[k]=m[k]
     ·have he':(l[k].toList == m[k].toList)=true:=str_eq.2 he
      have HA':Hid (∀ j (hj:j<l.length) (hj':j<m.length),j<k+1→l[j]=m[j]):=fun j hj hj' h=>by
       by_cases e:j=k
       ·subst e;exact he
       ·exact HA.out j hj hj' (by omega)
      clear he HA
      generalize l[k]=x at *
      generalize m[k]=y at *
      go_wp2
      go_quiet (fail)
      go_wp2
      exact ⟨⟨k+1,by omega,by go_num,HA'.out,below_drewN hbe _⟩,by simp [intOf];omega⟩
     ·have he':(l[k].toList == m[k].toList)=false:=str_ne.2 he
      have HS:Hid (sameB a b l m=false):=decide_eq_false (fun h=>by obtain ⟨_,rfl⟩:=h;exact he rfl)
      clear he HA
      generalize l[k]=x at *
      generalize m[k]=y at *
      go_wp2
      go_quiet (fail)
      go_wp2
      go_ret
      exact ⟨ret_bool (by rw [HS.out]),below_drewN hB.out _⟩
    ·have HS:Hid (sameB a b l m=true):=decide_eq_true ⟨HAB.out,List.ext_getElem HL.out fun j h1 h2=>HA.out j h1 h2 (by omega)⟩
     clear HA lc mc
     go_wp2
     go_ret
     exact ⟨ret_bool (by rw [HS.out]),hB.out⟩
  ·have hlen':((l.length:Int) != m.length)=true:=by simp;omega
   have HS:Hid (sameB a b l m=false):=decide_eq_false (fun h=>hlen (by rw [h.2]))
   clear hlen hab
   go_enter Tryz.func35,Tryz.ntmps35
   go_wp2_with fail
   go_ret
   exact ⟨ret_bool (by rw [HS.out]),hB0⟩
 ·have hab':(a != b)=true:=by simp;exact hab
  have HS:Hid (sameB a b l m=false):=decide_eq_false (fun h=>hab h.1)
  clear hab
  go_enter Tryz.func35,Tryz.ntmps35
  go_wp2_with fail
  go_ret
  exact ⟨ret_bool (by rw [HS.out]),hB0⟩
def digOf (c:Int):ByteArray:=oneByte (48+(pickOf c 9:Int))
theorem digOf_size (c:Int):(digOf c).size=1:=rfl
set_option maxRecDepth 100000 in
set_option maxHeartbeats 1000000 in
theorem digits_any (c:Int) (w:World) (hc:-9223372036854775808≤c) (hc':c≤9223372036854775807) :
  Calls Tryz.prog 31 #[.int .i64 c] w fun e w'=>e=.returned (.string (digOf c))∧Below w.heap.size w w':=by
 have hp:=kpick_any c 9 w (by omega) (by omega) hc hc'
 have hlt:=pickOf_lt c 9 (by omega)
 have HD:Hid (digOf c=oneByte (48+(pickOf c 9:Int))):=rfl
 generalize pickOf c 9=k at hp hlt HD
 have HP:=hide hp
 clear hp
 have hcv:=conv_one
 go_enter Tryz.func31,Tryz.ntmps31
 go_wp2_with (go_at_call 29;refine HP.out.mono ?_;rintro e w1 ⟨rfl,rfl⟩)
 go_ret
 exact ⟨by rw [HD.out];rfl,(Below.refl _ _).alloc (Nat.le_refl _) _⟩
def keyL:List ByteArray:=[⟨#[99]⟩,⟨#[99,99]⟩,⟨#[114]⟩,⟨#[114,114]⟩,⟨#[115]⟩,⟨#[115,115]⟩]
set_option maxRecDepth 100000 in
set_option maxHeartbeats 1000000 in
theorem keys_any (w:World):Calls Tryz.prog 43 #[] w fun e w'=>e=.returned (.slice (some ⟨w.heap.size,0,none⟩) 6 6)∧w'=w.alloc (.cells (strs keyL).toArray 9):=by
 go_enter Tryz.func43,Tryz.ntmps43
 go_wp2
 go_ret
 exact ⟨rfl,rfl⟩
end Go.Proofs.YtiplgdkpnhamaaaGreatDoor.Tv
namespace Go.Proofs.YtiplgdkpnhamaaaGreatDoor.Tv
open Go.RowKit
def wS:ByteArray:=⟨#[115]⟩
def opIns (e:ByteArray):ROp:=⟨3,wS,e,0⟩
def allOf (n:Nat) (hs:List RTx):List (Int × List ByteArray × Int):=keyL.map fun key=>readAns (some ⟨0,0,visOf n hs,[]⟩) key hs n
end Go.Proofs.YtiplgdkpnhamaaaGreatDoor.Tv
namespace Go.Proofs.YtiplgdkpnhamaaaGreatDoor.Tv
open Go.RowKit
theorem RecD.one {d d':DRep} {u:RTx} (h:RecD d [u] d') (hc:canD d u=true):d'=showD d u:=by
 obtain ⟨zs,rfl,hp,-⟩:=h
 rw [List.perm_singleton.1 hp]
 show stepD d u=_
 unfold stepD
 rw [if_pos hc]
theorem bey_gone {hs:List RTx} {x x':DX} {v:Vec} (h:x.gone=x'.gone):beyondL hs x v=beyondL hs x' v:=by
 unfold beyondL segB
 rw [h]
theorem can_vis {d d':DRep} {u:RTx} (h:d.vis=d'.vis):canD d u=canD d' u:=by unfold canD;rw [h]
def dotI (u:RTx):Int × Int:=(u.rep,u.seq)
theorem bey_one {n:Nat} {hs:List RTx} (hH:HistG n hs) {x:DX} {v:Vec} {u:RTx} (hu:u ∈ hs) (h:(beyondL hs x v).map dotI=[dotI u]):beyondL hs x v=[u]:=by
 obtain ⟨a,e1,e2⟩:=List.map_eq_singleton_iff.1 h
 have ha:a ∈ hs:=bey_mem (x:=x) (v:=v) (by rw [e1];simp)
 have r1:a.rep=u.rep:=congrArg Prod.fst e2
 have r2:a.seq=u.seq:=congrArg Prod.snd e2
 rw [e1,hH.one_ ha hu (by rw [r1]) r2]
def atD (n:Nat) (hs:List RTx):DRep:=⟨hs,visOf n hs,fun _=>none⟩
def wGo (n:Nat) (from_ to_:List RTx) (u:RTx):Bool:=decide ((beyondL from_ newX (vecOf (visOf n to_))).map dotI=[dotI u]) && canD (atD n to_) u
theorem wGo_show {n:Nat} {a b:List RTx} {u:RTx} (h:wGo n a b u=true) (hH:HistG n a) (hu:u ∈ a) {x:DX} (hx:x.gone=newX.gone) {d d':DRep} (hd:d.vis=visOf n b) (hr:RecD d (beyondL a x (vecOf (visOf n b))) d'):d'=showD d u:=by
 unfold wGo at h
 rw [Bool.and_eq_true,decide_eq_true_eq] at h
 rw [bey_gone hx,bey_one hH hu h.1] at hr
 exact hr.one (by rw [can_vis (d':=atD n b) hd];exact h.2)
end Go.Proofs.YtiplgdkpnhamaaaGreatDoor.Tv
namespace Go.Proofs.YtiplgdkpnhamaaaGreatDoor.Tv
open Go.RowKit
theorem Tryz.infoVal:(Tryz.prog.info? 66).map (fun i=>(i.zero,i.size,i.bytes))=some (some (.agg #[.int .i64 0,.slice none 0 0]),2,32):=by kernel_rfl
def allV (n:Nat) (hs:List RTx):List (Int × List ByteArray):=(allOf n hs).map fun r=>(r.1,r.2.1)
theorem allV_len (n:Nat) (hs:List RTx):(allV n hs).length=6:=by simp [allV,allOf,keyL]
def valCells (x:Int × Value):List Value:=[.int .i64 x.1,x.2]
structure ValsX (w:World) (o:Nat→Tag) (tl tm:Tag) (lv:Value) (vs:List (Int × List ByteArray)) (xs:List (Int × Value)):Prop where
 len:xs.length=vs.length
 row:Pc w o tl 66 2 lv vs.length (xs.flatMap valCells)
 at_:∀ k (h1:k<xs.length) (h2:k<vs.length),xs[k].1=vs[k].1∧Pc w o tm 9 1 xs[k].2 vs[k].2.length (strs vs[k].2)
section
variable {w w':World} {o o':Nat→Tag} {tl tm:Tag} {lv:Value} {vs:List (Int × List ByteArray)} {xs:List (Int × Value)}
theorem ValsX.move (h:ValsX w o tl tm lv vs xs) (hm:∀ q,q<w.heap.size→(o q=tl∨o q=tm)→w'.heap[q]? = w.heap[q]?∧o' q=o q):ValsX w' o' tl tm lv vs xs:=
 ⟨h.len,h.row.move2 fun q hq e=>by
  obtain ⟨a,b⟩:=hm q hq (Or.inl e)
  exact ⟨a,b.trans e⟩,fun k h1 h2=>⟨(h.at_ k h1 h2).1,(h.at_ k h1 h2).2.move2 fun q hq e=>by
  obtain ⟨a,b⟩:=hm q hq (Or.inr e)
  exact ⟨a,b.trans e⟩⟩⟩
theorem ValsX.touch {A:Tag→Prop} (h:ValsX w o tl tm lv vs xs) (k:TouchT A w o w' o') (h1:¬ A tl) (h2:¬ A tm):ValsX w' o' tl tm lv vs xs:=
 h.move fun q hq e=>⟨k.touch.block q hq (by rcases e with e | e <;> rw [e] <;> assumption),k.same q hq⟩
theorem ValsX.below (h:ValsX w o tl tm lv vs xs) (hb:Below w.heap.size w w') (f:Nat→Tag):ValsX w' (own2 o w.heap.size f) tl tm lv vs xs:=h.move fun q hq _=>⟨hb.block q hq,own2_low hq⟩
theorem ValsX.nil (w:World) (o:Nat→Tag) (tl tm:Tag):ValsX w o tl tm (.slice none 0 0) [] []:=
 ⟨rfl,⟨World.ownsRow_nil _ _ _ _,fun q hq=>by cases hq⟩,fun k h1=>by simp at h1⟩
theorem ValsX.snoc (h:ValsX w o tl tm lv vs xs) (hne:tm≠tl) {s:Int} {ss:List ByteArray} {l v':Value} (hl:Pc w o tm 9 1 l ss.length (strs ss)) (hrow:w'.ownsRow 0 66 2 v' (vs.length+1) (xs.flatMap valCells ++ [.int .i64 s,l])) (hg:w.grownBy w' lv.ownBlock) (hat:v'.ownBlock=lv.ownBlock∨v'.ownBlock=some w.heap.size):ValsX w' (upd o w.heap.size tl) tl tm v' (vs ++ [(s,ss)]) (xs ++ [(s,l)]):=by
 refine ⟨by simp [h.len],?_,fun k h1 h2=>?_⟩
 ·have e1:(vs ++ [(s,ss)]).length=vs.length+1:=by simp
  have e2:(xs ++ [(s,l)]).flatMap valCells=xs.flatMap valCells ++ [.int .i64 s,l]:=by simp [valCells]
  rw [e1,e2]
  exact h.row.app hrow hat
 ·by_cases c:k<xs.length
  ·have c2:k<vs.length:=by rw [← h.len];exact c
   rw [List.getElem_append_left c,List.getElem_append_left c2]
   exact ⟨(h.at_ k c c2).1,(h.at_ k c c2).2.grew hg h.row.tag hne⟩
  ·have hl':=h.len
   have e:k=xs.length:=by simp at h1;omega
   subst e
   rw [List.getElem_append_right (Nat.le_refl _),List.getElem_append_right (by omega)]
   simp only [Nat.sub_self,List.getElem_cons_zero,List.getElem_singleton]
   exact ⟨trivial,hl.grew hg h.row.tag hne⟩
end
end Go.Proofs.YtiplgdkpnhamaaaGreatDoor.Tv
namespace Go.Proofs.YtiplgdkpnhamaaaGreatDoor.Tv
open Go.RowKit
structure AllAt (xq:DX) (w:World) (o:Nat→Tag) (t tl tm:Tag) (b n i:Nat) (d:DRep) (k:Nat) (lv:Value) (wr:World) (oo:Nat→Tag):Prop where
 pr:PR xq wr oo t b n i (beginD d)
 tt:TouchT (·=t) w o wr oo
 ex:∃ xs,ValsX wr oo tl tm lv ((allV n d.hs).take k) xs
 new:∀ q,lv.ownBlock=some q→w.heap.size≤q
def AllEnd (xq:DX) (w:World) (o:Nat→Tag) (t tl tm:Tag) (b n i:Nat) (d:DRep) (e:Ending) (w':World):Prop:=
 ∃ lv o',e=.returned (.tuple #[lv,.bool true])∧PR xq w' o' t b n i d∧TouchT (·=t) w o w' o'∧∃ xs,ValsX w' o' tl tm lv (allV n d.hs) xs
theorem begin_abort {d:DRep} (hf:freeSlot d.opn<6) (hn:d.opn (freeSlot d.opn)=none):abortD (beginD d) (freeSlot d.opn:Nat)=d:=by
 unfold abortD beginD
 rw [if_pos hf]
 have e:opnAt { d with opn:=setSlot d.opn (freeSlot d.opn) (some ⟨0,0,d.vis,[]⟩) } ((freeSlot d.opn:Nat):Int)=some ⟨0,0,d.vis,[]⟩:=by
  unfold opnAt
  rw [if_pos (by omega),Int.toNat_natCast]
  exact setSlot_same _ _ _
 rw [e]
 simp only [Option.isSome_some,if_true,endD,Int.toNat_natCast]
 have:setSlot (setSlot d.opn (freeSlot d.opn) (some ⟨0,0,d.vis,[]⟩)) (freeSlot d.opn) none=d.opn:=by
  funext j
  by_cases c:j=freeSlot d.opn
  ·subst c;rw [setSlot_same,hn]
  ·rw [setSlot_other c,setSlot_other c]
 rw [this]
theorem free_none {d:DRep} (hf:freeSlot d.opn<6):d.opn (freeSlot d.opn)=none:=by
 have h:freeSlot d.opn<(List.range 6).length:=by simpa using hf
 have h2:(d.opn ((List.range 6)[freeSlot d.opn]'h)).isNone=true:=List.findIdx_getElem (p:=fun k=>(d.opn k).isNone) (w:=h)
 rw [List.getElem_range] at h2
 exact Option.isNone_iff_eq_none.1 h2
theorem AllAt.next {xq:DX} {w wr W6 w6:World} {o oo:Nat→Tag} {t tl tm:Tag} {b n i k:Nat} {d:DRep} {lv l v6:Value} {xs:List (Int × Value)} {sm:Int} {ss:List ByteArray} (h:AllAt xq w o t tl tm b n i d k lv wr oo) (hv:ValsX wr oo tl tm lv ((allV n d.hs).take k) xs) (h1:tl≠t) (h3:tm≠tl) (hk:(allV n d.hs)[k]? = some (sm,ss)) (hB:Below wr.heap.size wr W6) (hl:W6.ownsRow wr.heap.size 9 1 l ss.length (strs ss)) (hrow:w6.ownsRow 0 66 2 v6 (((allV n d.hs).take k).length+1) (xs.flatMap valCells ++ [.int .i64 sm,l])) (hg:W6.grownBy w6 lv.ownBlock) (hat:v6.ownBlock=lv.ownBlock∨v6.ownBlock=some W6.heap.size):∃ o6,AllAt xq w o t tl tm b n i d (k+1) v6 w6 o6:=by
 have hv5:=hv.below hB (fun _=>tm)
 have hl5:Pc W6 (own2 oo wr.heap.size fun _=>tm) tm 9 1 l ss.length (strs ss):=Pc.new hl (fun _ _=>rfl)
 have hs:=hv5.snoc h3 hl5 hrow hg hat
 have hsz:=hB.size
 have hsw:=h.tt.touch.size
 obtain ⟨hkl,hke⟩:=List.getElem?_eq_some_iff.1 hk
 refine ⟨upd (own2 oo wr.heap.size fun _=>tm) W6.heap.size tl,h.pr.move fun q hq e=>⟨?_,?_⟩,⟨(h.tt.touch.trans (Touch.ofBelow hB)).grown hg fun q hq=>Or.inr (h.new q hq),fun q hq=>?_⟩,⟨_,by rw [List.take_succ_eq_append_getElem hkl,hke];exact hs⟩,fun q hq=>?_⟩
 ·rw [hg.block q (by omega) (fun c=>h1 (by rw [← hv.row.tag q c.symm,e])),hB.block q hq]
 ·rw [upd_other (by omega),own2_low hq,e]
 ·rw [upd_other (by omega),own2_low (by omega)];exact h.tt.same q hq
 ·rcases hat with a | a
  ·exact h.new q (by rw [← a];exact hq)
  ·rw [a] at hq;cases hq;omega
theorem key_ok {key:ByteArray} (h:key ∈ keyL) (t:RTx) (ts:List RTx) (n:Nat):(readAns (some t) key ts n).2.2=0∧key.size≤maxLen:=by
 have h1:kindOf ⟨#[99]⟩=99:=by decide
 have h2:kindOf ⟨#[99,99]⟩=99:=by decide
 have h3:kindOf ⟨#[114]⟩=114:=by decide
 have h4:kindOf ⟨#[114,114]⟩=114:=by decide
 have h5:kindOf ⟨#[115]⟩=115:=by decide
 have h6:kindOf ⟨#[115,115]⟩=115:=by decide
 have hm:∀ m:Nat,m≤2→m≤maxLen:=fun m hm=>by unfold maxLen;omega
 simp only [keyL,List.mem_cons,List.not_mem_nil,or_false] at h
 rcases h with rfl | rfl | rfl | rfl | rfl | rfl
 ·exact ⟨by simp [readAns,h1],hm 1 (by omega)⟩
 ·exact ⟨by simp [readAns,h2],hm 2 (by omega)⟩
 ·exact ⟨by simp [readAns,h3],hm 1 (by omega)⟩
 ·exact ⟨by simp [readAns,h4],hm 2 (by omega)⟩
 ·exact ⟨by simp [readAns,h5],hm 1 (by omega)⟩
 ·exact ⟨by simp [readAns,h6],hm 2 (by omega)⟩
theorem begin_opn {d:DRep} (hf:freeSlot d.opn<6):opnAt (beginD d) (freeSlot d.opn:Nat)=some ⟨0,0,d.vis,[]⟩∧(beginD d).hs=d.hs:=by
 unfold beginD
 rw [if_pos hf]
 refine ⟨?_,rfl⟩
 unfold opnAt
 rw [if_pos (by omega),Int.toNat_natCast]
 exact setSlot_same _ _ _
end Go.Proofs.YtiplgdkpnhamaaaGreatDoor.Tv
namespace Go.Proofs.YtiplgdkpnhamaaaGreatDoor.Tv
open Go.RowKit
set_option maxRecDepth 100000 in
set_option maxHeartbeats 4000000 in
theorem all_any {xq:DX} {w:World} {o:Nat→Tag} {t:Tag} (tl tm:Tag) {b n i:Nat} {d:DRep} (h:PR xq w o t b n i d) (hR:Room d) (hf:freeSlot d.opn<6) (h1:tl≠t) (h2:tm≠t) (h3:tm≠tl) :
  Calls Tryz.prog 24 #[bptr b] w (AllEnd xq w o t tl tm b n i d):=by
 obtain ⟨i0,hi,hz0,hz1,hz2⟩:=info_parts Tryz.infoVal
 have HI:=hide (⟨hi,hz0,hz1,hz2⟩:_∧_∧_∧_)
 clear hi hz0 hz1 hz2
 have P:=papi (fun _=>xq)
 obtain ⟨s,hs⟩:∃ s,freeSlot d.opn=s:=⟨_,rfl⟩
 have HB:Hid (Calls Tryz.prog 27 #[ptr b] w fun e w'=>e=.returned (.tuple #[.int .i64 s,.int .i64 0])∧∃ o',Hid (PR xq w' o' t b n i (beginD d)∧TouchT (·=t) w o w' o')):=by
  refine (P.begins w o t b n i d h hR).mono ?_
  rintro e w' ⟨rfl,o',a,c⟩
  refine ⟨?_,o',a,c⟩
  unfold beginAns
  rw [if_pos hf,hs]
 have hs6:s<6:=by omega
 have HV:Hid (d.vis=visOf n d.hs):=h.hist.2.1
 have HF:=hide (⟨hf,hs,hR⟩:_∧_∧_)
 clear h hR hf hs P
 go_enter Tryz.func24,Tryz.ntmps24
 go_wp2_with (go_at_call 27;refine HB.out.mono ?_;rintro e w1 ⟨rfl,o1,hB1⟩)
 go_loopw [6,7,8] (fun kv lv iv wr=>∃ (k:Nat) (oo:Nat→Tag),k≤6∧iv=.int .i64 k∧kv=.bool true∧Hid (AllAt xq w o t tl tm b n i d k lv wr oo)) (fun _ _ iv _=>6 - (intOf iv).toNat)
 case atStart=>exact ⟨0,o1,by omega,rfl,rfl,⟨hB1.out.1,hB1.out.2,⟨[],ValsX.nil _ _ _ _⟩,fun q hq=>by cases hq⟩⟩
 case round=>
  obtain ⟨k,oo,hk6,rfl,rfl,HA⟩:=hrel
  by_cases hk:k<6
  ·have hkl:k<keyL.length:=by simpa [keyL] using hk
   obtain ⟨key,hkey⟩:∃ key,keyL[k]=key:=⟨_,rfl⟩
   obtain ⟨hf,hs,hR⟩:=HF.out
   have hvis:=HV.out
   obtain ⟨hko,hks⟩:=key_ok (key:=key) (hkey ▸ List.getElem_mem hkl) ⟨0,0,visOf n d.hs,[]⟩ d.hs n
   obtain ⟨⟨sm,ss,er⟩,hans⟩:∃ r,readAns (some ⟨0,0,visOf n d.hs,[]⟩) key d.hs n=r:=⟨_,rfl⟩
   rw [hans] at hko
   have hko:er=0:=hko
   subst hko
   have HAV:Hid ((allV n d.hs)[k]? = some (sm,ss)):=by
    unfold Hid allV allOf
    rw [List.getElem?_map,List.getElem?_map,List.getElem?_eq_getElem hkl,hkey]
    simp only [Option.map_some]
    rw [hans]
   have HKk:Hid (∀ W,Calls Tryz.prog 43 #[] W fun e w'=>∃ g,e=.returned (.slice (some ⟨g,0,none⟩) 6 6)∧w'.cell? ⟨g,k,none⟩=some (.string key)∧g<w'.heap.size∧Hid (Below W.heap.size W w')):=fun W=>by
    refine (keys_any W).mono ?_
    rintro e w' ⟨rfl,rfl⟩
    have bk:Blk (W.alloc (.cells (strs keyL).toArray 9)) W.heap.size (strs keyL) 9:=heap_alloc_new W _
    exact ⟨_,rfl,by rw [bk.cell k];unfold strs;rw [List.getElem?_map,List.getElem?_eq_getElem hkl,hkey];rfl,bk.lt,(Below.refl _ _).alloc (Nat.le_refl _) _⟩
   have HRd:Hid (∀ W,Below wr.heap.size wr W→Calls Tryz.prog 33 #[bptr b,.int .i64 s,.string key] W fun e w'=>∃ al ml cl,e=.returned (valAgg sm (.slice al ml cl) 0)∧Hid (w'.ownsRow wr.heap.size 9 1 (.slice al ml cl) ss.length (strs ss)∧Below wr.heap.size wr w')):=fun W hB=>by
    obtain ⟨p,-,hp⟩:=HA.out.pr
    obtain ⟨ho,hh⟩:=begin_opn hf
    rw [hs,hvis] at ho
    have hp':RepIn xq W p b n i (beginD d):=hp.move fun q hq _=>⟨hB.block q hq,rfl⟩
    refine (read_call hp' (by rw [hh];exact hR.hist) s key hks).mono ?_
    rintro e w' ⟨l,rfl,h1,h2⟩
    rw [ho,hh,hans] at h1 ⊢
    obtain ⟨al,cl,rfl,-⟩:=Row.shape (ownsRow_low h1 (Nat.zero_le _))
    exact ⟨al,_,cl,rfl,ownsRow_low h1 hB.size,hB.trans (h2.mono hB.size)⟩
   obtain ⟨xs,hv⟩:=HA.out.ex
   have hlen:((allV n d.hs).take k).length=k:=by rw [List.length_take,allV_len];omega
   obtain ⟨ao,cp,elv,-⟩:=hv.row.row.shape
   rw [hlen] at elv
   subst elv
   have HX:=hide (⟨hv,hlen⟩:_∧_)
   clear hv hlen hkey hkl hans hks hvis hf hs hR
   go_upto_region 7 with (go_at_call 43;refine (HKk.out _).mono ?_;rintro e w1' ⟨g1,rfl,-,-,hB1'⟩)
   go_upto_region 8 with (first | (go_at_call 43;refine (HKk.out _).mono ?_;rintro e w2 ⟨g2,rfl,z2,l2,hB2⟩) | (go_at_call 33;refine (HRd.out _ (hB1'.out.trans (hB2.out.mono hB1'.out.size))).mono ?_;rintro e w4 ⟨al,ml,cl,rfl,hB4⟩))
   have b5:Blk (w4.alloc (.cells #[.int .i64 sm,.slice al ml cl] 66)) w4.heap.size [.int .i64 sm,.slice al ml cl] 66:=heap_alloc_new w4 _
   have hB5:Below wr.heap.size wr (w4.alloc (.cells #[.int .i64 sm,.slice al ml cl] 66)):=hB4.out.2.alloc hB4.out.2.size _
   have hl5':(w4.alloc (.cells #[.int .i64 sm,.slice al ml cl] 66)).ownsRow wr.heap.size 9 1 (.slice al ml cl) ss.length (strs ss):=World.ownsRow.alloc hB4.out.1 _
   generalize w4.alloc (.cells #[.int .i64 sm,.slice al ml cl] 66)=W5 at *
   have hrow5:W5.ownsRow 0 66 2 (.slice ao k cp) k (xs.flatMap valCells):=by
    have:=ownsRow_below HX.out.1.row.row hB5
    rwa [HX.out.2] at this
   have z0:=b5.cell 0
   have z1:=b5.cell 1
   have hl5:=b5.lt
   have HR5:=hide (⟨hrow5,hB5,hl5'⟩:_∧_∧_)
   clear hrow5 hB5 hl5'
   go_wp2_with (at_builtin;refine wpList_append_own_at _ rfl _ _ 48 rfl 0 66 i0 (.agg #[.int .i64 0,.slice none 0 0]) 2 32 Tryz.underlying48 HI.out.1 HI.out.2.1 HI.out.2.2.1 HI.out.2.2.2 rfl (by decide) _ _ _ rfl (World.ownsRow.alloc HR5.out.1 _) ⟨W5.heap.size,0,none⟩ 1 1 [.int .i64 sm,.slice al ml cl] rfl rfl (news_at (heap_alloc_new _ _)) (by intro u hu;simp at hu;rcases hu with rfl | rfl <;> rfl) (by unfold maxLen;omega) (by omega) (Nat.zero_le _) ?_;intro v6 w6 hown6 hgrow6 hnil6 hat6)
   obtain ⟨o6,h6⟩:=HA.out.next HX.out.1 h1 h3 HAV.out (HR5.out.2.1.alloc HR5.out.2.1.size _) (World.ownsRow.alloc HR5.out.2.2 _) (by rw [HX.out.2];exact hown6) hgrow6 hat6
   exact ⟨⟨k+1,o6,by omega,by simp,rfl,h6⟩,by simp [intOf];omega⟩
  ·have hk':k=6:=by omega
   subst hk'
   obtain ⟨xs,hv⟩:=HA.out.ex
   have htk:(allV n d.hs).take 6=allV n d.hs:=List.take_of_length_le (by rw [allV_len];exact Nat.le_refl _)
   rw [htk] at hv
   obtain ⟨ao,cp,elv,-⟩:=hv.row.row.shape
   rw [allV_len] at elv
   subst elv
   obtain ⟨hf,hs,hR⟩:=HF.out
   have HAb:Hid (∀ W,Below wr.heap.size wr W→Calls Tryz.prog 34 #[ptr b,.int .i64 s] W fun e w'=>e=.returned (.int .i64 0)∧Hid (AllEnd xq w o t tl tm b n i d (.returned (.tuple #[.slice ao 6 cp,.bool true])) w')):=fun W hB=>by
    have hRb:Room (beginD d):=by unfold beginD;rw [if_pos hf];exact ⟨hR.hist,hR.vis⟩
    refine ((papi (fun _=>xq)).abort W oo t b n i (beginD d) s (HA.out.pr.move fun q hq e=>⟨hB.block q hq,e⟩) hRb).mono ?_
    rintro e w' ⟨rfl,o',a,c⟩
    have ea:abortAns (beginD d) s=.int .i64 0:=by
     unfold abortAns
     rw [← hs,(begin_opn hf).1];rfl
    have ed:abortD (beginD d) s=d:=by rw [← hs];exact begin_abort hf (free_none hf)
    rw [ed] at a
    refine ⟨by rw [ea],_,o',rfl,a,(HA.out.tt.below hB).trans c,xs,?_⟩
    exact (hv.move (w':=W) (o':=oo) fun q hq _=>⟨hB.block q hq,rfl⟩).touch c h1 h2
   have HKk:Hid (∀ W,Calls Tryz.prog 43 #[] W fun e w'=>∃ g,e=.returned (.slice (some ⟨g,0,none⟩) 6 6)∧Hid (Below W.heap.size W w')):=fun W=>by
    refine (keys_any W).mono ?_
    rintro e w' ⟨rfl,rfl⟩
    exact ⟨_,rfl,(Below.refl _ _).alloc (Nat.le_refl _) _⟩
   clear hv htk hf hs hR HA
   go_wp2_with (first | (go_at_call 43;refine (HKk.out _).mono ?_;rintro e w1' ⟨g1,rfl,hB1'⟩) | (go_at_call 34;refine (HAb.out _ hB1'.out).mono ?_;rintro e w4 ⟨rfl,hE⟩))
   go_ret2
   exact hE.out
end Go.Proofs.YtiplgdkpnhamaaaGreatDoor.Tv
namespace Go.Proofs.YtiplgdkpnhamaaaGreatDoor.Tv
open Go.RowKit
theorem ValsX.cells {w:World} {o:Nat→Tag} {tl tm:Tag} {lv:Value} {vs:List (Int × List ByteArray)} {xs:List (Int × Value)} (h:ValsX w o tl tm lv vs xs) (hn:vs.length=6):∃ g cp,lv=.slice (some ⟨g,0,none⟩) 6 cp∧∀ k (hk:k<vs.length),∃ al cl,w.cell? ⟨g,k * 2,none⟩=some (.int .i64 vs[k].1)∧w.cell? ⟨g,k * 2+1,none⟩=some (.slice al vs[k].2.length cl)∧Row w 9 1 (.slice al vs[k].2.length cl) vs[k].2.length (strs vs[k].2):=by
 obtain ⟨ao,cp,e,-,-,hc⟩:=h.row.row.shape
 rw [hn] at e hc
 obtain ⟨g,eg,-⟩:=hc 0 (by omega)
 subst eg
 refine ⟨g,cp,e,fun k hk=>?_⟩
 have hkx:k<xs.length:=by rw [h.len];exact hk
 obtain ⟨h1,h2⟩:=h.at_ k hkx hk
 obtain ⟨al,cl,e2,-⟩:=h2.row.shape
 obtain ⟨g1,eg1,c1⟩:=hc (k * 2) (by omega)
 obtain ⟨g2,eg2,c2⟩:=hc (k * 2+1) (by omega)
 cases eg1
 cases eg2
 have f1:=flat_get valCells 2 (fun _=>rfl) xs k 0 hkx (by omega)
 have f2:=flat_get valCells 2 (fun _=>rfl) xs k 1 hkx (by omega)
 rw [Nat.add_zero] at f1
 refine ⟨al,cl,?_,?_,?_⟩
 ·rw [c1,f1,← h1];rfl
 ·rw [c2,f2,← e2];rfl
 ·rw [← e2];exact h2.row
end Go.Proofs.YtiplgdkpnhamaaaGreatDoor.Tv
namespace Go.Proofs.YtiplgdkpnhamaaaGreatDoor.Tv
open Go.RowKit
structure MadeAt (n j:Nat) (w:World) (o:Nat→Tag) (T:Nat→Tag) (B:Nat→Nat):Prop where
 dif:∀ i k,T i=T k→i=k
 pr:∀ i,i<j→PR newX w o (T i) (B i) n i (newD n)
 tabs:Tabs w
 low:∀ q,q<6→∀ i,o q≠T i
theorem MadeAt.move {n j:Nat} {w w':World} {o o':Nat→Tag} {T:Nat→Tag} {B:Nat→Nat} (h:MadeAt n j w o T B) (hm:∀ q,q<w.heap.size→(q<6∨∃ i,o q=T i)→w'.heap[q]? = w.heap[q]?∧o' q=o q):MadeAt n j w' o' T B:=
 ⟨h.dif,fun i hi=>(h.pr i hi).move fun q hq e=>by
  obtain ⟨a,b⟩:=hm q hq (Or.inr ⟨i,e⟩)
  exact ⟨a,b.trans e⟩,h.tabs.kept fun q hq=>(hm q (by have:=h.tabs.room;omega) (Or.inl hq)).1,fun q hq i=>by
  rw [(hm q (by have:=h.tabs.room;omega) (Or.inl hq)).2];exact h.low q hq i⟩
theorem MadeAt.next {n j:Nat} {w w':World} {o:Nat→Tag} {T:Nat→Tag} {B:Nat→Nat} {b:Nat} (h:MadeAt n j w o T B) (hB:Below w.heap.size w w') (hp:PR newX w' (own2 o w.heap.size fun _=>T j) (T j) b n j (newD n)):MadeAt n (j+1) w' (own2 o w.heap.size fun _=>T j) T (put B j b):=by
 have h':MadeAt n j w' (own2 o w.heap.size fun _=>T j) T B:=h.move fun q hq _=>⟨hB.block q hq,own2_low hq⟩
 refine ⟨h'.dif,fun i hi=>?_,h'.tabs,h'.low⟩
 by_cases c:i=j
 ·subst c;rw [put_same];exact hp
 ·rw [put_other c];exact h'.pr i (by omega)
theorem MadeAt.net {n:Nat} {w:World} {o:Nat→Tag} {T:Nat→Tag} {B:Nat→Nat} (h:MadeAt n n w o T B) (hn:n≤5):Net n w o T B [] (fun _=>newD n) (fun _=>newX):=
 ⟨⟨hn,fun j hj=>by simp at hj⟩,by simp,fun i j _ _ e=>h.dif i j e,fun i hi=>h.pr i hi,fun i _ u hu=>hu,fun i _=>rfl,h.tabs,fun q hq i _=>h.low q hq i,fun i k r _ _=>Nat.zero_le _⟩
theorem Net.beside {n:Nat} {w w':World} {o o':Nat→Tag} {T:Nat→Tag} {B:Nat→Nat} {ts:List RTx} {D:Nat→DRep} {X:Nat→DX} {A:Tag→Prop} (h:Net n w o T B ts D X) (k:TouchT A w o w' o') (h1:∀ i,i<n→¬ A (T i)) (h2:∀ q,q<6→¬ A (o q)):Net n w' o' T B ts D X:=
 h.move fun q hq e=>⟨k.touch.block q hq (by
  rcases e with e | ⟨i,hi,e⟩
  ·exact h2 q e
  ·rw [e];exact h1 i hi),k.same q hq⟩
end Go.Proofs.YtiplgdkpnhamaaaGreatDoor.Tv
namespace Go.Proofs.YtiplgdkpnhamaaaGreatDoor.Tv
open Go.RowKit
set_option maxRecDepth 100000 in
set_option maxHeartbeats 4000000 in
theorem alike_any (w:World) {o o':Nat→Tag} {tl tm tl' tm':Tag} {lv mv:Value} {vs ws:List (Int × List ByteArray)} {xs ys:List (Int × Value)} (ha:ValsX w o tl tm lv vs xs) (hb:ValsX w o' tl' tm' mv ws ys) (hn:vs.length=6) (hm:ws.length=6) (hbv:∀ x,x ∈ vs→x.2.length≤100000000) (hbw:∀ x,x ∈ ws→x.2.length≤100000000) :
  Calls Tryz.prog 25 #[lv,mv] w fun e w'=>e=.returned (.bool (decide (vs=ws)))∧Below w.heap.size w w':=by
 obtain ⟨g,cp,rfl,hc⟩:=ha.cells hn
 obtain ⟨g',cp',rfl,hc'⟩:=hb.cells hm
 have HC:=hide (⟨hc,hc',hn,hm,hbv,hbw⟩:_∧_∧_∧_∧_∧_)
 clear hc hc' hn hm hbv hbw ha hb
 go_enter Tryz.func25,Tryz.ntmps25
 go_wp2_with fail
 go_loopw [5] (fun iv wr=>∃ k:Nat,k≤6∧iv=.int .i64 k∧Hid (Below w.heap.size w wr∧vs.take k=ws.take k)) (fun iv _=>6 - (intOf iv).toNat)
 case atStart=>exact ⟨0,by omega,rfl,Below.refl _ _,by simp⟩
 case round=>
  obtain ⟨k,hk6,rfl,HB⟩:=hrel
  by_cases hk:k<6
  ·obtain ⟨hc,hc',hn,hm,hbv,hbw⟩:=HC.out
   have hkv:k<vs.length:=by omega
   have hkw:k<ws.length:=by omega
   obtain ⟨al,cl,c1,c2,r1⟩:=hc k hkv
   obtain ⟨al',cl',c1',c2',r1'⟩:=hc' k hkw
   have y1:=Bel.cell (cell_later HB.out.1 c1)
   have y2:=Bel.cell (cell_later HB.out.1 c2)
   have y3:=Bel.cell (cell_later HB.out.1 c1')
   have y4:=Bel.cell (cell_later HB.out.1 c2')
   have hq1:=hbv _ (List.getElem_mem hkv)
   have hq2:=hbw _ (List.getElem_mem hkw)
   have hsm:∀ f:Fam (Bel wr),Calls Tryz.prog 35 #[.agg #[.int .i64 vs[k].1,.slice al vs[k].2.length cl],.agg #[.int .i64 ws[k].1,.slice al' ws[k].2.length cl']] f.w fun e w''=>e=.returned (.bool (sameB vs[k].1 ws[k].1 vs[k].2 ws[k].2))∧∃ g:Fam (Bel wr),w''=g.w:=fun f=>Bel.call f (ksame_any f.w _ _ _ _ _ _ (ownsRow_below r1 (HB.out.1.trans (f.ok.mono HB.out.1.size))) (ownsRow_below r1' (HB.out.1.trans (f.ok.mono HB.out.1.size))) hq1 hq2)
   have hbs:sameB vs[k].1 ws[k].1 vs[k].2 ws[k].2=decide (vs[k]=ws[k]):=by
    unfold sameB
    rw [Bool.eq_iff_iff,decide_eq_true_eq,decide_eq_true_eq]
    exact ⟨fun ⟨a,b⟩=>Prod.ext a b,fun e=>by rw [e];exact ⟨rfl,rfl⟩⟩
   rw [hbs] at hsm
   have HE:Hid (vs[k]=ws[k]→vs.take (k+1)=ws.take (k+1)):=fun e=>by
    rw [List.take_succ_eq_append_getElem hkv,List.take_succ_eq_append_getElem hkw,HB.out.2,e]
   have HN:Hid (vs[k]≠ws[k]→vs≠ws):=fun e c=>e (by subst c;rfl)
   generalize vs[k]=a at *
   generalize ws[k]=a' at *
   obtain ⟨a1,a2⟩:=a
   obtain ⟨b1,b2⟩:=a'
   simp only at y1 y2 y3 y4 hsm hq1 hq2
   generalize a2.length=m1 at *
   generalize b2.length=m2 at *
   obtain ⟨q,hq⟩:∃ q,decide ((a1,a2)=(b1,b2))=q:=⟨_,rfl⟩
   rw [hq] at hsm
   have HSM:=hide hsm
   have HQ:=hide hq
   clear hsm hq hc hc' hn hm hbv hbw c1 c2 c1' c2' r1 r1' hbs hkv hkw HC
   go_upto_region 4 with (fail)
   refine region_fam (Bel wr) (by kernel_rfl) (by kernel_rfl) (Below.refl _ _).drew ?_
   repeat (go_big_quiet_step (first | (go_at_call 35;exact HSM.out _)))
   refine wpQuiet_nil ?_
   intro _ hw'
   obtain ⟨fq,rfl⟩:=hw'
   obtain ⟨W1,hB1⟩:=fq
   try dsimp only
   have hB2:Below w.heap.size w W1:=HB.out.1.trans (hB1.mono HB.out.1.size)
   have HB2:=hide hB2
   clear hB1 hB2
   cases q with
   | true=>
    have he:=HE.out (of_decide_eq_true HQ.out)
    have HE2:=hide he
    clear he
    go_wp2_with fail
    exact ⟨⟨k+1,by omega,by simp,HB2.out,HE2.out⟩,by simp [intOf];omega⟩
   | false=>
    have hne:=HN.out (of_decide_eq_false HQ.out)
    have HNE:Hid (decide (vs=ws)=false):=decide_eq_false hne
    clear hne
    go_wp2_with fail
    go_ret
    exact ⟨by rw [HNE.out];rfl,HB2.out⟩
  ·have hk':k=6:=by omega
   subst hk'
   obtain ⟨-,-,hn,hm,-,-⟩:=HC.out
   have HE2:Hid (decide (vs=ws)=true):=decide_eq_true (by
    have:=HB.out.2
    rwa [List.take_of_length_le (by omega),List.take_of_length_le (by omega)] at this)
   clear hn hm HC
   go_wp2_with fail
   go_ret
   exact ⟨by rw [HE2.out];rfl,HB.out.1⟩
end Go.Proofs.YtiplgdkpnhamaaaGreatDoor.Tv
