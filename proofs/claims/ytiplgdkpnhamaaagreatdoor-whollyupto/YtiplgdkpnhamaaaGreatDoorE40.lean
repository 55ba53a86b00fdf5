/- The texts ZK1, ZK2, ZK7, ZK3, ZK4, ZK5, ZK10, joined. -/
import Derived.Test.YtiplgdkpnhamaaaGreatDoorE23
import Derived.Test.YtiplgdkpnhamaaaGreatDoorE39
import Derived.Test.YtiplgdkpnhamaaaGreatDoorE37
import Derived.Test.YtiplgdkpnhamaaaGreatDoorE25
namespace Go.Proofs.YtiplgdkpnhamaaaGreatDoor.Tv
open Go.RowKit
structure DX where
 kn:Nat→Vec
 gone:Nat→Nat
def newX:DX:=⟨fun _=>noVec,fun _=>0⟩
def trOf (u:RTx):Tr:=⟨u.rep.toNat,u.seq,vecOf u.saw,ownOf u.ops⟩
def heldOf (hs:List RTx) (r g:Nat):List RTx:=(hs.filter fun u=>decide (u.rep=(r:Int))).drop g
structure HeldP (w:World) (p:Nat→Own) (r:Nat) (v:Value) (l:List RTx):Prop where
 ex:∃ ys:List (Tr × Nat),ys.map Prod.fst=l.map trOf∧Qc w p (.held r) 139 8 v ys.length (ys.flatMap trCells)∧∀ y,y ∈ ys→p y.2=.held 5∧TrIn w y
theorem HeldP.move2 {w w':World} {p p':Nat→Own} {r:Nat} {v:Value} {l:List RTx} (h:HeldP w p r v l) (hm:∀ q,q<w.heap.size→(p q=.held r∨p q=.held 5)→w'.heap[q]? = w.heap[q]?∧p' q=p q):HeldP w' p' r v l:=by
 obtain ⟨ys,h1,h2,h3⟩:=h.ex
 refine ⟨ys,h1,h2.move2 fun q hq e=>?_,fun y hy=>?_⟩
 ·have:=hm q hq (Or.inl e);exact ⟨this.1,this.2.trans e⟩
 ·obtain ⟨a,b⟩:=h3 y hy
  have:=hm y.2 b.lt (Or.inr a)
  exact ⟨this.2.trans a,MapIn.move b this.1⟩
theorem HeldP.touch {A:Own→Prop} {w w':World} {p p':Nat→Own} {r:Nat} {v:Value} {l:List RTx} (h:HeldP w p r v l) (k:QT A w p w' p') (h1:¬ A (.held r)) (h2:¬ A (.held 5)):HeldP w' p' r v l:=
 h.move2 fun q hq e=>⟨k.touch.block q hq (by rcases e with e | e <;> rw [e] <;> assumption),k.same q hq⟩
structure RepP (xq:DX) (w:World) (p:Nat→Own) (b n i:Nat) (d:DRep) (sb:Nat) (st:St) (sl tbs mbs:Nat→Nat) (hv kn:List Value):Prop where
 blk:Qb w p .rep b (repCells i n sb hv kn (opvs d tbs)) 114
 hlen:hv.length=5
 klen:kn.length=25
 sto:StIn w p sb (48 * d.hs.length) st
 ok:RepOk n i d st sl
 held:∀ r (h:r<hv.length),HeldP w p r hv[r] (heldOf d.hs r (xq.gone r))
 tx:∀ k t,d.opn k=some t→TxP w p k (sl k) (tbs k) (mbs k) t
 snp:∀ c,c ∈ st.snaps.map Snap.blk→∃ j,(d.opn j).isSome∧c=sl j
 known:kn=latCells xq.kn
 gle:∀ r,xq.gone r≤cntR d.hs r
def RepIn (xq:DX) (w:World) (p:Nat→Own) (b n i:Nat) (d:DRep):Prop:=∃ sb st sl tbs mbs hv kn,RepP xq w p b n i d sb st sl tbs mbs hv kn
section
variable {xq:DX} {w w':World} {p p':Nat→Own} {b n i k:Nat} {d:DRep} {sb:Nat} {st:St} {sl tbs mbs:Nat→Nat} {hv kn:List Value} {t:RTx} {nb tb mb:Nat}
theorem RepP.move (h:RepP xq w p b n i d sb st sl tbs mbs hv kn) (hm:∀ q,q<w.heap.size→p q≠.other→w'.heap[q]? = w.heap[q]?∧p' q=p q):RepP xq w' p' b n i d sb st sl tbs mbs hv kn:=by
 have f:∀ u,u≠Own.other→∀ q,q<w.heap.size→p q=u→w'.heap[q]? = w.heap[q]?∧p' q=u:=fun u hu q hq e=>by
  have:=hm q hq (by rw [e];exact hu)
  exact ⟨this.1,this.2.trans e⟩
 obtain ⟨vb,cb,eb,ov,cv,ev,kv,hs⟩:=h.sto
 exact ⟨h.blk.move2 (f _ (by simp)),h.hlen,h.klen,⟨vb,cb,eb,ov,cv,ev,kv,hs.move fun q hq e=>hm q hq (fun c=>by rw [c] at e;exact e)⟩,h.ok,fun r hr=>(h.held r hr).move2 fun q hq e=>hm q hq (by rcases e with e | e <;> rw [e] <;> simp),fun k t e=>(h.tx k t e).move hm,h.snp,h.known,h.gle⟩
theorem RepIn.move (h:RepIn xq w p b n i d) (hm:∀ q,q<w.heap.size→p q≠.other→w'.heap[q]? = w.heap[q]?∧p' q=p q):RepIn xq w' p' b n i d:=by
 obtain ⟨sb,st,sl,tbs,mbs,hv,kn,h⟩:=h
 exact ⟨sb,st,sl,tbs,mbs,hv,kn,h.move hm⟩
theorem RepP.below (h:RepP xq w p b n i d sb st sl tbs mbs hv kn) (hb:Below w.heap.size w w'):RepP xq w' p b n i d sb st sl tbs mbs hv kn:=h.move fun q hq _=>⟨hb.block q hq,rfl⟩
theorem RepP.opn6 (h:RepP xq w p b n i d sb st sl tbs mbs hv kn) (e:d.opn k=some t):k<6:=by
 by_cases c:k<6
 ·exact c
 ·rw [h.ok.six k (by omega)] at e;cases e
theorem RepP.snaps6 (h:RepP xq w p b n i d sb st sl tbs mbs hv kn):st.snaps.length≤6:=by
 have a:=nodup_len (l:=st.snaps.map Snap.blk) (m:=(List.range 6).map sl) h.ok.ginv.wf.blks (fun c hc=>by
  obtain ⟨j,h1,h2⟩:=h.snp c hc
  obtain ⟨t,ht⟩:=Option.isSome_iff_exists.1 h1
  exact List.mem_map.2 ⟨j,List.mem_range.2 (h.opn6 ht),h2.symm⟩)
 simpa using a
theorem RepP.cellOp (h:RepP xq w p b n i d sb st sl tbs mbs hv kn) (hk:k<6):w.cell? ⟨b,33+k,none⟩=some (opv d tbs k):=by
 rw [h.blk.blk.cell (33+k),repCells_op h.hlen h.klen,opvs_get hk]
theorem RepP.cellOf (h:RepP xq w p b n i d sb st sl tbs mbs hv kn):w.cell? ⟨b,0,none⟩=some (.int .i64 i)∧w.cell? ⟨b,1,none⟩=some (.int .i64 n)∧w.cell? ⟨b,2,none⟩=some (bptr sb):=by
 refine ⟨?_,?_,?_⟩
 ·rw [h.blk.blk.cell 0];rfl
 ·rw [h.blk.blk.cell 1];rfl
 ·rw [h.blk.blk.cell 2];rfl
theorem RepP.find_none (h:RepP xq w p b n i d sb st sl tbs mbs hv kn) {tx:Int} (e:opnAt d tx=none) :
  Calls Tryz.prog 60 #[bptr b,.int .i64 tx] w fun e w'=>e=.returned (.pointer none)∧w'=w:=by
 by_cases hr:tx<0∨6≤tx
 ·exact find_no w b tx hr
 ·obtain ⟨k,rfl⟩:∃ k:Nat,tx=k:=⟨tx.toNat,by omega⟩
  have hk:k<6:=by omega
  unfold opnAt at e
  rw [if_pos (by omega)] at e
  have hc:=h.cellOp hk
  unfold opv at hc
  rw [show (k:Int).toNat=k by omega] at e
  rw [e] at hc
  exact find_at w b k _ hk hc
theorem RepP.find_some (h:RepP xq w p b n i d sb st sl tbs mbs hv kn) {tx:Int} (e:opnAt d tx=some t) :
  ∃ k:Nat,tx=k∧k<6∧d.opn k=some t∧Calls Tryz.prog 60 #[bptr b,.int .i64 tx] w fun e w'=>e=.returned (bptr (tbs k))∧w'=w:=by
 unfold opnAt at e
 split at e
 ·rename_i h0
  obtain ⟨k,rfl⟩:∃ k:Nat,tx=k:=⟨tx.toNat,by omega⟩
  rw [show (k:Int).toNat=k by omega] at e
  have hk:=h.opn6 e
  have hc:=h.cellOp hk
  unfold opv at hc
  rw [e] at hc
  exact ⟨k,rfl,hk,e,find_at w b k _ hk hc⟩
 ·cases e
end
structure QW (w:World) (p:Nat→Own) (w':World) (p':Nat→Own):Prop where
 touch:Touch (fun q=>p q≠.other) w w'
 stay:∀ q,q<w.heap.size→p' q≠.other→p q≠.other
theorem QT.qw {w w':World} {p p':Nat→Own} (h:QT notOther w p w' p'):QW w p w' p':=⟨h.touch,fun q hq e=>by rw [← h.same q hq];exact e⟩
theorem QW.trans {w w1 w2:World} {p p1 p2:Nat→Own} (h:QW w p w1 p1) (k:QW w1 p1 w2 p2):QW w p w2 p2:=by
 refine ⟨h.touch.trans (k.touch.mono fun q hq ha=>?_),fun q hq e=>h.stay q hq (k.stay q (Nat.lt_of_lt_of_le hq h.touch.size) e)⟩
 by_cases hw:q<w.heap.size
 ·exact Or.inl (h.stay q hw ha)
 ·exact Or.inr (by omega)
def PR (xq:DX) (w:World) (o:Nat→Tag) (t:Tag) (b n i:Nat) (d:DRep):Prop:=∃ p:Nat→Own,(∀ q,q<w.heap.size→p q≠.other→o q=t)∧RepIn xq w p b n i d
theorem PR.move {xq:DX} {w w':World} {o o':Nat→Tag} {t:Tag} {b n i:Nat} {d:DRep} (h:PR xq w o t b n i d) (hm:∀ q,q<w.heap.size→o q=t→w'.heap[q]? = w.heap[q]?∧o' q=t):PR xq w' o' t b n i d:=by
 obtain ⟨p,h1,h2⟩:=h
 refine ⟨fun q=>if q<w.heap.size then p q else .other,fun q hq hne=>?_,h2.move fun q hq hne=>⟨(hm q hq (h1 q hq hne)).1,by simp [hq]⟩⟩
 dsimp only at hne
 split at hne
 ·rename_i c;exact (hm q c (h1 q c hne)).2
 ·exact absurd rfl hne
theorem PR.outW {xq:DX} {w w':World} {o:Nat→Tag} {t:Tag} {b n i:Nat} {d':DRep} {p p':Nat→Own} (h1:∀ q,q<w.heap.size→p q≠.other→o q=t) (h:RepIn xq w' p' b n i d') (k:QW w p w' p'):∃ o',PR xq w' o' t b n i d'∧TouchT (·=t) w o w' o':=by
 refine ⟨own2 o w.heap.size fun _=>t,⟨p',fun q hq hne=>?_,h⟩,⟨k.touch.mono fun q hq e=>h1 q hq e,fun q hq=>own2_low hq⟩⟩
 by_cases c:q<w.heap.size
 ·rw [own2_low c];exact h1 q c (k.stay q c hne)
 ·rw [own2_high (by omega)]
theorem PR.out {xq:DX} {w w':World} {o:Nat→Tag} {t:Tag} {b n i:Nat} {d':DRep} {p p':Nat→Own} (h1:∀ q,q<w.heap.size→p q≠.other→o q=t) (h:RepIn xq w' p' b n i d') (k:QT notOther w p w' p'):∃ o',PR xq w' o' t b n i d'∧TouchT (·=t) w o w' o':=PR.outW h1 h (QT.qw k)
end Go.Proofs.YtiplgdkpnhamaaaGreatDoor.Tv
namespace Go.Proofs.YtiplgdkpnhamaaaGreatDoor.Tv
open Go.RowKit
theorem kept_room {n i:Nat} {d:DRep} {st:St} {sl:Nat→Nat} (h:RepOk n i d st sl) (hR:d.hs.length≤1100000) {m:Nat} (hm:m≤40000000):KeptRoom st m:=fun s hs=>by
 have:=h.kept_len s hs
 omega
set_option maxRecDepth 100000 in
set_option maxHeartbeats 4000000 in
theorem end_any {xq:DX} {w:World} {p:Nat→Own} {b n i k:Nat} {d:DRep} {sb:Nat} {st:St} {sl tbs mbs:Nat→Nat} {hv kn:List Value} {t:RTx} (h:RepP xq w p b n i d sb st sl tbs mbs hv kn) (hR:d.hs.length≤1100000) (ht:d.opn k=some t) :
  Calls Tryz.prog 65 #[bptr b,.int .i64 k] w fun e w'=>e=.returned (.tuple #[])∧∃ p' st',RepP xq w' p' b n i { d with opn:=setSlot d.opn k none } sb st' sl tbs mbs hv kn∧QT notOther w p w' p'∧TxP w' p' k (sl k) (tbs k) (mbs k) t ∧
   Blk w' (sl k) [bptr sb,.int .i64 (vecOf t.saw).a,.int .i64 (vecOf t.saw).b,.int .i64 (vecOf t.saw).c,.int .i64 (vecOf t.saw).d,.int .i64 (vecOf t.saw).e,.slice none 0 0] 186:=by
 have hk:=h.opn6 ht
 obtain ⟨hto,s,hs,hb,hsaw⟩:=h.ok.opn k t ht
 have hT:=h.tx k t ht
 have hcl:=close_st h.sto h.ok.ginv.wf hs (kept_room h.ok hR (by have:=h.ok.kept_len s hs;omega)) (by omega)
 rw [hb] at hcl
 have c1:=h.cellOp hk
 unfold opv at c1
 rw [ht] at c1
 have c1':w.cell? ⟨b,33+k,none⟩=some (bptr (tbs k)):=c1
 have c2:w.cell? ⟨tbs k,0,none⟩=some (bptr (sl k)):=hT.blk.blk.cell 0
 have l1:=h.blk.blk.lt
 have l2:=hT.blk.blk.lt
 have e1:¬ (k:Int)<0:=by omega
 have e2:(k:Int)<6:=by omega
 have HCL:=hide hcl
 have HH:=hide (⟨h,hT,hs,hb,hsaw⟩:_∧_∧_∧_∧_)
 have HT:=hide ht
 clear h hT hs hb hsaw hto hcl c1 ht
 go_enter Tryz.func65,Tryz.ntmps65
 go_wp2_with fail
 refine HCL.out.mono ?_
 rintro e w1 ⟨rfl,p1,hI1,hq1,hB1⟩
 obtain ⟨h,hT,hs,hb,hsaw⟩:=HH.out
 have b1:=h.blk.touch hq1 (by simp [stoTag])
 have d1:w1.cell? ⟨b,33+k,none⟩=some (bptr (tbs k)):=by
  rw [b1.blk.cell (33+k),repCells_op h.hlen h.klen,opvs_get hk]
  unfold opv;rw [HT.out];rfl
 have f1:w1.frozen? ⟨b,33+k,none⟩=false:=b1.blk.frozen (33+k)
 have l3:b<w1.heap.size:=b1.blk.lt
 have H1:=hide (⟨hI1,hq1,hB1,b1⟩:_∧_∧_∧_)
 clear h hT hs hb hsaw hI1 hq1 hB1 b1 c1' c2
 go_wp2_with fail
 go_end0
 obtain ⟨h,hT,hs,hb,hsaw⟩:=HH.out
 obtain ⟨hI1,hq1,hB1,b1⟩:=H1.out
 have q2:QT (·=.rep) w1 p1 (w1.setCell ⟨b,33+k,none⟩ (.pointer none)) p1:=(QT.refl _ _ _).set (p:=⟨b,33+k,none⟩) b1.tag _
 have qf:QT notOther w p (w1.setCell ⟨b,33+k,none⟩ (.pointer none)) p1:=(hq1.mono fun u hu=>sto_not hu).trans (q2.mono fun u hu=>by rw [hu];simp [notOther])
 have b2:=b1.set (33+k) (.pointer none)
 rw [repCells_set h.hlen h.klen,opvs_end hk] at b2
 have hI2:StIn (w1.setCell ⟨b,33+k,none⟩ (.pointer none)) p1 sb (48 * d.hs.length) (closeSt st s):=by
  obtain ⟨vb,cb,eb,ov,cv,ev,kv,hs1⟩:=hI1
  exact ⟨vb,cb,eb,ov,cv,ev,kv,hs1.touch q2 (fun u hu e=>by rw [e] at hu;exact hu)⟩
 have mv:∀ {k' nb' tb' mb':Nat} {t':RTx},TxP w p k' nb' tb' mb' t'→TxP (w1.setCell ⟨b,33+k,none⟩ (.pointer none)) p1 k' nb' tb' mb' t':=fun {k' nb' tb' mb' t'} hx=>by
  have o1:p1 mb'=.own k':=(hq1.same _ hx.own.lt).trans hx.ownT
  have m1:MapIn w1 129 mb' t'.ops.length Place.val Wr.val (ownOf t'.ops):=hx.own.movet hq1 (by rw [hx.ownT];simp [stoTag])
  exact ⟨(hx.blk.touch hq1 (by simp [stoTag])).touch q2 (by simp),o1,m1.movet q2 (by rw [o1];simp)⟩
 refine ⟨rfl,p1,closeSt st s,⟨b2,h.hlen,h.klen,hI2,h.ok.close (by omega) HT.out hs hb,fun r hr=>?_,fun k' t' e'=>?_,fun c hc=>?_,h.known,h.gle⟩,qf,mv hT,?_⟩
 ·exact ((h.held r hr).touch hq1 (by simp [stoTag]) (by simp [stoTag])).touch q2 (by simp) (by simp)
 ·by_cases c:k'=k
  ·subst c;rw [show ({ d with opn:=setSlot d.opn k' none }:DRep).opn k'=none from setSlot_same _ _ _] at e';cases e'
  ·rw [show ({ d with opn:=setSlot d.opn k none }:DRep).opn k'=d.opn k' from setSlot_other c] at e'
   exact mv (h.tx k' t' e')
 ·have hc':c ∈ (closeSt st s).snaps.map Snap.blk:=hc
  unfold closeSt at hc'
  rw [(entrusts_but s.kept _).2.1] at hc'
  obtain ⟨s0,g1,rfl⟩:=List.mem_map.1 hc'
  obtain ⟨g2,g3⟩:=List.mem_filter.1 g1
  obtain ⟨j,j1,j2⟩:=h.snp s0.blk (List.mem_map.2 ⟨s0,g2,rfl⟩)
  refine ⟨j,?_,j2⟩
  have:j≠k:=fun e=>by subst e;rw [← hb] at j2;simp [j2] at g3
  show (setSlot d.opn k none j).isSome
  rw [setSlot_other this];exact j1
 ·rw [hsaw] at hB1
  rw [← hb] at hB1 ⊢
  refine hB1.other (fun e=>?_) _
  have hsn:p s.blk=.snap s.blk:=by
   obtain ⟨vb,cb,eb,ov,cv,ev,kv,hs1⟩:=h.sto
   exact (hs1.snap s hs).tag
  have hbt:=h.blk.tag
  have e':s.blk=b:=by first | exact e | exact e.symm
  rw [e',hbt] at hsn
  cases hsn
set_option maxRecDepth 100000 in
theorem abort_any {xq:DX} {w:World} {p:Nat→Own} {b n i:Nat} {d:DRep} (h:RepIn xq w p b n i d) (hR:d.hs.length≤1100000) (tx:Int) :
  Calls Tryz.prog 34 #[bptr b,.int .i64 tx] w fun e w'=>e=.returned (abortAns d tx)∧∃ p',RepIn xq w' p' b n i (abortD d tx)∧QT notOther w p w' p':=by
 obtain ⟨sb,st,sl,tbs,mbs,hv,kn,h⟩:=h
 cases ho:opnAt d tx with
 | none=>
  have hf:=h.find_none ho
  have HF:=hide hf
  have HH:=hide h
  have ea:abortAns d tx=.int .i64 4:=by unfold abortAns;rw [ho];rfl
  have ed:abortD d tx=d:=by unfold abortD;rw [ho];rfl
  rw [ea,ed]
  clear hf h ho
  go_enter Tryz.func34,Tryz.ntmps34
  go_wp2_with (go_at_call 60;refine HF.out.mono ?_;rintro e w1 ⟨rfl,rfl⟩)
  go_ret
  exact ⟨rfl,p,⟨sb,st,sl,tbs,mbs,hv,kn,HH.out⟩,QT.refl _ _ _⟩
 | some t=>
  obtain ⟨k,rfl,hk,hok,hf⟩:=h.find_some ho
  have he:=end_any h hR hok
  have HF:=hide hf
  have HE:=hide he
  have ea:abortAns d k=.int .i64 0:=by unfold abortAns;rw [ho];rfl
  have ed:abortD d k={ d with opn:=setSlot d.opn k none }:=by unfold abortD endD;rw [ho];simp
  rw [ea,ed]
  clear hf h ho he
  go_enter Tryz.func34,Tryz.ntmps34
  go_wp2_with (first | (go_at_call 60;refine HF.out.mono ?_;rintro e w1 ⟨rfl,rfl⟩) | (go_at_call 65;refine HE.out.mono ?_;rintro e w2 ⟨rfl,p2,st2,h2,q2,-,-⟩))
  go_ret
  exact ⟨rfl,p2,⟨sb,st2,sl,tbs,mbs,hv,kn,h2⟩,q2⟩
end Go.Proofs.YtiplgdkpnhamaaaGreatDoor.Tv
namespace Go.Proofs.YtiplgdkpnhamaaaGreatDoor.Tv
open Go.RowKit
theorem begun_meet {xq:DX} {w W:World} {p p3:Nat→Own} {b n i k:Nat} {d:DRep} {sb:Nat} {st:St} {sl tbs mbs:Nat→Nat} {hv kn:List Value} {nb tb mb:Nat} (h:RepP xq w p b n i d sb st sl tbs mbs hv kn) (hk:k<6) (hf:d.opn k=none) (hB:BegIn w p k sb (48 * d.hs.length) nb tb mb st W p3) :
  RepIn xq (W.setCell ⟨b,33+k,none⟩ (bptr tb)) p3 b n i { d with opn:=setSlot d.opn k (some ⟨0,0,d.vis,[]⟩) }∧QT notOther w p (W.setCell ⟨b,33+k,none⟩ (bptr tb)) p3:=by
 have b1:=h.blk.touch hB.qt (by simp [stoTag])
 have q2:QT (·=.rep) W p3 (W.setCell ⟨b,33+k,none⟩ (bptr tb)) p3:=(QT.refl _ _ _).set (p:=⟨b,33+k,none⟩) b1.tag _
 have qf:QT notOther w p (W.setCell ⟨b,33+k,none⟩ (bptr tb)) p3:=(hB.qt.mono fun u hu=>sto_not hu).trans (q2.mono fun u hu=>by rw [hu];simp [notOther])
 have hnb:nb ∉ st.snaps.map Snap.blk:=fun hc=>by
  obtain ⟨s,hs,e⟩:=List.mem_map.1 hc
  obtain ⟨vb,cb,eb,ov,cv,ev,kv,hst⟩:=h.sto
  have:=(hst.snap s hs).blk.lt
  have:=hB.fresh
  omega
 have b2:=b1.set (33+k) (bptr tb)
 rw [repCells_set h.hlen h.klen] at b2
 have eo:=opvs_set (d:=d) (tbs:=tbs) (t?:=some ⟨0,0,d.vis,[]⟩) hk tb
 simp only [Option.isSome_some,if_true] at eo
 rw [eo] at b2
 refine ⟨⟨sb,openSt st nb,fun q=>if q=k then nb else sl q,fun q=>if q=k then tb else tbs q,fun q=>if q=k then mb else mbs q,hv,kn,b2,h.hlen,h.klen,?_,h.ok.begin_ hk hf hnb,fun r hr=>?_,fun k' t' e'=>?_,fun c hc=>?_,h.known,h.gle⟩,qf⟩
 ·obtain ⟨vb,cb,eb,ov,cv,ev,kv,hs1⟩:=hB.sto
  exact ⟨vb,cb,eb,ov,cv,ev,kv,hs1.touch q2 (fun u hu e=>by rw [e] at hu;exact hu)⟩
 ·exact ((h.held r hr).touch hB.qt (by simp [stoTag]) (by simp [stoTag])).touch q2 (by simp) (by simp)
 ·by_cases c':k'=k
  ·subst c'
   rw [show ({ d with opn:=setSlot d.opn k' (some ⟨0,0,d.vis,[]⟩) }:DRep).opn k'=some ⟨0,0,d.vis,[]⟩ from setSlot_same _ _ _] at e'
   cases e'
   simp only [if_true]
   exact ⟨hB.tx.touch q2 (by simp),hB.ownT,hB.own.movet q2 (by rw [hB.ownT];simp)⟩
  ·rw [show ({ d with opn:=setSlot d.opn k (some ⟨0,0,d.vis,[]⟩) }:DRep).opn k'=d.opn k' from setSlot_other c'] at e'
   have hx:=h.tx k' t' e'
   simp only [c',if_false]
   have o1:p3 (mbs k')=.own k':=(hB.qt.same _ hx.own.lt).trans hx.ownT
   exact ⟨(hx.blk.touch hB.qt (by simp [stoTag])).touch q2 (by simp),o1,(hx.own.movet hB.qt (by rw [hx.ownT];simp [stoTag])).movet q2 (by rw [o1];simp)⟩
 ·have hc':c ∈ (st.snaps ++ [(⟨nb,st.vis,[]⟩:Snap)]).map Snap.blk:=hc
  rw [List.map_append,List.mem_append] at hc'
  rcases hc' with hc' | hc'
  ·obtain ⟨j,j1,j2⟩:=h.snp c hc'
   refine ⟨j,?_,?_⟩
   ·show (setSlot d.opn k _ j).isSome
    by_cases c'':j=k
    ·subst c'';rw [setSlot_same];rfl
    ·rw [setSlot_other c''];exact j1
   ·have:j≠k:=fun e=>by subst e;rw [hf] at j1;cases j1
    simp [this,j2]
  ·refine ⟨k,?_,by simpa using hc'⟩
   show (setSlot d.opn k _ k).isSome
   rw [setSlot_same];rfl
theorem open_a {xq:DX} {w:World} {p:Nat→Own} {b n i k:Nat} {d:DRep} {sb:Nat} {st:St} {sl tbs mbs:Nat→Nat} {hv kn:List Value} (h:RepP xq w p b n i d sb st sl tbs mbs hv kn) (hk:k<6) (hf:d.opn k=none) :
  Calls Tryz.prog 59 #[bptr sb] w.drew fun e w'=>e=.returned (bptr w.heap.size)∧w'.cell? ⟨b,33+k,none⟩=some (.pointer none)∧w'.frozen? ⟨b,33+k,none⟩=false∧b<w'.heap.size∧Hid (∃ p1,StIn w' p1 sb (48 * d.hs.length) (openSt st w.heap.size)∧QT stoTag w p w' p1):=by
 have hI:StIn w.drew p sb (48 * d.hs.length) st:=by
  obtain ⟨vb,cb,eb,ov,cv,ev,kv,hs⟩:=h.sto
  exact ⟨vb,cb,eb,ov,cv,ev,kv,hs.move fun q hq _=>⟨rfl,rfl⟩⟩
 refine (open_st hI (by have:=h.snaps6;omega)).mono ?_
 rintro e w' ⟨rfl,p1,h1,h2⟩
 have b1:=h.blk.touch h2.undrew (by simp [stoTag])
 refine ⟨rfl,?_,b1.blk.frozen _,b1.blk.lt,p1,h1,h2.undrew⟩
 rw [b1.blk.cell (33+k),repCells_op h.hlen h.klen,opvs_get hk]
 unfold opv;rw [hf];rfl
theorem open_b {xq:DX} {w:World} {p:Nat→Own} {b n i k:Nat} {d:DRep} {sb:Nat} {st:St} {sl tbs mbs:Nat→Nat} {hv kn:List Value} (h:RepP xq w p b n i d sb st sl tbs mbs hv kn) (hk:k<6) (hf:d.opn k=none) :
  Calls Tryz.prog 59 #[bptr sb] (w.alloc (.map #[] 0)).drew fun e w'=>e=.returned (bptr (w.heap.size+1))∧w'.cell? ⟨b,33+k,none⟩=some (.pointer none)∧w'.frozen? ⟨b,33+k,none⟩=false∧b<w'.heap.size∧Hid (∃ p2,StIn w' p2 sb (48 * d.hs.length) (openSt st (w.heap.size+1))∧QT stoTag (w.alloc (.map #[] 0)) (updq p w.heap.size (.own k)) w' p2):=by
 have hz:(w.alloc (.map #[] 0)).drew.heap.size=w.heap.size+1:=by simp [World.drew]
 have hh:RepP xq (w.alloc (.map #[] 0)) (updq p w.heap.size (.own k)) b n i d sb st sl tbs mbs hv kn:=h.move fun q hq _=>⟨Below.heap_alloc _ _ _ hq,updq_other (by omega)⟩
 have hI:StIn (w.alloc (.map #[] 0)).drew (updq p w.heap.size (.own k)) sb (48 * d.hs.length) st:=by
  obtain ⟨vb,cb,eb,ov,cv,ev,kv,hs⟩:=hh.sto
  exact ⟨vb,cb,eb,ov,cv,ev,kv,hs.move fun q hq _=>⟨rfl,rfl⟩⟩
 have a:=open_st hI (by have:=h.snaps6;omega)
 rw [hz] at a
 refine a.mono ?_
 rintro e w' ⟨rfl,p1,h1,h2⟩
 have b1:=hh.blk.touch h2.undrew (by simp [stoTag])
 refine ⟨rfl,?_,b1.blk.frozen _,b1.blk.lt,p1,h1,h2.undrew⟩
 rw [b1.blk.cell (33+k),repCells_op h.hlen h.klen,opvs_get hk]
 unfold opv;rw [hf];rfl
set_option maxRecDepth 100000 in
set_option maxHeartbeats 8000000 in
theorem begin_call {xq:DX} {w:World} {p:Nat→Own} {b n i:Nat} {d:DRep} (h:RepIn xq w p b n i d) :
  Calls Tryz.prog 27 #[bptr b] w fun e w'=>e=.returned (beginAns d)∧∃ p',RepIn xq w' p' b n i (beginD d)∧QT notOther w p w' p':=by
 obtain ⟨sb,st,sl,tbs,mbs,hv,kn,h⟩:=h
 have hmm:=@run_makeMap Tryz.prog
 have c2:=h.cellOf.2.2
 have o0:w.cell? ⟨b,33,none⟩=some (opv d tbs 0):=h.cellOp (k:=0) (by omega)
 have o1:w.cell? ⟨b,34,none⟩=some (opv d tbs 1):=h.cellOp (k:=1) (by omega)
 have o2:w.cell? ⟨b,35,none⟩=some (opv d tbs 2):=h.cellOp (k:=2) (by omega)
 have o3:w.cell? ⟨b,36,none⟩=some (opv d tbs 3):=h.cellOp (k:=3) (by omega)
 have o4:w.cell? ⟨b,37,none⟩=some (opv d tbs 4):=h.cellOp (k:=4) (by omega)
 have o5:w.cell? ⟨b,38,none⟩=some (opv d tbs 5):=h.cellOp (k:=5) (by omega)
 have hl:=h.blk.blk.lt
 have hf:∀ j,w.frozen? ⟨b,j,none⟩=false:=fun j=>h.blk.blk.frozen j
 have hopn:∀ j,((d.opn j).isSome=true∧opv d tbs j=bptr (tbs j))∨(d.opn j=none∧opv d tbs j=.pointer none):=fun j=>by
  unfold opv
  cases e:d.opn j with
  | none=>exact Or.inr ⟨rfl,rfl⟩
  | some t=>exact Or.inl ⟨rfl,rfl⟩
 generalize e0:opv d tbs 0=v0 at *
 generalize e1:opv d tbs 1=v1 at *
 generalize e2:opv d tbs 2=v2 at *
 generalize e3:opv d tbs 3=v3 at *
 generalize e4:opv d tbs 4=v4 at *
 generalize e5:opv d tbs 5=v5 at *
 have HE:=hide (⟨e0,e1,e2,e3,e4,e5⟩:_∧_∧_∧_∧_∧_)
 have HO:=hide hopn
 have HH:=hide h
 have HFZ:=hide hf
 clear e0 e1 e2 e3 e4 e5 hopn h hf
 go_enter Tryz.func27,Tryz.ntmps27
 go_wp2_with fail
 go_loopw [10] (fun j wr=>∃ k:Nat,k≤6∧j=.int .i64 k∧wr=w∧Hid (∀ q,q<k→(d.opn q).isSome=true)) (fun j _=>6 - (intOf j).toNat)
 case atStart=>exact ⟨0,by omega,rfl,rfl,fun q hq=>by omega⟩
 case round=>
  obtain ⟨k,hk6,rfl,rfl,hall⟩:=hrel
  have hk7:k=6∨k=0∨k=1∨k=2∨k=3∨k=4∨k=5:=by omega
  rcases hk7 with rfl | hk7
  ·have EA:=hide (begin_none (d:=d) (fun j hj=>hall.out j hj))
   go_wp2_with fail
   go_ret2
   exact ⟨by rw [EA.out.1];rfl,p,by rw [EA.out.2];exact ⟨sb,st,sl,tbs,mbs,hv,kn,HH.out⟩,QT.refl _ _ _⟩
  ·rcases hk7 with rfl | rfl | rfl | rfl | rfl | rfl
   ·rw [show ((0:Nat):Int)=0 from rfl]
    have hix:=idx6_0
    rcases HO.out 0 with ⟨hs,e⟩ | ⟨hs,e⟩
    ·rw [HE.out.1] at e
     subst e
     have hnx:∀ q,q<1→(d.opn q).isSome=true:=fun q hq=>by
      rcases Nat.lt_or_ge q 0 with c | c
      ·exact hall.out q c
      ·have:q=0:=by omega
       subst this;exact hs
     have HNX:=hide hnx
     clear hs hnx
     go_wp2_with fail
     exact ⟨⟨1,by omega,by go_num,by first | rfl | trivial,HNX.out⟩,by simp [intOf]⟩
    ·rw [HE.out.1] at e
     subst e
     have EA:=hide (begin_at (d:=d) (k:=0) (by omega) hall.out hs)
     have HA:=hide (open_a HH.out (k:=0) (by omega) hs)
     have HB:=hide (open_b HH.out (k:=0) (by omega) hs)
     have HS:=hide hs
     clear hs
     go_wp2_with fail
     go_region_with (first | (go_at_call 59;show Calls _ _ _ (World.drew (World.alloc _ _)) _;refine HB.out.mono ?_;rintro e w5 ⟨rfl,k1,k2,k3,k4⟩) | (go_at_call 59;refine HA.out.mono ?_;rintro e w5 ⟨rfl,k1,k2,k3,k4⟩))
     all_goals go_wp2_with fail
     all_goals go_ret2
     all_goals
      refine ⟨by rw [EA.out.1];rfl,?_⟩
      rw [EA.out.2]
      obtain ⟨p5,g1,g2⟩:=k4.out
      first
       | (have M:=begun_meet (k:=0) HH.out (by omega) HS.out (beg_open g1 g2);rw [World.setCell_alloc_past _ _ _ _ (by simp;omega),World.setCell_alloc_past _ _ _ _ k3] at M;exact ⟨_,M⟩)
       | (have M:=begun_meet (k:=0) HH.out (by omega) HS.out (beg_map g1 g2);rw [World.setCell_alloc_past _ _ _ _ k3] at M;exact ⟨_,M⟩)
   ·rw [show ((1:Nat):Int)=1 from rfl]
    have hix:=idx6_1
    rcases HO.out 1 with ⟨hs,e⟩ | ⟨hs,e⟩
    ·rw [HE.out.2.1] at e
     subst e
     have hnx:∀ q,q<2→(d.opn q).isSome=true:=fun q hq=>by
      rcases Nat.lt_or_ge q 1 with c | c
      ·exact hall.out q c
      ·have:q=1:=by omega
       subst this;exact hs
     have HNX:=hide hnx
     clear hs hnx
     go_wp2_with fail
     exact ⟨⟨2,by omega,by go_num,by first | rfl | trivial,HNX.out⟩,by simp [intOf]⟩
    ·rw [HE.out.2.1] at e
     subst e
     have EA:=hide (begin_at (d:=d) (k:=1) (by omega) hall.out hs)
     have HA:=hide (open_a HH.out (k:=1) (by omega) hs)
     have HB:=hide (open_b HH.out (k:=1) (by omega) hs)
     have HS:=hide hs
     clear hs
     go_wp2_with fail
     go_region_with (first | (go_at_call 59;show Calls _ _ _ (World.drew (World.alloc _ _)) _;refine HB.out.mono ?_;rintro e w5 ⟨rfl,k1,k2,k3,k4⟩) | (go_at_call 59;refine HA.out.mono ?_;rintro e w5 ⟨rfl,k1,k2,k3,k4⟩))
     all_goals go_wp2_with fail
     all_goals go_ret2
     all_goals
      refine ⟨by rw [EA.out.1];rfl,?_⟩
      rw [EA.out.2]
      obtain ⟨p5,g1,g2⟩:=k4.out
      first
       | (have M:=begun_meet (k:=1) HH.out (by omega) HS.out (beg_open g1 g2);rw [World.setCell_alloc_past _ _ _ _ (by simp;omega),World.setCell_alloc_past _ _ _ _ k3] at M;exact ⟨_,M⟩)
       | (have M:=begun_meet (k:=1) HH.out (by omega) HS.out (beg_map g1 g2);rw [World.setCell_alloc_past _ _ _ _ k3] at M;exact ⟨_,M⟩)
   ·rw [show ((2:Nat):Int)=2 from rfl]
    have hix:=idx6_2
    rcases HO.out 2 with ⟨hs,e⟩ | ⟨hs,e⟩
    ·rw [HE.out.2.2.1] at e
     subst e
     have hnx:∀ q,q<3→(d.opn q).isSome=true:=fun q hq=>by
      rcases Nat.lt_or_ge q 2 with c | c
      ·exact hall.out q c
      ·have:q=2:=by omega
       subst this;exact hs
     have HNX:=hide hnx
     clear hs hnx
     go_wp2_with fail
     exact ⟨⟨3,by omega,by go_num,by first | rfl | trivial,HNX.out⟩,by simp [intOf]⟩
    ·rw [HE.out.2.2.1] at e
     subst e
     have EA:=hide (begin_at (d:=d) (k:=2) (by omega) hall.out hs)
     have HA:=hide (open_a HH.out (k:=2) (by omega) hs)
     have HB:=hide (open_b HH.out (k:=2) (by omega) hs)
     have HS:=hide hs
     clear hs
     go_wp2_with fail
     go_region_with (first | (go_at_call 59;show Calls _ _ _ (World.drew (World.alloc _ _)) _;refine HB.out.mono ?_;rintro e w5 ⟨rfl,k1,k2,k3,k4⟩) | (go_at_call 59;refine HA.out.mono ?_;rintro e w5 ⟨rfl,k1,k2,k3,k4⟩))
     all_goals go_wp2_with fail
     all_goals go_ret2
     all_goals
      refine ⟨by rw [EA.out.1];rfl,?_⟩
      rw [EA.out.2]
      obtain ⟨p5,g1,g2⟩:=k4.out
      first
       | (have M:=begun_meet (k:=2) HH.out (by omega) HS.out (beg_open g1 g2);rw [World.setCell_alloc_past _ _ _ _ (by simp;omega),World.setCell_alloc_past _ _ _ _ k3] at M;exact ⟨_,M⟩)
       | (have M:=begun_meet (k:=2) HH.out (by omega) HS.out (beg_map g1 g2);rw [World.setCell_alloc_past _ _ _ _ k3] at M;exact ⟨_,M⟩)
   ·rw [show ((3:Nat):Int)=3 from rfl]
    have hix:=idx6_3
    rcases HO.out 3 with ⟨hs,e⟩ | ⟨hs,e⟩
    ·rw [HE.out.2.2.2.1] at e
     subst e
     have hnx:∀ q,q<4→(d.opn q).isSome=true:=fun q hq=>by
      rcases Nat.lt_or_ge q 3 with c | c
      ·exact hall.out q c
      ·have:q=3:=by omega
       subst this;exact hs
     have HNX:=hide hnx
     clear hs hnx
     go_wp2_with fail
     exact ⟨⟨4,by omega,by go_num,by first | rfl | trivial,HNX.out⟩,by simp [intOf]⟩
    ·rw [HE.out.2.2.2.1] at e
     subst e
     have EA:=hide (begin_at (d:=d) (k:=3) (by omega) hall.out hs)
     have HA:=hide (open_a HH.out (k:=3) (by omega) hs)
     have HB:=hide (open_b HH.out (k:=3) (by omega) hs)
     have HS:=hide hs
     clear hs
     go_wp2_with fail
     go_region_with (first | (go_at_call 59;show Calls _ _ _ (World.drew (World.alloc _ _)) _;refine HB.out.mono ?_;rintro e w5 ⟨rfl,k1,k2,k3,k4⟩) | (go_at_call 59;refine HA.out.mono ?_;rintro e w5 ⟨rfl,k1,k2,k3,k4⟩))
     all_goals go_wp2_with fail
     all_goals go_ret2
     all_goals
      refine ⟨by rw [EA.out.1];rfl,?_⟩
      rw [EA.out.2]
      obtain ⟨p5,g1,g2⟩:=k4.out
      first
       | (have M:=begun_meet (k:=3) HH.out (by omega) HS.out (beg_open g1 g2);rw [World.setCell_alloc_past _ _ _ _ (by simp;omega),World.setCell_alloc_past _ _ _ _ k3] at M;exact ⟨_,M⟩)
       | (have M:=begun_meet (k:=3) HH.out (by omega) HS.out (beg_map g1 g2);rw [World.setCell_alloc_past _ _ _ _ k3] at M;exact ⟨_,M⟩)
   ·rw [show ((4:Nat):Int)=4 from rfl]
    have hix:=idx6_4
    rcases HO.out 4 with ⟨hs,e⟩ | ⟨hs,e⟩
    ·rw [HE.out.2.2.2.2.1] at e
     subst e
     have hnx:∀ q,q<5→(d.opn q).isSome=true:=fun q hq=>by
      rcases Nat.lt_or_ge q 4 with c | c
      ·exact hall.out q c
      ·have:q=4:=by omega
       subst this;exact hs
     have HNX:=hide hnx
     clear hs hnx
     go_wp2_with fail
     exact ⟨⟨5,by omega,by go_num,by first | rfl | trivial,HNX.out⟩,by simp [intOf]⟩
    ·rw [HE.out.2.2.2.2.1] at e
     subst e
     have EA:=hide (begin_at (d:=d) (k:=4) (by omega) hall.out hs)
     have HA:=hide (open_a HH.out (k:=4) (by omega) hs)
     have HB:=hide (open_b HH.out (k:=4) (by omega) hs)
     have HS:=hide hs
     clear hs
     go_wp2_with fail
     go_region_with (first | (go_at_call 59;show Calls _ _ _ (World.drew (World.alloc _ _)) _;refine HB.out.mono ?_;rintro e w5 ⟨rfl,k1,k2,k3,k4⟩) | (go_at_call 59;refine HA.out.mono ?_;rintro e w5 ⟨rfl,k1,k2,k3,k4⟩))
     all_goals go_wp2_with fail
     all_goals go_ret2
     all_goals
      refine ⟨by rw [EA.out.1];rfl,?_⟩
      rw [EA.out.2]
      obtain ⟨p5,g1,g2⟩:=k4.out
      first
       | (have M:=begun_meet (k:=4) HH.out (by omega) HS.out (beg_open g1 g2);rw [World.setCell_alloc_past _ _ _ _ (by simp;omega),World.setCell_alloc_past _ _ _ _ k3] at M;exact ⟨_,M⟩)
       | (have M:=begun_meet (k:=4) HH.out (by omega) HS.out (beg_map g1 g2);rw [World.setCell_alloc_past _ _ _ _ k3] at M;exact ⟨_,M⟩)
   ·rw [show ((5:Nat):Int)=5 from rfl]
    have hix:=idx6_5
    rcases HO.out 5 with ⟨hs,e⟩ | ⟨hs,e⟩
    ·rw [HE.out.2.2.2.2.2] at e
     subst e
     have hnx:∀ q,q<6→(d.opn q).isSome=true:=fun q hq=>by
      rcases Nat.lt_or_ge q 5 with c | c
      ·exact hall.out q c
      ·have:q=5:=by omega
       subst this;exact hs
     have HNX:=hide hnx
     clear hs hnx
     go_wp2_with fail
     exact ⟨⟨6,by omega,by go_num,by first | rfl | trivial,HNX.out⟩,by simp [intOf]⟩
    ·rw [HE.out.2.2.2.2.2] at e
     subst e
     have EA:=hide (begin_at (d:=d) (k:=5) (by omega) hall.out hs)
     have HA:=hide (open_a HH.out (k:=5) (by omega) hs)
     have HB:=hide (open_b HH.out (k:=5) (by omega) hs)
     have HS:=hide hs
     clear hs
     go_wp2_with fail
     go_region_with (first | (go_at_call 59;show Calls _ _ _ (World.drew (World.alloc _ _)) _;refine HB.out.mono ?_;rintro e w5 ⟨rfl,k1,k2,k3,k4⟩) | (go_at_call 59;refine HA.out.mono ?_;rintro e w5 ⟨rfl,k1,k2,k3,k4⟩))
     all_goals go_wp2_with fail
     all_goals go_ret2
     all_goals
      refine ⟨by rw [EA.out.1];rfl,?_⟩
      rw [EA.out.2]
      obtain ⟨p5,g1,g2⟩:=k4.out
      first
       | (have M:=begun_meet (k:=5) HH.out (by omega) HS.out (beg_open g1 g2);rw [World.setCell_alloc_past _ _ _ _ (by simp;omega),World.setCell_alloc_past _ _ _ _ k3] at M;exact ⟨_,M⟩)
       | (have M:=begun_meet (k:=5) HH.out (by omega) HS.out (beg_map g1 g2);rw [World.setCell_alloc_past _ _ _ _ k3] at M;exact ⟨_,M⟩)
end Go.Proofs.YtiplgdkpnhamaaaGreatDoor.Tv
namespace Go.Proofs.YtiplgdkpnhamaaaGreatDoor.Tv
open Go.RowKit
theorem write_in {xq:DX} {w:World} {p:Nat→Own} {b n i k:Nat} {d:DRep} {sb:Nat} {st:St} {sl tbs mbs:Nat→Nat} {hv kn:List Value} {t:RTx} (h:RepP xq w p b n i d sb st sl tbs mbs hv kn) (ht:d.opn k=some t) {o:ROp} (ho:OpOk o) (hvs:¬ o.kind=1→o.value.size≤8) (has:o.kind=1→-1000000≤o.amount∧o.amount≤1000000) :
  Calls Tryz.prog 62 #[bptr (tbs k),(plOf o).val,(wrOf o).val] w fun e w'=>e=.returned (.int .i64 (if 16≤t.ops.length then 5 else 0))∧∃ p',RepIn xq w' p' b n i (wroteD d k t o)∧QT notOther w p w' p':=by
 have hT:=h.tx k t ht
 obtain ⟨hto,-⟩:=h.ok.opn k t ht
 have hfew:=hto.ops.few
 unfold wroteD
 by_cases c:16≤t.ops.length
 ·rw [if_pos c,if_pos c]
  have e16:((t.ops.length:Nat):Int)=16:=by omega
  have hB:=hT.blk.blk
  rw [e16] at hB
  refine (twrite_full w (tbs k) _ _ (plOf o) (wrOf o) hB).mono ?_
  rintro e w' ⟨rfl,hb⟩
  exact ⟨rfl,p,⟨sb,st,sl,tbs,mbs,hv,kn,h.below hb⟩,QT.ofBelow hb⟩
 ·rw [if_neg c,if_neg c]
  obtain ⟨s1,s2⟩:=plOf_ok (small_max (key_small ho)) (fun c=>small_max (hvs c))
  have hne:tbs k≠mbs k:=fun e=>by have:=hT.blk.tag;rw [e,hT.ownT] at this;cases this
  refine (twrite_ok w (tbs k) (mbs k) t.ops.length _ _ (ownOf t.ops) (plOf o) (wrOf o) hT.blk.blk hT.own hne (by omega) (by omega) s1 s2 (by unfold maxLen;omega)).mono ?_
  rintro e w' ⟨rfl,hB1,hM1,hT1⟩
  have q1:QT (fun u=>u=.tx k∨u=.own k) w p w' p:=⟨hT1.mono fun q _ e=>by rcases e with rfl | rfl;exact Or.inl hT.blk.tag;exact Or.inr hT.ownT,fun _ _=>rfl⟩
  have hlen:(t.ops ++ [o]).length=t.ops.length+1:=by simp
  refine ⟨rfl,p,⟨sb,st,sl,tbs,mbs,hv,kn,?_,h.hlen,h.klen,?_,h.ok.does ht ho hvs has (by omega),fun r hr=>?_,fun k' t' e'=>?_,fun c hc=>?_,h.known,h.gle⟩,q1.mono fun u hu=>by rcases hu with rfl | rfl <;> simp [notOther]⟩
  ·rw [opvs_same ht];exact h.blk.touch q1 (by simp)
  ·obtain ⟨vb,cb,eb,ov,cv,ev,kv,hs1⟩:=h.sto
   exact ⟨vb,cb,eb,ov,cv,ev,kv,hs1.touch q1 (fun u hu e=>by rcases e with rfl | rfl <;> exact hu)⟩
  ·exact (h.held r hr).touch q1 (by simp) (by simp)
  ·by_cases c':k'=k
   ·subst c'
    rw [show ({ d with opn:=setSlot d.opn k' (some { t with ops:=t.ops ++ [o] }) }:DRep).opn k'=some { t with ops:=t.ops ++ [o] } from setSlot_same _ _ _] at e'
    cases e'
    refine ⟨⟨?_,hT.blk.tag⟩,hT.ownT,?_⟩
    ·show Blk w' (tbs k') [bptr (sl k'),.int .i64 ((t.ops ++ [o]).length:Nat),.map (some (mbs k'))] _
     rw [hlen]
     exact hB1
    ·show MapIn w' _ (mbs k') (t.ops ++ [o]).length Place.val Wr.val (ownOf (t.ops ++ [o]))
     rw [hlen,ownOf_snoc]
     exact hM1
   ·rw [show ({ d with opn:=setSlot d.opn k (some { t with ops:=t.ops ++ [o] }) }:DRep).opn k'=d.opn k' from setSlot_other c'] at e'
    have hx:=h.tx k' t' e'
    exact ⟨hx.blk.touch q1 (by simp [c']),hx.ownT,hx.own.movet q1 (by rw [hx.ownT];simp [c'])⟩
  ·obtain ⟨j,j1,j2⟩:=h.snp c hc
   refine ⟨j,?_,j2⟩
   show (setSlot d.opn k (some { t with ops:=t.ops ++ [o] }) j).isSome
   by_cases c':j=k
   ·subst c';rw [setSlot_same];rfl
   ·rw [setSlot_other c'];exact j1
theorem write_after {xq:DX} {w:World} {p:Nat→Own} {b n i k:Nat} {d:DRep} {sb:Nat} {st:St} {sl tbs mbs:Nat→Nat} {hv kn:List Value} {t:RTx} (h:RepP xq w p b n i d sb st sl tbs mbs hv kn) (ht:d.opn k=some t) {o:ROp} (ho:OpOk o) (hvs:¬ o.kind=1→o.value.size≤8) (has:o.kind=1→-1000000≤o.amount∧o.amount≤1000000) {W:World} (hB:Below w.heap.size w W) :
  Calls Tryz.prog 62 #[bptr (tbs k),(plOf o).val,(wrOf o).val] W fun e w'=>e=.returned (.int .i64 (if 16≤t.ops.length then 5 else 0))∧∃ p',RepIn xq w' p' b n i (wroteD d k t o)∧QT notOther w p w' p':=
 (write_in (h.below hB) ht ho hvs has).mono (by
  rintro e w' ⟨rfl,p',h1,h2⟩
  exact ⟨rfl,p',h1,(QT.ofBelow hB).trans h2⟩)
set_option maxRecDepth 100000 in
set_option maxHeartbeats 4000000 in
theorem add_call {xq:DX} {w:World} {p:Nat→Own} {b n i:Nat} {d:DRep} (h:RepIn xq w p b n i d) (tx:Int) (o:ROp) (hkd:o.kind=1) (hks:o.key.size≤maxLen) :
  Calls Tryz.prog 28 #[bptr b,.int .i64 tx,.string o.key,.int .i64 o.amount] w fun e w'=>e=.returned (.int .i64 (doesErr (opnAt d tx) o))∧∃ p',RepIn xq w' p' b n i (doesD d tx o)∧QT notOther w p w' p':=by
 obtain ⟨sb,st,sl,tbs,mbs,hv,kn,h⟩:=h
 have hth:=fun W=>thing_any o.key W hks
 have HTH:=hide hth
 have HH:=hide h
 clear hth
 cases ho:opnAt d tx with
 | none=>
  have hf:=h.find_none ho
  have HF:=hide hf
  have ed:doesD d tx o=d:=by unfold doesD;rw [ho]
  have ea:doesErr none o=4:=rfl
  rw [ed,ea]
  clear hf h ho ed ea
  go_enter Tryz.func28,Tryz.ntmps28
  go_wp2_with (go_at_call 60;refine HF.out.mono ?_;rintro e w1 ⟨rfl,rfl⟩)
  go_ret
  exact ⟨rfl,p,⟨sb,st,sl,tbs,mbs,hv,kn,HH.out⟩,QT.refl _ _ _⟩
 | some t=>
  obtain ⟨k,rfl,hk,hok,hf⟩:=h.find_some ho
  have HF:=hide hf
  have HOK:=hide hok
  have kb:kindByte o.kind=99:=by rw [hkd];rfl
  by_cases c1:kindOf o.key=99
  ·by_cases c2:o.amount < -1000000∨1000000<o.amount
   ·have ea:doesErr (some t) o=3:=by unfold doesErr;simp only;rw [if_neg (by rw [kb,c1];simp),if_pos (Or.inl ⟨hkd,c2⟩)]
    have ed:doesD d k o=d:=by unfold doesD;rw [ho];simp only;rw [ea];rfl
    rw [ea,ed]
    have e1:((kindOf o.key:Int) != 99)=false:=by rw [c1];rfl
    rw [c1] at HTH
    clear hf h ho ea ed hok kb e1
    by_cases c3:o.amount < -1000000
    ·clear c2
     go_enter Tryz.func28,Tryz.ntmps28
     go_wp2_with (first | (go_at_call 60;refine HF.out.mono ?_;rintro e w1 ⟨rfl,rfl⟩) | (go_at_call 61;refine (HTH.out _).mono ?_;rintro e w1 ⟨rfl,rfl⟩))
     go_ret
     exact ⟨rfl,p,⟨sb,st,sl,tbs,mbs,hv,kn,HH.out⟩,QT.refl _ _ _⟩
    ·have c4:1000000<o.amount:=by omega
     clear c2
     go_enter Tryz.func28,Tryz.ntmps28
     go_wp2_with (first | (go_at_call 60;refine HF.out.mono ?_;rintro e w1 ⟨rfl,rfl⟩) | (go_at_call 61;refine (HTH.out _).mono ?_;rintro e w1 ⟨rfl,rfl⟩))
     go_ret
     exact ⟨rfl,p,⟨sb,st,sl,tbs,mbs,hv,kn,HH.out⟩,QT.refl _ _ _⟩
   ·have hop:OpOk o:=⟨Or.inl hkd,by rw [kb];exact c1⟩
    have ea:doesErr (some t) o=if 16≤t.ops.length then 5 else 0:=by
     unfold doesErr;simp only;rw [if_neg (by rw [kb,c1];simp),if_neg (by rintro (⟨-,e⟩ | ⟨e,-⟩);exact c2 e;exact e hkd)]
    have ed:doesD d k o=wroteD d k t o:=by
     unfold doesD wroteD;rw [ho];simp only;rw [ea]
     by_cases c:16≤t.ops.length
     ·rw [if_pos c,if_pos c,if_neg (by omega)]
     ·rw [if_neg c,if_neg c,if_pos rfl];rfl
    rw [ea,ed]
    rw [c1] at HTH
    have hcl:=fun W=>clone_any o.key (by have:=key_small hop;omega) W
    have hwr:∀ W,Below w.heap.size w W→Calls Tryz.prog 62 #[bptr (tbs k),.agg #[.string o.key,.string ⟨#[]⟩],.agg #[.int .i64 0,.int .i64 o.amount,.string ⟨#[]⟩]] W fun e w'=>e=.returned (.int .i64 (if 16≤t.ops.length then 5 else 0))∧∃ p',RepIn xq w' p' b n i (wroteD d k t o)∧QT notOther w p w' p':=fun W hB=>by
     have a:=write_after h hok hop (fun e=>absurd hkd e) (fun _=>⟨by omega,by omega⟩) hB
     have e1:(plOf o).val=.agg #[.string o.key,.string ⟨#[]⟩]:=by unfold plOf;rw [if_pos (Or.inl hkd)];rfl
     have e2:(wrOf o).val=.agg #[.int .i64 0,.int .i64 o.amount,.string ⟨#[]⟩]:=by unfold wrOf;rw [if_pos hkd]
     rw [e1,e2] at a
     exact a
    obtain ⟨er,her⟩:∃ er:Int,(if 16≤t.ops.length then 5 else 0)=er:=⟨_,rfl⟩
    rw [her] at hwr ⊢
    have HCL:=hide hcl
    have HWR:=hide hwr
    have c3:¬ o.amount < -1000000:=fun e=>c2 (Or.inl e)
    have c4:¬ 1000000<o.amount:=fun e=>c2 (Or.inr e)
    clear hf h ho ea ed hok kb hcl hwr c2 hop her
    go_enter Tryz.func28,Tryz.ntmps28
    go_wp2_with (first | (go_at_call 60;refine HF.out.mono ?_;rintro e w1 ⟨rfl,rfl⟩) | (go_at_call 61;refine (HTH.out _).mono ?_;rintro e w1 ⟨rfl,rfl⟩) | (go_at_call 63;refine (HCL.out _).mono ?_;rintro e w2 ⟨rfl,hB2⟩) | (go_at_call 62;refine (HWR.out _ hB2).mono ?_;rintro e w3 ⟨rfl,hpost⟩;have HP:=hide hpost;clear hpost))
    go_ret
    exact ⟨rfl,HP.out⟩
  ·have ea:doesErr (some t) o=2:=by unfold doesErr;simp only;rw [if_pos (by rw [kb];exact c1)]
   have ed:doesD d k o=d:=by unfold doesD;rw [ho];simp only;rw [ea];rfl
   rw [ea,ed]
   clear hf h ho ea ed hok kb
   go_enter Tryz.func28,Tryz.ntmps28
   go_wp2_with (first | (go_at_call 60;refine HF.out.mono ?_;rintro e w1 ⟨rfl,rfl⟩) | (go_at_call 61;refine (HTH.out _).mono ?_;rintro e w1 ⟨rfl,rfl⟩))
   go_ret
   exact ⟨rfl,p,⟨sb,st,sl,tbs,mbs,hv,kn,HH.out⟩,QT.refl _ _ _⟩
end Go.Proofs.YtiplgdkpnhamaaaGreatDoor.Tv
namespace Go.Proofs.YtiplgdkpnhamaaaGreatDoor.Tv
open Go.RowKit
set_option maxRecDepth 100000 in
set_option maxHeartbeats 4000000 in
theorem writer_bad {xq:DX} {w:World} {p:Nat→Own} {b n i:Nat} {d:DRep} {sb:Nat} {st:St} {sl tbs mbs:Nat→Nat} {hv kn:List Value} (h:RepP xq w p b n i d sb st sl tbs mbs hv kn) (tx th:Int) (key val:ByteArray) (hks:key.size≤maxLen) (hbad:¬ werr (opnAt d tx) th key val=0) :
  Calls Tryz.prog 64 #[bptr b,.int .i64 tx,.int .u8 th,.string key,.string val] w fun e w'=>e=.returned (.tuple #[.pointer none,.int .i64 (werr (opnAt d tx) th key val)])∧w'=w:=by
 have hth:=fun W=>thing_any key W hks
 have HTH:=hide hth
 clear hth
 cases ho:opnAt d tx with
 | none=>
  have hf:=h.find_none ho
  have HF:=hide hf
  have ea:werr none th key val=4:=rfl
  rw [ea]
  clear hf h ho ea hbad
  go_enter Tryz.func64,Tryz.ntmps64
  go_wp2_with (first | (go_at_call 60;refine HF.out.mono ?_;rintro e w1 ⟨rfl,rfl⟩))
  go_ret2
  exact ⟨rfl,rfl⟩
 | some t=>
  obtain ⟨k,rfl,hk,hok,hf⟩:=h.find_some ho
  rw [ho] at hbad
  have HF:=hide hf
  by_cases c1:kindOf key=th
  ·have c2:8<val.size:=by
    by_cases c:8<val.size
    ·exact c
    ·exact absurd (by unfold werr;simp [c1,c]) hbad
   have ea:werr (some t) th key val=3:=by unfold werr;simp [c1,c2]
   rw [ea]
   rw [c1] at HTH
   clear hf h ho ea hok hbad c1
   go_enter Tryz.func64,Tryz.ntmps64
   go_wp2_with (first | (go_at_call 60;refine HF.out.mono ?_;rintro e w1 ⟨rfl,rfl⟩) | (go_at_call 61;refine (HTH.out _).mono ?_;rintro e w1 ⟨rfl,rfl⟩))
   go_ret2
   exact ⟨rfl,rfl⟩
  ·have ea:werr (some t) th key val=2:=by unfold werr;simp [c1]
   rw [ea]
   clear hf h ho ea hok hbad
   go_enter Tryz.func64,Tryz.ntmps64
   go_wp2_with (first | (go_at_call 60;refine HF.out.mono ?_;rintro e w1 ⟨rfl,rfl⟩) | (go_at_call 61;refine (HTH.out _).mono ?_;rintro e w1 ⟨rfl,rfl⟩))
   go_ret2
   exact ⟨rfl,rfl⟩
set_option maxRecDepth 100000 in
set_option maxHeartbeats 4000000 in
theorem writer_ok {xq:DX} {w:World} {p:Nat→Own} {b n i:Nat} {d:DRep} {sb:Nat} {st:St} {sl tbs mbs:Nat→Nat} {hv kn:List Value} (h:RepP xq w p b n i d sb st sl tbs mbs hv kn) (tx th:Int) (key val:ByteArray) (hks:key.size≤maxLen) (hgood:werr (opnAt d tx) th key val=0) :
  ∃ (k:Nat) (t:RTx),tx=k∧d.opn k=some t∧opnAt d tx=some t∧kindOf key=th∧val.size≤8∧Calls Tryz.prog 64 #[bptr b,.int .i64 tx,.int .u8 th,.string key,.string val] w fun e w'=>e=.returned (.tuple #[bptr (tbs k),.int .i64 0])∧w'=w:=by
 cases ho:opnAt d tx with
 | none=>rw [ho] at hgood;cases hgood
 | some t=>
  rw [ho] at hgood
  unfold werr at hgood
  simp only at hgood
  have c1:kindOf key=th:=by
   by_cases c:kindOf key=th
   ·exact c
   ·rw [if_pos c] at hgood;cases hgood
  rw [if_neg (by simp [c1])] at hgood
  have c2:¬ 8<val.size:=fun c=>by rw [if_pos c] at hgood;cases hgood
  obtain ⟨k,rfl,hk,hok,hf⟩:=h.find_some ho
  refine ⟨k,t,rfl,hok,rfl,c1,by omega,?_⟩
  have hth:=fun W=>thing_any key W hks
  rw [c1] at hth
  have HTH:=hide hth
  have HF:=hide hf
  clear hth hf hgood h ho hok c1
  go_enter Tryz.func64,Tryz.ntmps64
  go_wp2_with (first | (go_at_call 60;refine HF.out.mono ?_;rintro e w1 ⟨rfl,rfl⟩) | (go_at_call 61;refine (HTH.out _).mono ?_;rintro e w1 ⟨rfl,rfl⟩))
  go_ret2
  exact ⟨rfl,rfl⟩
set_option maxRecDepth 100000 in
set_option maxHeartbeats 4000000 in
theorem write_call {xq:DX} {w:World} {p:Nat→Own} {b n i:Nat} {d:DRep} (h:RepIn xq w p b n i d) (tx:Int) (o:ROp) (hkd:o.kind=2) (hks:o.key.size≤maxLen) (_:o.value.size≤maxLen) :
  Calls Tryz.prog 30 #[bptr b,.int .i64 tx,.string o.key,.string o.value] w fun e w'=>e=.returned (.int .i64 (doesErr (opnAt d tx) o))∧∃ p',RepIn xq w' p' b n i (doesD d tx o)∧QT notOther w p w' p':=by
 obtain ⟨sb,st,sl,tbs,mbs,hv,kn,h⟩:=h
 have hk1:¬ o.kind=1:=by omega
 have kb:kindByte o.kind=114:=by rw [hkd];rfl
 by_cases hg:werr (opnAt d tx) 114 o.key o.value=0
 ·obtain ⟨k,t,rfl,hok,ho,c1,c2,hw⟩:=writer_ok h tx 114 o.key o.value hks hg
  obtain ⟨ea,ed⟩:=does_wrote ho hk1 (by rw [kb];exact hg)
  rw [ea,ed]
  have hop:OpOk o:=⟨Or.inr (Or.inl hkd),by rw [kb];exact c1⟩
  have hcl1:=fun W=>clone_any o.key (by have:=key_small hop;omega) W
  have hcl2:=fun W=>clone_any o.value (by omega) W
  have hwr:∀ W,Below w.heap.size w W→Calls Tryz.prog 62 #[bptr (tbs k),.agg #[.string o.key,.string ⟨#[]⟩],.agg #[.int .i64 1,.int .i64 0,.string o.value]] W fun e w'=>e=.returned (.int .i64 (if 16≤t.ops.length then 5 else 0))∧∃ p',RepIn xq w' p' b n i (wroteD d k t o)∧QT notOther w p w' p':=fun W hB=>by
   have a:=write_after h hok hop (fun _=>c2) (fun e=>absurd e hk1) hB
   have e1:(plOf o).val=.agg #[.string o.key,.string ⟨#[]⟩]:=by unfold plOf;rw [if_pos (Or.inr hkd)];rfl
   have e2:(wrOf o).val=.agg #[.int .i64 1,.int .i64 0,.string o.value]:=by unfold wrOf;rw [if_neg hk1,if_pos hkd]
   rw [e1,e2] at a
   exact a
  obtain ⟨er,her⟩:∃ er:Int,(if 16≤t.ops.length then 5 else 0)=er:=⟨_,rfl⟩
  rw [her] at hwr ⊢
  have HW:=hide hw
  have HC1:=hide hcl1
  have HC2:=hide hcl2
  have HWR:=hide hwr
  clear h hg hok ho c1 c2 hw ea ed hop hcl1 hcl2 hwr her
  go_enter Tryz.func30,Tryz.ntmps30
  go_wp2_with (first | (go_at_call 64;refine HW.out.mono ?_;rintro e w1 ⟨rfl,rfl⟩))
  refine (HC1.out _).mono ?_
  rintro e w2 ⟨rfl,hB2⟩
  go_wp2_with fail
  refine (HC2.out _).mono ?_
  rintro e w3 ⟨rfl,hB3⟩
  have hB:=hB2.trans (hB3.mono hB2.size)
  clear hB2 hB3
  go_wp2_with fail
  refine (HWR.out _ hB).mono ?_
  rintro e w4 ⟨rfl,hpost⟩
  have HP:=hide hpost
  clear hpost
  go_wp2_with fail
  go_ret
  exact ⟨rfl,HP.out⟩
 ·have hw:=writer_bad h tx 114 o.key o.value hks hg
  obtain ⟨ea,ed⟩:=does_bad (d:=d) (tx:=tx) hk1 (by rw [kb];exact hg)
  rw [ea,ed,kb]
  obtain ⟨er,her⟩:∃ er:Int,werr (opnAt d tx) 114 o.key o.value=er:=⟨_,rfl⟩
  rw [her] at hw hg ⊢
  have hne:(er != 0)=true:=by simpa using hg
  have HW:=hide hw
  have HH:=hide h
  clear h hg ea ed hw her
  go_enter Tryz.func30,Tryz.ntmps30
  go_wp2_with (first | (go_at_call 64;refine HW.out.mono ?_;rintro e w1 ⟨rfl,rfl⟩))
  go_ret
  exact ⟨rfl,p,⟨sb,st,sl,tbs,mbs,hv,kn,HH.out⟩,QT.refl _ _ _⟩
set_option maxRecDepth 100000 in
set_option maxHeartbeats 4000000 in
theorem change_call {xq:DX} {w:World} {p:Nat→Own} {b n i:Nat} {d:DRep} (h:RepIn xq w p b n i d) (tx:Int) (o:ROp) (kd:Int) (hkd:(o.kind=3∧kd=2)∨(o.kind=4∧kd=3)) (hks:o.key.size≤maxLen) (_:o.value.size≤maxLen) :
  Calls Tryz.prog 73 #[bptr b,.int .i64 tx,.string o.key,.string o.value,.int .i64 kd] w fun e w'=>e=.returned (.int .i64 (doesErr (opnAt d tx) o))∧∃ p',RepIn xq w' p' b n i (doesD d tx o)∧QT notOther w p w' p':=by
 obtain ⟨sb,st,sl,tbs,mbs,hv,kn,h⟩:=h
 have hk1:¬ o.kind=1:=by omega
 have hk2:¬ o.kind=2:=by omega
 have kb:kindByte o.kind=115:=by unfold kindByte;rw [if_neg hk1,if_neg hk2]
 by_cases hg:werr (opnAt d tx) 115 o.key o.value=0
 ·obtain ⟨k,t,rfl,hok,ho,c1,c2,hw⟩:=writer_ok h tx 115 o.key o.value hks hg
  obtain ⟨ea,ed⟩:=does_wrote ho hk1 (by rw [kb];exact hg)
  rw [ea,ed]
  have hop:OpOk o:=⟨by omega,by rw [kb];exact c1⟩
  have hcl1:=fun W=>clone_any o.key (by have:=key_small hop;omega) W
  have hcl2:=fun W=>clone_any o.value (by omega) W
  have hwr:∀ W,Below w.heap.size w W→Calls Tryz.prog 62 #[bptr (tbs k),.agg #[.string o.key,.string o.value],.agg #[.int .i64 kd,.int .i64 0,.string ⟨#[]⟩]] W fun e w'=>e=.returned (.int .i64 (if 16≤t.ops.length then 5 else 0))∧∃ p',RepIn xq w' p' b n i (wroteD d k t o)∧QT notOther w p w' p':=fun W hB=>by
   have a:=write_after h hok hop (fun _=>c2) (fun e=>absurd e hk1) hB
   have e1:(plOf o).val=.agg #[.string o.key,.string o.value]:=by unfold plOf;rw [if_neg (by omega)];rfl
   have e2:(wrOf o).val=.agg #[.int .i64 kd,.int .i64 0,.string ⟨#[]⟩]:=by
    unfold wrOf;rw [if_neg hk1,if_neg hk2]
    rcases hkd with ⟨c,rfl⟩ | ⟨c,rfl⟩
    ·rw [if_pos c]
    ·rw [if_neg (by omega)]
   rw [e1,e2] at a
   exact a
  obtain ⟨er,her⟩:∃ er:Int,(if 16≤t.ops.length then 5 else 0)=er:=⟨_,rfl⟩
  rw [her] at hwr ⊢
  have HW:=hide hw
  have HC1:=hide hcl1
  have HC2:=hide hcl2
  have HWR:=hide hwr
  clear h hg hok ho c1 c2 hw ea ed hop hcl1 hcl2 hwr her hkd
  go_enter Tryz.func73,Tryz.ntmps73
  go_wp2_with (first | (go_at_call 64;refine HW.out.mono ?_;rintro e w1 ⟨rfl,rfl⟩))
  refine (HC1.out _).mono ?_
  rintro e w2 ⟨rfl,hB2⟩
  go_wp2_with fail
  refine (HC2.out _).mono ?_
  rintro e w3 ⟨rfl,hB3⟩
  have hB:=hB2.trans (hB3.mono hB2.size)
  clear hB2 hB3
  go_wp2_with fail
  refine (HWR.out _ hB).mono ?_
  rintro e w4 ⟨rfl,hpost⟩
  have HP:=hide hpost
  clear hpost
  go_wp2_with fail
  go_ret
  exact ⟨rfl,HP.out⟩
 ·have hw:=writer_bad h tx 115 o.key o.value hks hg
  obtain ⟨ea,ed⟩:=does_bad (d:=d) (tx:=tx) hk1 (by rw [kb];exact hg)
  rw [ea,ed,kb]
  obtain ⟨er,her⟩:∃ er:Int,werr (opnAt d tx) 115 o.key o.value=er:=⟨_,rfl⟩
  rw [her] at hw hg ⊢
  have hne:(er != 0)=true:=by simpa using hg
  have HW:=hide hw
  have HH:=hide h
  clear h hg ea ed hw her hkd
  go_enter Tryz.func73,Tryz.ntmps73
  go_wp2_with (first | (go_at_call 64;refine HW.out.mono ?_;rintro e w1 ⟨rfl,rfl⟩))
  go_ret
  exact ⟨rfl,p,⟨sb,st,sl,tbs,mbs,hv,kn,HH.out⟩,QT.refl _ _ _⟩
set_option maxRecDepth 100000 in
theorem insert_call {xq:DX} {w:World} {p:Nat→Own} {b n i:Nat} {d:DRep} (h:RepIn xq w p b n i d) (tx:Int) (o:ROp) (hkd:o.kind=3) (hks:o.key.size≤maxLen) (hvs:o.value.size≤maxLen) :
  Calls Tryz.prog 38 #[bptr b,.int .i64 tx,.string o.key,.string o.value] w fun e w'=>e=.returned (.int .i64 (doesErr (opnAt d tx) o))∧∃ p',RepIn xq w' p' b n i (doesD d tx o)∧QT notOther w p w' p':=by
 have HC:=hide (change_call h tx o 2 (Or.inl ⟨hkd,rfl⟩) hks hvs)
 clear h
 obtain ⟨er,her⟩:∃ er,doesErr (opnAt d tx) o=er:=⟨_,rfl⟩
 unfold Hid at HC
 rw [her] at HC ⊢
 have HC':=hide HC
 clear HC her
 go_enter Tryz.func38,Tryz.ntmps38
 go_wp2_with fail
 refine HC'.out.mono ?_
 rintro e w4 ⟨rfl,hpost⟩
 have HP:=hide hpost
 clear hpost
 go_wp2_with fail
 go_ret
 exact ⟨rfl,HP.out⟩
set_option maxRecDepth 100000 in
theorem remove_call {xq:DX} {w:World} {p:Nat→Own} {b n i:Nat} {d:DRep} (h:RepIn xq w p b n i d) (tx:Int) (o:ROp) (hkd:o.kind=4) (hks:o.key.size≤maxLen) (hvs:o.value.size≤maxLen) :
  Calls Tryz.prog 44 #[bptr b,.int .i64 tx,.string o.key,.string o.value] w fun e w'=>e=.returned (.int .i64 (doesErr (opnAt d tx) o))∧∃ p',RepIn xq w' p' b n i (doesD d tx o)∧QT notOther w p w' p':=by
 have HC:=hide (change_call h tx o 3 (Or.inr ⟨hkd,rfl⟩) hks hvs)
 clear h
 obtain ⟨er,her⟩:∃ er,doesErr (opnAt d tx) o=er:=⟨_,rfl⟩
 unfold Hid at HC
 rw [her] at HC ⊢
 have HC':=hide HC
 clear HC her
 go_enter Tryz.func44,Tryz.ntmps44
 go_wp2_with fail
 refine HC'.out.mono ?_
 rintro e w4 ⟨rfl,hpost⟩
 have HP:=hide hpost
 clear hpost
 go_wp2_with fail
 go_ret
 exact ⟨rfl,HP.out⟩
end Go.Proofs.YtiplgdkpnhamaaaGreatDoor.Tv
namespace Go.Proofs.YtiplgdkpnhamaaaGreatDoor.Tv
open Go.RowKit
theorem RepP.snapIn {xq:DX} {w:World} {p:Nat→Own} {b n i k:Nat} {d:DRep} {sb:Nat} {st:St} {sl tbs mbs:Nat→Nat} {hv kn:List Value} {t:RTx} (h:RepP xq w p b n i d sb st sl tbs mbs hv kn) (hR:d.hs.length≤1100000) (ht:d.opn k=some t) :
  (∃ kept,SnapIn w p sb (48 * d.hs.length) (sl k) st (vecOf t.saw) kept)∧OpenTx w (tbs k) (sl k) (mbs k) t.ops.length (t.ops.length:Nat) (ownOf t.ops)∧TxOk n d.hs t∧∃ s,s ∈ st.snaps∧s.saw=vecOf t.saw:=by
 obtain ⟨hto,s,hs,hb,hsaw⟩:=h.ok.opn k t ht
 have hT:=h.tx k t ht
 refine ⟨?_,⟨hT.blk.blk,hT.own⟩,hto,s,hs,hsaw⟩
 obtain ⟨vb,cb,eb,ov,cv,ev,kv,hst⟩:=h.sto
 refine ⟨kv s.blk,⟨vb,cb,eb,ov,cv,ev,kv,hst⟩,?_,h.ok.ginv.wf,fun q=>Nat.le_trans (h.ok.came_len q) (by omega)⟩
 have a:=(hst.snap s hs).blk
 rw [hsaw,hb] at a
 rw [hb]
 exact a
set_option maxRecDepth 100000 in
set_option maxHeartbeats 4000000 in
theorem read_call {xq:DX} {w:World} {p:Nat→Own} {b n i:Nat} {d:DRep} (h:RepIn xq w p b n i d) (hR:d.hs.length≤1100000) (tx:Int) (key:ByteArray) (hks:key.size≤maxLen) :
  Calls Tryz.prog 33 #[bptr b,.int .i64 tx,.string key] w fun e w'=>∃ lv,e=.returned (valAgg (readAns (opnAt d tx) key d.hs n).1 lv (readAns (opnAt d tx) key d.hs n).2.2) ∧
   w'.ownsRow w.heap.size 9 1 lv (readAns (opnAt d tx) key d.hs n).2.1.length (strs (readAns (opnAt d tx) key d.hs n).2.1)∧Below w.heap.size w w':=by
 obtain ⟨sb,st,sl,tbs,mbs,hv,kn,h⟩:=h
 have hth:=fun W=>thing_any key W hks
 have HTH:=hide hth
 clear hth
 generalize hW0:w.alloc (.cells #[.int .i64 0,.slice none 0 0] 66)=W0
 have hB0:Below w.heap.size w W0:=by rw [← hW0];exact (Below.refl _ _).alloc (Nat.le_refl _) _
 have hz0:W0.heap.size=w.heap.size+1:=by rw [← hW0];simp
 have bv:Blk W0 w.heap.size [.int .i64 0,.slice none 0 0] 66:=by rw [← hW0];exact heap_alloc_new w _
 have h0:=h.below hB0
 clear h
 cases ho:opnAt d tx with
 | none=>
  have HF:=hide (h0.find_none ho)
  have ea:readAns none key d.hs n=(0,[],4):=rfl
  rw [ea]
  have HW0:=hide hW0
  have HB:=hide (⟨hB0,bv⟩:_∧_)
  have v0:W0.cell? ⟨w.heap.size,0,none⟩=some (.int .i64 0):=bv.cell 0
  have v1:W0.cell? ⟨w.heap.size,1,none⟩=some (.slice none 0 0):=bv.cell 1
  have f0:W0.frozen? ⟨w.heap.size,0,none⟩=false:=bv.frozen 0
  have f1:W0.frozen? ⟨w.heap.size,1,none⟩=false:=bv.frozen 1
  have hl:w.heap.size<W0.heap.size:=bv.lt
  clear h0 ho ea hW0 hB0 bv hz0
  go_enter Tryz.func33,Tryz.ntmps33
  go_upto_region 1 with (fail)
  rw [HW0.out]
  go_wp2_with (go_at_call 60;refine HF.out.mono ?_;rintro e w1 ⟨rfl,rfl⟩)
  refine bodyPost_ret (v:=valAgg 0 (.slice none 0 0) 4) (by simp [results,Tryz.results33,go_sem,v0,v1]) rfl ⟨_,rfl,by simpa [strs] using World.ownsRow_nil _ _ _ _,(HB.out.1.setCell (Nat.le_refl _) _).setCell (Nat.le_refl _) _⟩
 | some t=>
  obtain ⟨k,rfl,hk,hok,hf⟩:=h0.find_some ho
  obtain ⟨⟨kept,hS⟩,hT,hto,s,hs,hsaw⟩:=h0.snapIn hR hok
  have HF:=hide hf
  have HW0:=hide hW0
  have HB:=hide (⟨hB0,bv⟩:_∧_)
  have v0:W0.cell? ⟨w.heap.size,0,none⟩=some (.int .i64 0):=bv.cell 0
  have v1:W0.cell? ⟨w.heap.size,1,none⟩=some (.slice none 0 0):=bv.cell 1
  have f0:W0.frozen? ⟨w.heap.size,0,none⟩=false:=bv.frozen 0
  have f1:W0.frozen? ⟨w.heap.size,1,none⟩=false:=bv.frozen 1
  have hl:w.heap.size<W0.heap.size:=bv.lt
  have hops:∀ o,o ∈ t.ops→OpOk o:=fun o h=>(hto.ops.ops o h).1
  have hRO:=h0.ok
  by_cases c1:kindOf key=99
  ·have ea:readAns (some t) key d.hs n=(wrap64 (counterOf t.saw key d.hs+sumOf key t.ops),[],0):=by unfold readAns;simp only;rw [if_pos c1]
   rw [ea]
   obtain ⟨g1,g2⟩:=own_cnt c1 t.ops hops
   have hc:=tsum_any hS hT key hks
   rw [wr_amount g2,g1,show sumTold st.vers ⟨key,noEl⟩ (toldRaw (vecOf t.saw) st ⟨key,noEl⟩)=counterOf t.saw key d.hs from hRO.tellsSum (by omega) hto hs hsaw c1 (List.Perm.refl _)] at hc
   have HC:=hide hc
   rw [c1] at HTH
   generalize wrap64 (counterOf t.saw key d.hs+sumOf key t.ops)=res at *
   clear h0 ho ea hW0 hB0 bv hz0 hf hS hT hto hs hsaw hok hc hRO hops g1 g2
   go_enter Tryz.func33,Tryz.ntmps33
   go_upto_region 1 with (fail)
   rw [HW0.out]
   go_wp2_with (first | (go_at_call 60;refine HF.out.mono ?_;rintro e w1 ⟨rfl,rfl⟩) | (go_at_call 61;refine (HTH.out _).mono ?_;rintro e w1 ⟨rfl,rfl⟩))
   refine HC.out.mono ?_
   rintro e w2 ⟨rfl,hB2⟩
   have bv2:=HB.out.2.below hB2
   have r0:w2.cell? ⟨w.heap.size,0,none⟩=some (.int .i64 0):=bv2.cell 0
   have r1:w2.cell? ⟨w.heap.size,1,none⟩=some (.slice none 0 0):=bv2.cell 1
   have rf0:w2.frozen? ⟨w.heap.size,0,none⟩=false:=bv2.frozen 0
   have rf1:w2.frozen? ⟨w.heap.size,1,none⟩=false:=bv2.frozen 1
   have rl:w.heap.size<w2.heap.size:=bv2.lt
   have hBf:Below w.heap.size w w2:=HB.out.1.trans (hB2.mono HB.out.1.size)
   have HBF:=hide hBf
   clear v0 v1 f0 f1 hl bv2 hB2 hBf
   go_wp2_with fail
   refine bodyPost_ret (v:=valAgg res (.slice none 0 0) 0) (by simp [results,Tryz.results33,go_sem,r0,r1]) rfl ⟨_,rfl,by simpa [strs] using World.ownsRow_nil _ _ _ _,(HBF.out.setCell (Nat.le_refl _) _).setCell (Nat.le_refl _) _⟩
  ·by_cases c2:kindOf key=114
   ·have ea:readAns (some t) key d.hs n=(0,(match lastOf key noEl t.ops with | some o=>[o.value] | none=>registerOf t.saw key d.hs n),0):=by unfold readAns;simp only;rw [if_neg c1,if_pos c2];rfl
    rw [ea]
    obtain ⟨res,hres⟩:∃ res,(match lastOf key noEl t.ops with | some o=>[o.value] | none=>registerOf t.saw key d.hs n)=res:=⟨_,rfl⟩
    have hc:Calls Tryz.prog 69 #[bptr (tbs k),.string key] W0 fun e w'=>∃ v,e=.returned v∧w'.ownsRow W0.heap.size 9 1 v res.length (strs res)∧Below W0.heap.size W0 w':=by
     have hor:=own_reg c2 t.ops hops
     cases hlast:lastOf key noEl t.ops with
     | some o=>
      rw [hlast] at hor hres
      refine (tvalues_own hT key hks hor).mono ?_
      rintro e w' ⟨v,rfl,a1,a2⟩
      refine ⟨v,rfl,?_,a2⟩
      rw [← hres];exact a1
     | none=>
      rw [hlast] at hor hres
      refine (tvalues_told hS hT key hks hor).mono ?_
      rintro e w' ⟨v,l,a1,a2,rfl,a3,a4⟩
      refine ⟨v,rfl,?_,a4⟩
      have e1:valsTold st.vers ⟨key,noEl⟩ l=registerOf t.saw key d.hs n:=hRO.tellsReg (by omega) hto hs hsaw c2 a1 a2
      rw [← hres,← e1];exact a3
    rw [hres]
    have HC:=hide hc
    rw [c2] at HTH
    clear h0 ho ea hW0 hB0 bv hz0 hf hS hT hto hs hsaw hok hc hRO hops hres
    go_enter Tryz.func33,Tryz.ntmps33
    go_upto_region 1 with (fail)
    rw [HW0.out]
    go_wp2_with (first | (go_at_call 60;refine HF.out.mono ?_;rintro e w1 ⟨rfl,rfl⟩) | (go_at_call 61;refine (HTH.out _).mono ?_;rintro e w1 ⟨rfl,rfl⟩))
    refine HC.out.mono ?_
    rintro e w2 ⟨v,rfl,hown,hB2⟩
    obtain ⟨lo,lcap,hlv,-,-,-⟩:=Row.shape (ownsRow_low hown (Nat.zero_le _))
    subst hlv
    have bv2:=HB.out.2.below hB2
    have r0:w2.cell? ⟨w.heap.size,0,none⟩=some (.int .i64 0):=bv2.cell 0
    have r1:w2.cell? ⟨w.heap.size,1,none⟩=some (.slice none 0 0):=bv2.cell 1
    have rf0:w2.frozen? ⟨w.heap.size,0,none⟩=false:=bv2.frozen 0
    have rf1:w2.frozen? ⟨w.heap.size,1,none⟩=false:=bv2.frozen 1
    have rl:w.heap.size<w2.heap.size:=bv2.lt
    have hBf:Below w.heap.size w w2:=HB.out.1.trans (hB2.mono HB.out.1.size)
    have HBF:=hide (⟨hBf,hown⟩:_∧_)
    clear v0 v1 f0 f1 bv2 hB2 hBf hown
    go_wp2_with fail
    refine bodyPost_ret (v:=valAgg 0 (.slice lo res.length lcap) 0) (by simp [results,Tryz.results33,go_sem,r0,r1]) rfl ⟨_,rfl,?_,(HBF.out.1.setCell (Nat.le_refl _) _).setCell (Nat.le_refl _) _⟩
    exact ownsRow_low (ownsRow_setCell_below (ownsRow_setCell_below HBF.out.2 (a:=⟨w.heap.size,0,none⟩) hl _) (a:=⟨w.heap.size,1,none⟩) hl _) (Nat.le_of_lt hl)
   ·by_cases c3:kindOf key=115
    ·have ea:readAns (some t) key d.hs n=(0,readSet key t.ops (setOf t.saw key d.hs),0):=by unfold readAns;simp only;rw [if_neg c1,if_neg c2,if_pos c3]
     rw [ea]
     have hc:Calls Tryz.prog 70 #[bptr (tbs k),.string key] W0 fun e w'=>∃ v,e=.returned v∧w'.ownsRow W0.heap.size 9 1 v (readSet key t.ops (setOf t.saw key d.hs)).length (strs (readSet key t.ops (setOf t.saw key d.hs)))∧Below W0.heap.size W0 w':=by
      refine (telements_any hS hT (fun q x hq=>(own_kinds t.ops hto.ops.old x hq).2) key hks (by have:=hto.ops.few;omega)).mono ?_
      rintro e w' ⟨v,l,rfl,a1,a2,-,a3,a4⟩
      have e1:l=readSet key t.ops (setOf t.saw key d.hs):=readSet_eq c3 hops a1 (fun a=>by
       rw [a2 a]
       obtain ⟨t1,t2⟩:=hRO.tellsSet (by omega) hto hs hsaw c3 a
       rw [← t1]
       constructor
       ·rintro (⟨⟨-,x2⟩,x3⟩ | x)
        ·exact Or.inl ⟨x2,x3⟩
        ·exact Or.inr x
       ·rintro (⟨x2,x3⟩ | x)
        ·exact Or.inl ⟨⟨t2 x2,x2⟩,x3⟩
        ·exact Or.inr x)
      exact ⟨v,rfl,by rw [← e1];exact a3,a4⟩
     obtain ⟨res,hres⟩:∃ res,readSet key t.ops (setOf t.saw key d.hs)=res:=⟨_,rfl⟩
     rw [hres] at hc
     rw [hres]
     have HC:=hide hc
     rw [c3] at HTH
     clear h0 ho ea hW0 hB0 bv hz0 hf hS hT hto hs hsaw hok hc hRO hops hres
     go_enter Tryz.func33,Tryz.ntmps33
     go_upto_region 1 with (fail)
     rw [HW0.out]
     go_wp2_with (first | (go_at_call 60;refine HF.out.mono ?_;rintro e w1 ⟨rfl,rfl⟩) | (go_at_call 61;refine (HTH.out _).mono ?_;rintro e w1 ⟨rfl,rfl⟩))
     refine HC.out.mono ?_
     rintro e w2 ⟨v,rfl,hown,hB2⟩
     obtain ⟨lo,lcap,hlv,-,-,-⟩:=Row.shape (ownsRow_low hown (Nat.zero_le _))
     subst hlv
     have bv2:=HB.out.2.below hB2
     have r0:w2.cell? ⟨w.heap.size,0,none⟩=some (.int .i64 0):=bv2.cell 0
     have r1:w2.cell? ⟨w.heap.size,1,none⟩=some (.slice none 0 0):=bv2.cell 1
     have rf0:w2.frozen? ⟨w.heap.size,0,none⟩=false:=bv2.frozen 0
     have rf1:w2.frozen? ⟨w.heap.size,1,none⟩=false:=bv2.frozen 1
     have rl:w.heap.size<w2.heap.size:=bv2.lt
     have hBf:Below w.heap.size w w2:=HB.out.1.trans (hB2.mono HB.out.1.size)
     have HBF:=hide (⟨hBf,hown⟩:_∧_)
     clear v0 v1 f0 f1 bv2 hB2 hBf hown
     go_wp2_with fail
     refine bodyPost_ret (v:=valAgg 0 (.slice lo res.length lcap) 0) (by simp [results,Tryz.results33,go_sem,r0,r1]) rfl ⟨_,rfl,?_,(HBF.out.1.setCell (Nat.le_refl _) _).setCell (Nat.le_refl _) _⟩
     exact ownsRow_low (ownsRow_setCell_below (ownsRow_setCell_below HBF.out.2 (a:=⟨w.heap.size,0,none⟩) hl _) (a:=⟨w.heap.size,1,none⟩) hl _) (Nat.le_of_lt hl)
    ·have ea:readAns (some t) key d.hs n=(0,[],2):=by unfold readAns;simp only;rw [if_neg c1,if_neg c2,if_neg c3]
     rw [ea]
     have e1:(kindOf key == 99)=false:=beq_false_of_ne c1
     have e2:(kindOf key == 114)=false:=beq_false_of_ne c2
     have e3:(kindOf key == 115)=false:=beq_false_of_ne c3
     generalize kindOf key=kk at *
     clear h0 ho ea hW0 hB0 bv hz0 hf hS hT hto hs hsaw hok hRO hops c1 c2 c3
     go_enter Tryz.func33,Tryz.ntmps33
     go_upto_region 1 with (fail)
     rw [HW0.out]
     go_wp2_with (first | (go_at_call 60;refine HF.out.mono ?_;rintro e w1 ⟨rfl,rfl⟩) | (go_at_call 61;refine (HTH.out _).mono ?_;rintro e w1 ⟨rfl,rfl⟩))
     refine bodyPost_ret (v:=valAgg 0 (.slice none 0 0) 2) (by simp [results,Tryz.results33,go_sem,v0,v1]) rfl ⟨_,rfl,by simpa [strs] using World.ownsRow_nil _ _ _ _,(HB.out.1.setCell (Nat.le_refl _) _).setCell (Nat.le_refl _) _⟩
end Go.Proofs.YtiplgdkpnhamaaaGreatDoor.Tv
namespace Go.Proofs.YtiplgdkpnhamaaaGreatDoor.Tv
open Go.RowKit
theorem put_vis {n:Nat} {l:List Int} (hl:l.length=n) (hn:n≤5) {r:Nat} (hr:r<n) (s:Int):(vecOf l).put r s=vecOf (l.set r s):=by
 refine vec_ext fun k hk=>?_
 rw [vec_put_get _ (by omega),vecOf_get (by omega),vecOf_get (by simp;omega)]
 simp only [Int.toNat_natCast,List.getD_eq_getElem?_getD,List.getElem?_set]
 by_cases c:k=r
 ·subst c;rw [if_pos rfl,if_pos rfl,if_pos (by omega)];rfl
 ·rw [if_neg c,if_neg (fun e=>c e.symm)]
theorem ap_step {n i:Nat} {d:DRep} {st:St} {sl:Nat→Nat} (h:RepOk n i d st sl) (hR:d.hs.length≤1100000) {u:RTx} (hu:NewOk n d.hs u) :
  ApStep (fun left st'=>MInv (histOf (d.hs ++ [u])) setPl d.hs.length left st st') (ownOf u.ops) (vecOf u.saw) ((histOf (d.hs ++ [u])).dot d.hs.length):=by
 have hW:=h.wrOk (by omega) hu
 refine ⟨fun left st' hM=>hM.wf,fun left st' q hM=>?_,fun left st' hM s hs=>?_,fun q x hx=>?_,fun left st' q x hM hl hx=>write_inv hM hW (by rw [wr_new];exact hx) hl⟩
 ·have:=came_bound (N:=d.hs.length+1) hM.wf (hM.pl q) (by split <;> omega)
  omega
 ·have hH:HistG n (d.hs ++ [u]):=h.hist.snoc hu
  have hlen:(d.hs ++ [u]).length=d.hs.length+1:=by simp
  have:=kept_bound (H:=histOf (d.hs ++ [u])) (N:=d.hs.length+1) hM.kn (fun p=>⟨_,by split <;> omega,hM.pl p⟩) (pl:=fun j=>(txAt (d.hs ++ [u]) j).ops.map plOf) (fun j=>by
   rw [List.length_map]
   by_cases c:j<(d.hs ++ [u]).length
   ·rw [txAt_eq c];exact (hH.tx j c).ops.few
   ·have e:(d.hs ++ [u])[j]? = none:=List.getElem?_eq_none (by omega)
    have e2:txAt (d.hs ++ [u]) j=⟨0,0,[],[]⟩:=by unfold txAt;rw [List.getD_eq_getElem?_getD,e];rfl
    rw [e2];simp) (fun j p _ hw=>wr_places _ j p hw) s hs
  omega
 ·have:=own_kinds u.ops hu.ops.old x hx
  refine ⟨?_,this.2⟩
  rcases this.1 with c | c | c
  ·exact Or.inl c.1
  ·exact Or.inr (Or.inl c.1)
  ·rcases c.1 with c | c
   ·exact Or.inr (Or.inr (Or.inl c))
   ·exact Or.inr (Or.inr (Or.inr c))
abbrev trVal (r:Nat) (sq:Int) (v:Vec) (mb:Nat):Value:=.agg #[.int .i64 r,.int .i64 sq,.int .i64 v.a,.int .i64 v.b,.int .i64 v.c,.int .i64 v.d,.int .i64 v.e,.map (some mb)]
theorem apply_rep {xq:DX} {w:World} {p:Nat→Own} {b n i:Nat} {d:DRep} {sb:Nat} {st:St} {sl tbs mbs:Nat→Nat} {hv kn:List Value} {u:RTx} {mb:Nat} (h:RepP xq w p b n i d sb st sl tbs mbs hv kn) (hR:d.hs.length≤1100000) (hu:NewOk n d.hs u) (hM:TrIn w (trOf u,mb)) (hmt:p mb=.held 5) {W:World} (hB:Below w.heap.size w W) :
  Calls Tryz.prog 105 #[bptr sb,trVal u.rep.toNat u.seq (vecOf u.saw) mb] W fun e w'=>e=.returned (.tuple #[]) ∧
   ∃ p' st',StIn w' p' sb (48 * (d.hs.length+1)) st'∧RepOk n i (showD d u) st' sl∧(st'.snaps.map Snap.blk=st.snaps.map Snap.blk)∧QT stoTag w p w' p':=by
 have hH:HistG n (d.hs ++ [u]):=h.ok.hist.snoc hu
 have hd:(histOf (d.hs ++ [u])).dot d.hs.length=⟨(u.rep.toNat:Nat),u.seq⟩:=by
  rw [hH.dotJ (by simp),hu.repN];simp
 have hS:=ap_step h.ok hR hu
 rw [hd] at hS
 have h5:=h.ok.hist.n5
 have hrn:=hu.rN
 have hc:=cntR_le d.hs u.rep.toNat
 have hdo:(⟨(u.rep.toNat:Nat),u.seq⟩:Dot).Ok:=⟨by show (0:Int)≤((u.rep.toNat:Nat):Int);omega,by show ((u.rep.toNat:Nat):Int)<5;omega,seq_wf (by show (0:Int)≤u.seq;rw [hu.seq];omega) (by show u.seq≤3000000;rw [hu.seq];omega)⟩
 have hst:=h.ok.start u
 have a:=apply_st (P:=fun left st'=>MInv (histOf (d.hs ++ [u])) setPl d.hs.length left st st') (h.sto.below hB) (MapIn.move hM (hB.block _ hM.lt)) (by rw [hmt];simp [stoTag]) (Nat.le_refl 16) hS hst hdo (by omega)
 refine a.mono ?_
 rintro e w' ⟨rfl,p',st',⟨left,hMi,hl⟩,hI,hq⟩
 have hv:st'.vis.put (u.rep.toNat:Nat) u.seq=vecOf (visOf n (d.hs ++ [u])):=by
  rw [hMi.vis,h.ok.svis,h.ok.vis,put_vis (visOf_len _ _) h5 hrn,visOf_snoc hu.r0 hu.rn,visOf_get hrn,hu.seq]
 refine ⟨rfl,p',_,hI,?_,?_,(QT.ofBelow hB).trans hq⟩
 ·show RepOk n i _ { st' with vis:=st'.vis.put (u.rep.toNat:Nat) u.seq } sl
  rw [hv]
  exact h.ok.finish hu hMi hl
 ·exact hMi.blks
end Go.Proofs.YtiplgdkpnhamaaaGreatDoor.Tv
