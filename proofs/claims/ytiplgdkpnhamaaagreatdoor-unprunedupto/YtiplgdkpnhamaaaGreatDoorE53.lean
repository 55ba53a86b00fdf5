/- The texts QU1, QU2, joined. -/
import Derived.Test.YtiplgdkpnhamaaaGreatDoorE47
namespace Go.Proofs.YtiplgdkpnhamaaaGreatDoor.Tv
open Go.RowKit
section
variable {n:Nat} {ts hs hs':List RTx}
theorem fil_same (hT:HistG n ts) (hH:HistG n hs) (hH':HistG n hs') (hm:∀ v,v ∈ hs→v ∈ ts) (hm':∀ v,v ∈ hs'→v ∈ ts) {r:Nat} (e:cntR hs r=cntR hs' r):filR hs r=filR hs' r:=by
 refine List.ext_getElem e fun j h1 h2=>?_
 obtain ⟨a1,a2⟩:=fil_seq hH r j h1
 obtain ⟨b1,b2⟩:=fil_seq hH' r j h2
 exact hT.one_ (hm _ (List.mem_filter.1 (List.getElem_mem h1)).1) (hm' _ (List.mem_filter.1 (List.getElem_mem h2)).1) (by rw [a2,b2]) (by rw [a1,b1])
theorem bey_same (hT:HistG n ts) (hH:HistG n hs) (hH':HistG n hs') (hm:∀ v,v ∈ hs→v ∈ ts) (hm':∀ v,v ∈ hs'→v ∈ ts) (e:∀ r,cntR hs r=cntR hs' r) (v:Vec):beyondL hs newX v=beyondL hs' newX v:=by
 unfold beyondL
 rw [List.flatMap_def,List.flatMap_def]
 congr 1
 refine List.map_congr_left fun r _=>?_
 show (filR hs r).drop _=(filR hs' r).drop _
 rw [fil_same hT hH hH' hm hm' (e r)]
end
structure Good (n:Nat) (s:PS):Prop where
 hist:HistG n s.ts
 at_:∀ k,k<n→HistG n (s.H k)∧∀ u,u ∈ s.H k→u ∈ s.ts
 let_:∀ l,l ∈ s.L→HistG n l.hs∧∀ u,u ∈ l.hs→u ∈ s.ts
theorem Ks.good {n c:Nat} {w0 w:World} {gb g cap:Nat} {B:Nat→Nat} {s:PS} {O:Nat→Nat→Option RTx} {X:Nat→DX} {o:Nat→Tag} (h:Ks n c w0 gb g cap B s.ts s.H O X s.L w o):Good n s:=
 ⟨h.hist,fun _ hk=>h.histAt hk,fun l hl=>⟨(h.ok l hl).hist,(h.ok l hl).sub⟩⟩
structure Rel (n:Nat) (s s':PS):Prop where
 ts:s.ts=s'.ts
 H:∀ k r,k<n→cntR (s.H k) r=cntR (s'.H k) r
 len:s.L.length=s'.L.length
 L:∀ k (h:k<s.L.length) (h':k<s'.L.length),s.L[k].v=s'.L[k].v∧∀ r,cntR s.L[k].hs r=cntR s'.L[k].hs r
theorem Rel.vis {n:Nat} {s s':PS} (h:Rel n s s') {k:Nat} (hk:k<n):visOf n (s.H k)=visOf n (s'.H k):=vis_eq.2 fun r _=>h.H k r hk
theorem Rel.first (n:Nat):Rel n ⟨[],fun _=>[],[]⟩ ⟨[],fun _=>[],[]⟩:=⟨rfl,fun _ _ _=>rfl,rfl,fun _ _ _=>⟨rfl,fun _=>rfl⟩⟩
theorem mkC_same {n i:Nat} {a a' b b':List RTx} (h1:cntR a i=cntR a' i) (h2:visOf n b=visOf n b') (ops:List ROp):mkC n i a b ops=mkC n i a' b' ops:=by
 unfold mkC
 rw [h1,h2]
theorem put_rel {n i:Nat} {H H':Nat→List RTx} {a a':List RTx} (h:∀ k r,k<n→cntR (H k) r=cntR (H' k) r) (ha:∀ r,cntR a r=cntR a' r):∀ k r,k<n→cntR (put H i a k) r=cntR (put H' i a' k) r:=fun k r hk=>by
 by_cases c:k=i
 ·subst c;rw [put_same,put_same];exact ha r
 ·rw [put_other c,put_other c];exact h k r hk
theorem cnt_same {n:Nat} {hs hs':List RTx} (h1:HistG n hs) (h2:HistG n hs') (e:visOf n hs=visOf n hs') (r:Nat):cntR hs r=cntR hs' r:=by
 by_cases c:r<n
 ·exact vis_eq.1 e r c
 ·rw [h1.high (by omega),h2.high (by omega)]
theorem Rel.heard {n:Nat} {s s':PS} (h:Rel n s s') {us us' a a':List RTx} {j:Nat} (hj:j<n) (hT:HistG n s.ts) (hus:∀ u,u ∈ us→u ∈ s.ts) (eu:us=us') (r1:RecH n (s.H j) us a) (r2:RecH n (s'.H j) us' a') (g1:HistG n a) (g2:HistG n a'):∀ r,cntR a r=cntR a' r:=by
 subst eu
 exact cnt_same g1 g2 (rec_same hT hus (h.vis hj) r1 r2)
theorem Rel.step {n:Nat} (hn:0<n) {p:KOp} {s s' t t':PS} (h:Rel n s s') (g:Good n s) (g':Good n s') (r1:StepR n p s t) (r2:StepR n p s' t') (G:Good n t) (G':Good n t'):Rel n t t':=by
 have hi:=pickOf_lt p.a n hn
 have hj:=pickOf_lt p.b n hn
 have ets:=h.ts
 unfold StepR at r1 r2
 by_cases q1:p.kind=1
 ·rw [if_pos q1] at r1 r2
  subst r1 r2
  have e:=mkC_same (n:=n) (i:=pickOf p.a n) (h.H _ _ hi) (h.vis hi) [wOp p.b p.c]
  refine ⟨?_,put_rel h.H fun r=>?_,h.len,h.L⟩
  ·show s.ts ++ [_]=s'.ts ++ [_]
   rw [ets,e]
  ·rw [cntR_snoc,cntR_snoc,e,h.H _ r hi]
 rw [if_neg q1] at r1 r2
 by_cases q2:p.kind=2
 ·rw [if_pos q2] at r1 r2
  obtain ⟨u,v,eu,ev,e1⟩:=r1
  obtain ⟨u',v',eu',ev',e1'⟩:=r2
  have e:u=u':=by rw [eu,eu'];exact mkC_same (h.H _ _ hi) (h.vis hi) _
  subst e
  have e2:v=v':=by
   rw [ev,ev']
   refine mkC_same ?_ (h.vis hi) _
   rw [cntR_snoc,cntR_snoc,h.H _ _ hi]
  subst e2
  subst e1 e1'
  refine ⟨?_,put_rel h.H fun r=>?_,h.len,h.L⟩
  ·show s.ts ++ [u] ++ [v]=s'.ts ++ [u] ++ [v]
   rw [ets]
  ·rw [cntR_snoc,cntR_snoc,cntR_snoc,cntR_snoc,h.H _ r hi]
 rw [if_neg q2] at r1 r2
 by_cases q3:p.kind=3
 ·rw [if_pos q3] at r1 r2
  obtain ⟨a,e1,R1⟩:=r1
  obtain ⟨a',e1',R1'⟩:=r2
  subst e1 e1'
  have ga:=(G.at_ _ hj).1
  have ga':=(G'.at_ _ hj).1
  simp only [put_same] at ga ga'
  refine ⟨ets,put_rel h.H (h.heard hj g.hist (fun u hu=>(g.at_ _ hi).2 u (bey_mem hu)) ?_ R1 R1' ga ga'),h.len,h.L⟩
  rw [h.vis hj]
  exact bey_same g.hist (g.at_ _ hi).1 (g'.at_ _ hi).1 (g.at_ _ hi).2 (by rw [ets];exact (g'.at_ _ hi).2) (fun r=>h.H _ r hi) _
 rw [if_neg q3] at r1 r2
 by_cases q4:p.kind=4
 ·rw [if_pos q4] at r1 r2
  subst r1 r2
  refine ⟨ets,h.H,by simp [h.len],fun k h1 h2=>?_⟩
  by_cases c:k<s.L.length
  ·have c':k<s'.L.length:=by rw [← h.len];exact c
   simp only [List.getElem_append_left c,List.getElem_append_left c']
   exact h.L k c c'
  ·have c':¬ k<s'.L.length:=by rw [← h.len];exact c
   have h1':k<(s.L ++ [_]).length:=h1
   have e:k=s.L.length:=by simp at h1';omega
   have e':k=s'.L.length:=by rw [← h.len];exact e
   simp only [List.getElem_append_right (Nat.le_of_not_lt c),List.getElem_append_right (Nat.le_of_not_lt c'),List.getElem_singleton]
   exact ⟨by rw [h.vis hj],fun r=>h.H _ r hi⟩
 rw [if_neg q4] at r1 r2
 by_cases q5:p.kind=5
 ·rw [if_pos q5] at r1 r2
  by_cases c:0<s.L.length
  ·have c':0<s'.L.length:=by rw [← h.len];exact c
   rw [dif_pos c] at r1
   rw [dif_pos c'] at r2
   obtain ⟨a,e1,R1⟩:=r1
   obtain ⟨a',e1',R1'⟩:=r2
   subst e1 e1'
   have ga:=(G.at_ _ hj).1
   have ga':=(G'.at_ _ hj).1
   simp only [put_same] at ga ga'
   have hk:=pickOf_lt p.c s.L.length c
   have hk':pickOf p.c s.L.length<s'.L.length:=by rw [← h.len];exact hk
   have ek:s'.L[pickOf p.c s'.L.length]'(pickOf_lt _ _ c')=s'.L[pickOf p.c s.L.length]:=by simp only [h.len]
   rw [ek] at R1'
   obtain ⟨l1,l2⟩:=h.L _ hk hk'
   have o1:=g.let_ _ (List.getElem_mem hk)
   have o2:=g'.let_ _ (List.getElem_mem hk')
   refine ⟨ets,put_rel h.H (h.heard hj g.hist (fun u hu=>o1.2 u (bey_mem hu)) ?_ R1 R1' ga ga'),h.len,h.L⟩
   rw [l1]
   exact bey_same g.hist o1.1 o2.1 o1.2 (by rw [ets];exact o2.2) l2 _
  ·have c':¬ 0<s'.L.length:=by rw [← h.len];exact c
   rw [dif_neg c] at r1
   rw [dif_neg c'] at r2
   subst r1 r2
   exact h
 rw [if_neg q5] at r1 r2
 subst r1 r2
 exact h
theorem Rel.held {n:Nat} {s s':PS} (h:Rel n s s') {x x':DX} (hx:∀ r,x.gone r=0) {k:Nat} (hk:k<n):heldN (s'.H k) x' 5≤heldN (s.H k) x 5:=by
 rw [heldN_all _ hx,sumC_same (fun r=>h.H k r hk)]
 exact heldN_le _ _ _
theorem Rel.all {n:Nat} {s s':PS} (h:Rel n s s') (g:Good n s) (g':Good n s') {k:Nat} (hk:k<n):allV n (s.H k)=allV n (s'.H k):=
 all_same g.hist (g.at_ k hk).1 (g'.at_ k hk).1 (g.at_ k hk).2 (by rw [h.ts];exact (g'.at_ k hk).2) (h.vis hk)
end Go.Proofs.YtiplgdkpnhamaaaGreatDoor.Tv
namespace Go.Proofs.YtiplgdkpnhamaaaGreatDoor.Tv
open Go.RowKit
section
variable {n c c':Nat} {w0 w w':World} {gb g cap:Nat} {B:Nat→Nat} {ts:List RTx} {H:Nat→List RTx} {O:Nat→Nat→Option RTx} {X:Nat→DX} {L:List Let} {o o':Nat→Tag}
theorem Ks.beside (h:Ks n c w0 gb g cap B ts H O X L w o) (hr:6≤w0.heap.size) (hc:c≠c') (k:TouchT (kg c') w o w' o'):Ks n c w0 gb g cap B ts H O X L w' o':=by
 have no:∀ a b,¬ kg c' (a,b,c):=fun a b e=>hc e.2
 have low:∀ q,q<6→¬ kg c' (o q):=fun q hq e=>by
  rw [at0_low h.at0 hr hq] at e
  exact kg_nz e rfl
 obtain ⟨lv,b1,b2⟩:=h.blk
 exact ⟨h.nk.beside k (fun i _=>no _ _) low,⟨lv,b1.touch k (no _ _),b2.touch k (no _ _)⟩,h.row.touch k (no _ _),h.at0.trans (k.mono fun _ e=>kg_nz e),h.ok⟩
theorem Ks.grow (h:Ks n c w0 gb g cap B ts H O X L w o) (hB:Below w.heap.size w w') (hs:∀ q,q<w.heap.size→o' q=o q):Ks n c w0 gb g cap B ts H O X L w' o':=
 (h.out (h.nk.move fun q hq _=>⟨hB.block q hq,hs q hq⟩) ⟨Touch.ofBelow hB,hs⟩ (fun _ hu=>hu) fun _ _=>Nat.le_refl _).1
theorem PR.retag {x:DX} {t t':Tag} {b i:Nat} {d:DRep} (h:PR x w o t b n i d) (hm:∀ q,q<w.heap.size→o q=t→o' q=t'):PR x w o' t' b n i d:=by
 obtain ⟨p,h1,h2⟩:=h
 exact ⟨p,fun q hq hne=>hm q hq (h1 q hq hne),h2⟩
def sh1 (o:Nat→Tag) (m:Nat) (o':Nat→Tag):Nat→Tag:=fun q=>if q<m then o q else ((o' q).1,(o' q).2.1,1)
theorem Ks.second {w1:World} {o1:Nat→Tag} {rv:Value} (hr:6≤w0.heap.size) (h0:TouchT nz w0 (fun _=>(0,0,0)) w1 o1) (hN:Net n w o tg1 B [] (fun _=>newD n) (fun _=>newX)) (h2:GrpIn w o gb rv (.slice none 0 0) B n) (h3:TouchT nz w1 (fun _=>(0,0,0)) w o) (hn:0<n):∃ g cap,rv=.slice (some ⟨g,0,none⟩) n cap∧Ks n 1 w0 gb g cap B [] (fun _=>[]) (fun _ _=>none) (fun _=>newX) [] w (sh1 o1 w1.heap.size o):=by
 obtain ⟨g,cap,-,hK⟩:=Ks.start hN h2 h3 hn
 have hs0:w0.heap.size≤w1.heap.size:=h0.touch.size
 have key:∀ q a i,o q=(a,i,0)→a≠0→sh1 o1 w1.heap.size o q=(a,i,1):=fun q a i e ha=>by
  unfold sh1
  by_cases c:q<w1.heap.size
  ·have:=h3.same q c
   rw [e] at this
   have e2:=congrArg (fun t:Tag=>t.1) this
   exact absurd e2 ha
  ·rw [if_neg c,e]
 have low:∀ q,q<w1.heap.size→sh1 o1 w1.heap.size o q=o1 q:=fun q hq=>by unfold sh1;rw [if_pos hq]
 obtain ⟨g',cap',e,-⟩:=Row.pos h2.row.row hn
 obtain ⟨lv,b1,b2⟩:=hK.blk
 have hN':=hK.nk.net
 refine ⟨g',cap',e,⟨⟨hN'.hist,hN'.few,fun i j _ _ e=>by simpa [tgc] using e,fun i hi=>(hN'.pr i hi).retag fun q _ e=>key q 1 i e (by omega),hN'.sub,hN'.own,hN'.tabs,fun q hq i _=>?_,hN'.gone⟩,hK.nk.kn⟩,⟨.slice none 0 0,?_,World.ownsRow_nil _ _ _ _,fun q hq=>by cases hq⟩,?_,⟨Touch.ofBelow ((at0_below h0).trans ((at0_below h3).mono hs0)),fun q hq=>?_⟩,fun l hl=>by cases hl⟩
 ·rw [low q (by omega),at0_low h0 hr hq];simp [tgc]
 ·have:=h2.blk
  rw [e] at this
  exact ⟨this.blk,key gb 3 0 this.tag (by omega)⟩
 ·have:=h2.row
  rw [e] at this
  exact ⟨this.row,fun q hq=>key q 4 0 (this.tag q hq) (by omega)⟩
 ·rw [low q (by omega)];exact h0.same q hq
end
end Go.Proofs.YtiplgdkpnhamaaaGreatDoor.Tv
