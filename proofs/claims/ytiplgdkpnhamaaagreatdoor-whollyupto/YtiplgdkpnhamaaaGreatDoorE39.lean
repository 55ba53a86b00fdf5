/- The texts Z2, joined. -/
import Derived.Test.YtiplgdkpnhamaaaGreatDoorE09
namespace Go.Proofs.YtiplgdkpnhamaaaGreatDoor.Tv
open Go.RowKit
structure TxOk (n:Nat) (hs:List RTx) (t:RTx):Prop where
 saw:∃ T,T ≤ hs.length ∧ t.saw=visOf n (hs.take T)
 ops:OpsOk t.ops
structure RepOk (n i:Nat) (d:DRep) (st:St) (sl:Nat → Nat):Prop where
 hi:i < n
 hist:HistG n d.hs
 vis:d.vis=visOf n d.hs
 svis:st.vis=vecOf d.vis
 ginv:GInv (histOf d.hs) setPl d.hs.length st
 ssaw:∀ s,s ∈ st.snaps → ∃ T,T ≤ d.hs.length ∧ s.saw=vecOf (visOf n (d.hs.take T))
 six:∀ k,6 ≤ k → d.opn k=none
 opn:∀ k t,d.opn k=some t → TxOk n d.hs t ∧ ∃ s,s ∈ st.snaps ∧ s.blk=sl k ∧ s.saw=vecOf t.saw
 slinj:∀ k k',(d.opn k).isSome → (d.opn k').isSome → sl k=sl k' → k=k'
theorem visOf_nil (n:Nat):visOf n []=List.replicate n 0:=by
 unfold visOf
 apply List.ext_getElem?
 intro r
 by_cases h:r < n <;> simp [h,cntR]
theorem TxOk.new {n i:Nat} {d:DRep} {t:RTx} (hd:HistG n d.hs) (hv:d.vis=visOf n d.hs) (hi:i < n) (h:TxOk n d.hs t) (h1:1 ≤ t.ops.length):NewOk n d.hs (done i d t):=by
 obtain ⟨T,hT,e⟩:=h.saw
 refine ⟨by show (0:Int) ≤ (i:Int); omega,by show (i:Int) < n; omega,?_,?_,h.ops,h1⟩
 ·show d.vis.getD i 0 + 1=_
  rw [hv,visOf_get hi]; rfl
 ·show SawP n d.hs t.saw
  rw [e]; exact hd.vis_saw T
theorem RepOk.new {n i:Nat} (hi:i < n) (hn:n ≤ 5) (sl:Nat → Nat):RepOk n i ⟨[],List.replicate n 0,fun _=>none⟩ noSt sl:=by
 refine ⟨hi,⟨hn,fun j hj=>by simp at hj⟩,(visOf_nil n).symm,?_,⟨⟨fun p d=>by simp [noSt],fun p=>by simp [noSt],fun p d hd=>by simp [noSt] at hd,fun x v hv=>by simp [noSt] at hv,fun s hs=>by simp [noSt] at hs,by simp [noSt]⟩,fun p=>⟨fun d v hv=>by simp [noSt] at hv,fun j hj=>by simp at hj,fun s hs=>by simp [noSt] at hs⟩,fun q _ hc=>by simp [noSt] at hc,by simp [KNod,noSt],fun j hj=>by simp at hj,fun s hs=>by simp [noSt] at hs⟩,fun s hs=>by simp [noSt] at hs,fun _ _=>rfl,fun k t ht=>by simp at ht,fun k k' hk=>by simp at hk⟩
 show (⟨0,0,0,0,0⟩:Vec)=vecOf (List.replicate n 0)
 have:∀ m,(List.replicate n (0:Int)).getD m 0=0:=fun m=>by
  by_cases h:m < n <;> simp [List.getD,h]
 simp only [vecOf,this]
theorem HistG.full {n:Nat} {hs:List RTx} (h:HistG n hs) {r s:Nat} (hs':s + 1 ≤ cntR hs r):∃ j,∃ hj:j < hs.length,hs[j].rep=(r:Int) ∧ hs[j].seq=(s:Int) + 1:=by
 have hx:∀ m,m ≤ hs.length → s + 1 ≤ cntR (hs.take m) r → ∃ j,∃ hj:j < hs.length,hs[j].rep=(r:Int) ∧ hs[j].seq=(s:Int) + 1:=by
  intro m
  induction m with
  | zero=>intro _ c; simp [cntR] at c
  | succ m ih=>
   intro hm c
   by_cases c2:s + 1 ≤ cntR (hs.take m) r
   ·exact ih (by omega) c2
   ·have hml:m < hs.length:=by omega
    rw [cntR_at hml] at c
    have e:hs[m].rep=(r:Int):=by
     by_cases e:hs[m].rep=(r:Int)
     ·exact e
     ·rw [if_neg e] at c; omega
    rw [if_pos e] at c
    refine ⟨m,hml,e,?_⟩
    rw [(h.tx m hml).seq,e,Int.toNat_natCast]; omega
 exact hx hs.length (Nat.le_refl _) (by rw [List.take_length]; exact hs')
section
variable {n i:Nat} {d:DRep} {st:St} {sl:Nat → Nat}
theorem RepOk.begin_ (h:RepOk n i d st sl) {k b:Nat} (hk:k < 6) (hf:d.opn k=none) (hb:b ∉ st.snaps.map Snap.blk):RepOk n i { d with opn:=setSlot d.opn k (some ⟨0,0,d.vis,[]⟩) } (openSt st b) (fun q=>if q=k then b else sl q):=by
 refine ⟨h.hi,h.hist,h.vis,h.svis,h.ginv.open_ hb,fun s hs=>?_,fun q hq=>?_,fun q t ht=>?_,fun q q' hq hq' e=>?_⟩
 ·have hs':s ∈ st.snaps ++ [(⟨b,st.vis,[]⟩:Snap)]:=hs
  rw [List.mem_append,List.mem_singleton] at hs'
  rcases hs' with c | rfl
  ·exact h.ssaw s c
  ·exact ⟨d.hs.length,Nat.le_refl _,by rw [List.take_length,← h.vis]; exact h.svis⟩
 ·show setSlot d.opn k _ q=none
  rw [setSlot_other (by omega)]; exact h.six q hq
 ·have ht':setSlot d.opn k (some ⟨0,0,d.vis,[]⟩) q=some t:=ht
  by_cases c:q=k
  ·subst c
   rw [setSlot_same] at ht'
   cases ht'
   refine ⟨⟨⟨d.hs.length,Nat.le_refl _,by rw [List.take_length]; exact h.vis⟩,⟨fun o ho=>by simp at ho,by simp⟩⟩,⟨b,st.vis,[]⟩,?_,by simp,h.svis⟩
   show _ ∈ st.snaps ++ [(⟨b,st.vis,[]⟩:Snap)]
   simp
  ·rw [setSlot_other c] at ht'
   obtain ⟨a1,s,a2,a3,a4⟩:=h.opn q t ht'
   refine ⟨a1,s,?_,by simp [c,a3],a4⟩
   show s ∈ st.snaps ++ [(⟨b,st.vis,[]⟩:Snap)]
   simp [a2]
 ·have hin:∀ q,q ≠ k → (setSlot d.opn k (some ⟨0,0,d.vis,[]⟩) q).isSome → sl q ∈ st.snaps.map Snap.blk ∧ (d.opn q).isSome:=fun q hqk hq=>by
   rw [setSlot_other hqk] at hq
   obtain ⟨t,ht⟩:=Option.isSome_iff_exists.1 hq
   obtain ⟨-,s,a2,a3,-⟩:=h.opn q t ht
   exact ⟨List.mem_map.2 ⟨s,a2,a3⟩,hq⟩
  by_cases c:q=k <;> by_cases c':q'=k
  ·rw [c,c']
  ·simp only [c,c',if_true,if_false] at e
   exact absurd (by rw [e]; exact (hin q' c' hq').1) hb
  ·simp only [c,c',if_true,if_false] at e
   exact absurd (by rw [← e]; exact (hin q c hq).1) hb
  ·simp only [c,c',if_false] at e
   exact h.slinj q q' (hin q c hq).2 (hin q' c' hq').2 e
theorem RepOk.does (h:RepOk n i d st sl) {k:Nat} {t:RTx} (ht:d.opn k=some t) {o:ROp} (ho:OpOk o) (hv:¬ o.kind=1 → o.value.size ≤ 8) (ha:o.kind=1 → -1000000 ≤ o.amount ∧ o.amount ≤ 1000000) (hl:t.ops.length < 16):RepOk n i { d with opn:=setSlot d.opn k (some { t with ops:=t.ops ++ [o] }) } st sl:=by
 have hiff:∀ q,(setSlot d.opn k (some { t with ops:=t.ops ++ [o] }) q).isSome=(d.opn q).isSome:=fun q=>by
  by_cases c:q=k
  ·subst c; rw [setSlot_same,ht]; rfl
  ·rw [setSlot_other c]
 refine ⟨h.hi,h.hist,h.vis,h.svis,h.ginv,h.ssaw,fun q hq=>?_,fun q u hu=>?_,fun q q' hq hq' e=>h.slinj q q' (by rw [← hiff]; exact hq) (by rw [← hiff]; exact hq') e⟩
 ·have:=hiff q
  rw [h.six q hq] at this
  simpa using this
 ·have hu':setSlot d.opn k (some { t with ops:=t.ops ++ [o] }) q=some u:=hu
  by_cases c:q=k
  ·subst c
   rw [setSlot_same] at hu'
   cases hu'
   obtain ⟨a1,a2⟩:=h.opn q t ht
   refine ⟨⟨a1.saw,⟨fun p hp=>?_,by simp only [List.length_append,List.length_cons,List.length_nil]; omega⟩⟩,a2⟩
   have hp':p ∈ t.ops ++ [o]:=hp
   rw [List.mem_append,List.mem_singleton] at hp'
   rcases hp' with c | rfl
   ·exact a1.ops.ops p c
   ·exact ⟨ho,hv,ha⟩
  ·rw [setSlot_other c] at hu'
   exact h.opn q u hu'
theorem RepOk.close (h:RepOk n i d st sl) (hN:d.hs.length ≤ 2000000) {k:Nat} {t:RTx} (ht:d.opn k=some t) {s:Snap} (hs:s ∈ st.snaps) (hb:s.blk=sl k):RepOk n i { d with opn:=setSlot d.opn k none } (closeSt st s) sl:=by
 obtain ⟨e1,e2,e3⟩:=entrusts_but s.kept { st with snaps:=st.snaps.filter fun t=>!decide (t.blk=s.blk) }
 have hback:∀ s',s' ∈ (closeSt st s).snaps → ∃ s0,s0 ∈ st.snaps ∧ s'.saw=s0.saw ∧ s'.blk=s0.blk:=fun s' hs'=>by
  obtain ⟨s0,a,b,c⟩:=e1 s' hs'
  exact ⟨s0,(List.mem_filter.1 a).1,b,c⟩
 have hsome:∀ q,(setSlot d.opn k none q).isSome → q ≠ k ∧ (d.opn q).isSome:=fun q hq=>by
  by_cases c:q=k
  ·subst c; rw [setSlot_same] at hq; cases hq
  ·rw [setSlot_other c] at hq; exact ⟨c,hq⟩
 refine ⟨h.hi,h.hist,h.vis,e3.trans h.svis,h.ginv.close (h.hist.hok hN) hs,fun s' hs'=>?_,fun q hq=>?_,fun q u hu=>?_,fun q q' hq hq' e=>h.slinj q q' (hsome q hq).2 (hsome q' hq').2 e⟩
 ·obtain ⟨s0,a,b,-⟩:=hback s' hs'
  rw [b]; exact h.ssaw s0 a
 ·show setSlot d.opn k none q=none
  unfold setSlot
  split
  ·rfl
  ·exact h.six q hq
 ·have hu':setSlot d.opn k none q=some u:=hu
  obtain ⟨hqk,hqs⟩:=hsome q (by rw [hu']; rfl)
  rw [setSlot_other hqk] at hu'
  obtain ⟨a1,s1,a2,a3,a4⟩:=h.opn q u hu'
  refine ⟨a1,?_⟩
  have hne:s1.blk ≠ s.blk:=fun e=>hqk (h.slinj q k hqs (by rw [ht]; rfl) (by rw [← a3,← hb]; exact e))
  have hm:s1.blk ∈ (closeSt st s).snaps.map Snap.blk:=by
   unfold closeSt
   rw [e2]
   exact List.mem_map.2 ⟨s1,List.mem_filter.2 ⟨a2,by simpa using hne⟩,rfl⟩
  obtain ⟨s2,g1,g2⟩:=List.mem_map.1 hm
  obtain ⟨s0,f1,f2,f3⟩:=hback s2 g1
  have:s0=s1:=blk_inj h.ginv.wf.blks f1 a2 (f3.symm.trans g2)
  subst this
  exact ⟨s2,g1,g2.trans a3,f2.trans a4⟩
theorem RepOk.came_len (h:RepOk n i d st sl) (p:Place):(st.came p).length ≤ d.hs.length:=came_bound h.ginv.wf (h.ginv.pl p) (Nat.le_refl _)
theorem RepOk.kept_len (h:RepOk n i d st sl):∀ s,s ∈ st.snaps → s.kept.length ≤ 16 * d.hs.length:=by
 refine kept_bound (H:=histOf d.hs) h.ginv.kn (fun p=>⟨_,Nat.le_refl _,h.ginv.pl p⟩) (pl:=fun j=>(txAt d.hs j).ops.map plOf) (fun j=>?_) (fun j p _ hw=>wr_places d.hs j p hw)
 rw [List.length_map]
 by_cases c:j < d.hs.length
 ·rw [txAt_eq c]; exact (h.hist.tx j c).ops.few
 ·simp [txAt,c]
theorem RepOk.wrOk (h:RepOk n i d st sl) (hN:d.hs.length ≤ 1500000) {u:RTx} (hu:NewOk n d.hs u):WrOk (histOf (d.hs ++ [u])) setPl d.hs.length (vecOf u.saw) st.vis:=by
 have hH:HistG n (d.hs ++ [u]):=h.hist.snoc hu
 have hlen:(d.hs ++ [u]).length=d.hs.length + 1:=by simp
 have hlast:txAt (d.hs ++ [u]) d.hs.length=u:=by simp [txAt]
 have hwr:∀ p,(histOf (d.hs ++ [u])).wr d.hs.length p=ownOf u.ops p:=fun p=>by
  show ownOf (txAt _ _).ops p=_
  rw [hlast]
 have hkd:=fun p=>own_kinds (p:=p) u.ops hu.ops.old
 refine ⟨by have:=hH.hok (by rw [hlen]; omega); rwa [hlen] at this,fun p x hx=>?_,fun p x hx=>?_,fun p x hx hk j y hj hy=>?_,fun j hj=>?_,fun j hj=>?_,fun p hp=>?_⟩
 ·rw [hwr] at hx
  have:=(hkd p x hx).1; omega
 ·rw [hwr] at hx
  have:=(hkd p x hx).1
  unfold setPl; omega
 ·rw [hwr] at hx
  have h1:=(hkd p x hx).1
  rw [(hist_same d.hs u).wr j hj] at hy
  have hy':ownOf (txAt d.hs j).ops p=some y:=hy
  rw [txAt_eq hj] at hy'
  have h2:=(own_kinds (p:=p) d.hs[j].ops (h.hist.tx j hj).ops.old y hy').1
  omega
 ·rw [(hist_same d.hs u).dot j hj,h.hist.dotJ hj,h.svis,h.vis,vecOf_covers (by rw [visOf_len]; exact h.hist.n5)]
  have:=h.hist.sawAt d.hs.length j hj
  rw [txAt_eq hj,List.take_length] at this
  rw [this]; simpa using hj
 ·rw [(hist_same d.hs u).dot j hj,h.hist.dotJ hj,vecOf_covers (by rw [hu.saw.len]; exact h.hist.n5)]
  show seesV (txAt _ _).saw (txAt _ j).rep (txAt _ j).seq=_
  rw [hlast,txAt_eq (hs:=d.hs ++ [u]) (by omega),List.getElem_append_left hj]
 ·rw [hwr] at hp
  obtain ⟨x,hx⟩:=Option.isSome_iff_exists.1 hp
  exact (hkd p x hx).2
theorem RepOk.start (h:RepOk n i d st sl) (u:RTx):MInv (histOf (d.hs ++ [u])) setPl d.hs.length (fun p=>(ownOf u.ops p).isSome) st st:=by
 have:=((hist_same d.hs u).ginv h.ginv).begin_
 have e:(fun p=>((histOf (d.hs ++ [u])).wr d.hs.length p).isSome)=fun p=>(ownOf u.ops p).isSome:=by
  funext p
  show (ownOf (txAt _ _).ops p).isSome=_
  have hlast:txAt (d.hs ++ [u]) d.hs.length=u:=by simp [txAt]
  rw [hlast]
 rw [e] at this
 exact this
def showD (d:DRep) (u:RTx):DRep:=⟨d.hs ++ [u],d.vis.set u.rep.toNat (d.vis.getD u.rep.toNat 0 + 1),d.opn⟩
theorem RepOk.finish (h:RepOk n i d st sl) {u:RTx} (hu:NewOk n d.hs u) {left:Place → Bool} {st':St} (hM:MInv (histOf (d.hs ++ [u])) setPl d.hs.length left st st') (hl:∀ p,left p=false) :
  RepOk n i (showD d u) { st' with vis:=vecOf (visOf n (d.hs ++ [u])) } sl:=by
 have hH:HistG n (d.hs ++ [u]):=h.hist.snoc hu
 have hlen:(d.hs ++ [u]).length=d.hs.length + 1:=by simp
 have hvis:d.vis.set u.rep.toNat (d.vis.getD u.rep.toNat 0 + 1)=visOf n (d.hs ++ [u]):=by rw [visOf_snoc hu.r0 hu.rn,← h.vis]
 have htk:∀ T,T ≤ d.hs.length → (d.hs ++ [u]).take T=d.hs.take T:=fun T hT=>List.take_append_of_le_length hT
 have hcov:∀ T j,j < d.hs.length + 1 → (vecOf (visOf n ((d.hs ++ [u]).take T))).covers ((histOf (d.hs ++ [u])).dot j)=decide (j < T):=fun T j hj=>by
  rw [vecOf_covers (by rw [visOf_len]; exact h.hist.n5)]
  exact hH.sawAt T j (by omega)
 have hG:=(hist_same d.hs u).ginv h.ginv
 have hall:(d.hs ++ [u]).take (d.hs.length + 1)=d.hs ++ [u]:=List.take_of_length_le (by omega)
 have hE:=hM.end_ hG hl (fun s hs=>by
  obtain ⟨T,hT,e⟩:=h.ssaw s hs
  rw [e,← htk T hT,hcov T _ (by omega)]; simp; omega) (v:=vecOf (visOf n (d.hs ++ [u]))) (fun j hj=>by
  have:=hcov (d.hs.length + 1) j hj
  rw [hall] at this
  rw [this]; simpa using hj)
 refine ⟨h.hi,hH,by show d.vis.set _ _=visOf n (d.hs ++ [u]); exact hvis,by show vecOf _=vecOf (d.vis.set _ _); rw [hvis],by show GInv (histOf (d.hs ++ [u])) setPl (d.hs ++ [u]).length _; rw [hlen]; exact hE,fun s hs=>?_,h.six,fun k t ht=>?_,h.slinj⟩
 ·obtain ⟨s0,a,b,-⟩:=hM.snaps s hs
  obtain ⟨T,hT,e⟩:=h.ssaw s0 a
  exact ⟨T,by show T ≤ (d.hs ++ [u]).length; rw [hlen]; omega,by show s.saw=vecOf (visOf n ((d.hs ++ [u]).take T)); rw [b,htk T hT]; exact e⟩
 ·obtain ⟨a1,s1,a2,a3,a4⟩:=h.opn k t ht
  obtain ⟨T,hT,e⟩:=a1.saw
  refine ⟨⟨⟨T,by show T ≤ (d.hs ++ [u]).length; rw [hlen]; omega,by show t.saw=visOf n ((d.hs ++ [u]).take T); rw [htk T hT]; exact e⟩,a1.ops⟩,?_⟩
  have hm:s1.blk ∈ st'.snaps.map Snap.blk:=by rw [hM.blks]; exact List.mem_map.2 ⟨s1,a2,rfl⟩
  obtain ⟨s2,g1,g2⟩:=List.mem_map.1 hm
  obtain ⟨s0,f1,f2,f3⟩:=hM.snaps s2 g1
  have:s0=s1:=blk_inj h.ginv.wf.blks f1 a2 (f3.symm.trans g2)
  subst this
  exact ⟨s2,g1,g2.trans a3,f2.trans a4⟩
theorem RepOk.at_ (h:RepOk n i d st sl) {t:RTx} (ht:TxOk n d.hs t):∃ T,T ≤ d.hs.length ∧ SawAt d.hs t.saw T ∧ (histOf d.hs).at (vecOf t.saw) T d.hs.length ∧ t.saw=visOf n (d.hs.take T):=by
 obtain ⟨T,hT,e⟩:=ht.saw
 refine ⟨T,hT,by rw [e]; exact h.hist.sawAt T,fun j hj=>?_,e⟩
 rw [e,vecOf_covers (by rw [visOf_len]; exact h.hist.n5)]
 exact h.hist.sawAt T j hj
theorem RepOk.tellsSum (h:RepOk n i d st sl) (hN:d.hs.length ≤ 2000000) {t:RTx} (ht:TxOk n d.hs t) {s:Snap} (hs:s ∈ st.snaps) (e:s.saw=vecOf t.saw) {key:ByteArray} (hk:kindOf key=99) {l:List Dot} (hl:l.Perm (toldRaw (vecOf t.saw) st ⟨key,noEl⟩)) :
  l.foldl (fun a x=>wrap64 (a + (verAt st.vers ⟨⟨key,noEl⟩,x⟩).sum)) 0=counterOf t.saw key d.hs:=by
 obtain ⟨T,hT,hS,ha,-⟩:=h.at_ ht
 rw [counter_total hk h.hist.ok.ops hS hT]
 refine sum_told h.ginv (h.hist.hok hN) hs e hT ha (fun j x hj hx=>?_) hl
 have hx':ownOf (txAt d.hs j).ops ⟨key,noEl⟩=some x:=hx
 rw [txAt_eq hj] at hx'
 exact (own_cnt hk _ (h.hist.ok.ops _ (List.getElem_mem hj))).2 x hx'
theorem RepOk.tellsReg (h:RepOk n i d st sl) (hN:d.hs.length ≤ 2000000) {t:RTx} (ht:TxOk n d.hs t) {s:Snap} (hs:s ∈ st.snaps) (e:s.saw=vecOf t.saw) {key:ByteArray} (hk:kindOf key=114) {l:List Dot} (hl:l.Perm (toldRaw (vecOf t.saw) st ⟨key,noEl⟩)) (hsort:l.Pairwise dotLt) :
  (l.map fun x=>(verAt st.vers ⟨⟨key,noEl⟩,x⟩).value)=registerOf t.saw key d.hs n:=by
 obtain ⟨T,hT,hS,ha,e0⟩:=h.at_ ht
 have hO:=h.hist.hok hN
 refine register_told hk h.hist.ok hS hT (fun r q hr hq=>?_) (fun j hj=>?_) hsort (fun x=>(hl.mem_iff).trans (told_mem h.ginv hO hs e hT ha _ x)) (fun j x hj hx=>?_)
 ·rw [e0,visOf_get hr] at hq
  have:=cntR_take_all d.hs (T:=T) r
  obtain ⟨j,hj,h1,h2⟩:=h.hist.full (r:=r) (s:=q) (by omega)
  exact ⟨j,hj,by rw [h.hist.dotJ hj,h1,h2]⟩
 ·have hj':j < d.hs.length:=by omega
  have hu:=h.hist.tx j hj'
  exact ⟨d.hs[j].rep.toNat,cntR (d.hs.take j) d.hs[j].rep.toNat,hu.rN,by rw [h.hist.dotJ hj',hu.seq,hu.repN]⟩
 ·have hj1:=hj.1
  have hd:(histOf d.hs).dot j ∈ toldRaw (vecOf t.saw) st ⟨key,noEl⟩:=(told_mem h.ginv hO hs e hT ha _ _).2 ⟨j,hj,rfl⟩
  obtain ⟨q,hq1,hq2,hq3,hq4⟩:=told_ver h.ginv hd
  have:j=q:=hO.inj j q (by omega) hq1 hq2
  subst this
  rw [hq4]
  have hx':=hx
  have:(histOf d.hs).wr j ⟨key,noEl⟩=(lastOf key noEl (txAt d.hs j).ops).map fun o=>⟨1,0,o.value⟩:=own_reg hk _ (h.hist.ok.ops _ (by rw [txAt_eq hq1]; exact List.getElem_mem hq1))
  rw [this,Option.map_eq_some_iff] at hx'
  obtain ⟨o,-,rfl⟩:=hx'
  unfold Hist.verOf
  rw [hx]; rfl
theorem RepOk.tellsSet (h:RepOk n i d st sl) (hN:d.hs.length ≤ 2000000) {t:RTx} (ht:TxOk n d.hs t) {s:Snap} (hs:s ∈ st.snaps) (e:s.saw=vecOf t.saw) {key:ByteArray} (hk:kindOf key=115) (a:ByteArray) :
  (toldRaw (vecOf t.saw) st ⟨key,a⟩ ≠ [] ↔ a ∈ setOf t.saw key d.hs) ∧ (toldRaw (vecOf t.saw) st ⟨key,a⟩ ≠ [] → st.els key a=true):=by
 obtain ⟨T,hT,hS,ha,e0⟩:=h.at_ ht
 have hO:=h.hist.hok hN
 refine ⟨?_,fun hc=>h.ginv.els ⟨key,a⟩ hk fun c=>hc ?_⟩
 ·rw [set_told hk h.hist.ok hS hT a]
  constructor
  ·intro hc
   cases hl:toldRaw (vecOf t.saw) st ⟨key,a⟩ with
   | nil=>exact absurd hl hc
   | cons x l=>
    obtain ⟨j,hj,-⟩:=(told_mem h.ginv hO hs e hT ha ⟨key,a⟩ x).1 (by rw [hl]; simp)
    exact ⟨j,hj⟩
  ·rintro ⟨j,hj⟩ hc
   have:=(told_mem h.ginv hO hs e hT ha ⟨key,a⟩ _).2 ⟨j,hj,rfl⟩
   rw [hc] at this; simp at this
 ·unfold toldRaw; rw [c]; rfl
end
end Go.Proofs.YtiplgdkpnhamaaaGreatDoor.Tv
