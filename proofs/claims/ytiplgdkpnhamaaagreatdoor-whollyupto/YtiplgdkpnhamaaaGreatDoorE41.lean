/- The texts ZK8, ZK6, ZK11, ZK9, ZK12, U51, ZK13, ZK14, joined. -/
import Derived.Test.YtiplgdkpnhamaaaGreatDoorE25
import Derived.Test.YtiplgdkpnhamaaaGreatDoorE40
import Derived.Test.YtiplgdkpnhamaaaGreatDoorE23
import Derived.Test.YtiplgdkpnhamaaaGreatDoorE38
import Derived.Deep.RegionHeld3
namespace Go.Proofs.YtiplgdkpnhamaaaGreatDoor.Tv
open Go.RowKit
def HeldPost (w:World) (p:Nat→Own) (b r m:Nat) (cs xs ys:List Value) (w':World):Prop:=
 ∃ p' v',Qb w' p' .rep b (cs.set (3+r) v') 114∧Qc w' p' (.held r) 139 8 v' (m+1) (xs ++ ys)∧QT (fun u=>u=.rep∨u=.held r) w p w' p'
set_option maxRecDepth 100000 in
set_option maxHeartbeats 16000000 in
theorem held_add {w:World} {p:Nat→Own} {b r m:Nat} {cs:List Value} {v:Value} {xs:List Value} (hB:Qb w p .rep b cs 114) (hc:w.cell? ⟨b,3+r,none⟩=some v) (hr:r<5) (hrow:Qc w p (.held r) 139 8 v m xs) (hm:m≤2000000) (seq a b2 c d e:Int) (mb:Nat) :
  Calls Tryz.prog 106 #[.pointer (some ⟨b,3,none⟩),.agg #[.int .i64 r,.int .i64 seq,.int .i64 a,.int .i64 b2,.int .i64 c,.int .i64 d,.int .i64 e,.map (some mb)]] w fun e' w'=>e'=.returned (.tuple #[])∧HeldPost w p b r m cs xs [.int .i64 r,.int .i64 seq,.int .i64 a,.int .i64 b2,.int .i64 c,.int .i64 d,.int .i64 e,.map (some mb)] w':=by
 obtain ⟨i0,hi,hz0,hz1,hz2⟩:=info_parts Tryz.infoTrx
 have HI:=hide (⟨hi,hz0,hz1,hz2⟩:_∧_∧_∧_)
 clear hi hz0 hz1 hz2
 generalize hW0:w.alloc (.cells #[.int .i64 r,.int .i64 seq,.int .i64 a,.int .i64 b2,.int .i64 c,.int .i64 d,.int .i64 e,.map (some mb)] 139)=W0
 have hB0:Below w.heap.size w W0:=by rw [← hW0];exact (Below.refl _ _).alloc (Nat.le_refl _) _
 have bx:Blk W0 w.heap.size [.int .i64 r,.int .i64 seq,.int .i64 a,.int .i64 b2,.int .i64 c,.int .i64 d,.int .i64 e,.map (some mb)] 139:=by rw [← hW0];exact heap_alloc_new w _
 have x0:W0.cell? ⟨w.heap.size,0,none⟩=some (.int .i64 r):=bx.cell 0
 have x1:W0.cell? ⟨w.heap.size,1,none⟩=some (.int .i64 seq):=bx.cell 1
 have x2:W0.cell? ⟨w.heap.size,2,none⟩=some (.int .i64 a):=bx.cell 2
 have x3:W0.cell? ⟨w.heap.size,3,none⟩=some (.int .i64 b2):=bx.cell 3
 have x4:W0.cell? ⟨w.heap.size,4,none⟩=some (.int .i64 c):=bx.cell 4
 have x5:W0.cell? ⟨w.heap.size,5,none⟩=some (.int .i64 d):=bx.cell 5
 have x6:W0.cell? ⟨w.heap.size,6,none⟩=some (.int .i64 e):=bx.cell 6
 have x7:W0.cell? ⟨w.heap.size,7,none⟩=some (.map (some mb)):=bx.cell 7
 have hc0:W0.cell? ⟨b,3+r,none⟩=some v:=cell_later hB0 hc
 have bB0:=hB.below hB0
 have hrow0:=hrow.below hB0
 have hl:w.heap.size<W0.heap.size:=bx.lt
 have hbl:b<W0.heap.size:=bB0.blk.lt
 have e1:¬ (r:Int)<0:=by omega
 have e2:(r:Int)<5:=by omega
 obtain ⟨ao,cap,hsh,hcap,hmx,-⟩:=hrow.row.shape
 subst hsh
 have htag:∀ q,(Value.slice ao m cap).ownBlock=some q→p q=.held r:=hrow.tag
 have hne:¬ (Value.slice ao m cap).ownBlock=some b:=fun e=>by have:=htag b e;rw [hB.tag] at this;cases this
 have hlt:∀ q,(Value.slice ao m cap).ownBlock=some q→q<w.heap.size:=fun q hq=>hrow.lt hq
 have hW8:Blk (W0.alloc (.cells #[.int .i64 r,.int .i64 seq,.int .i64 a,.int .i64 b2,.int .i64 c,.int .i64 d,.int .i64 e,.map (some mb)] 139)).drew W0.heap.size [.int .i64 r,.int .i64 seq,.int .i64 a,.int .i64 b2,.int .i64 c,.int .i64 d,.int .i64 e,.map (some mb)] 139:=heap_alloc_new W0 _
 have HNEW:=hide (news_at hW8)
 have HK:Hid (∀ w5,(W0.alloc (.cells #[.int .i64 r,.int .i64 seq,.int .i64 a,.int .i64 b2,.int .i64 c,.int .i64 d,.int .i64 e,.map (some mb)] 139)).drew.grownBy w5 (Value.slice ao m cap).ownBlock→w5.cell? ⟨b,3+r,none⟩=some (.slice ao m cap)∧w5.frozen? ⟨b,3+r,none⟩=false∧b<w5.heap.size∧w5.cell? ⟨w.heap.size,0,none⟩=some (.int .i64 r)∧w.heap.size<w5.heap.size):=fun w5 g=>by
  have g':∀ q,q<W0.heap.size→¬ (Value.slice ao m cap).ownBlock=some q→w5.heap[q]? = W0.heap[q]?:=fun q hq hn=>(g.block q (by show q<(W0.alloc _).heap.size;simp;omega) (fun e=>hn e.symm)).trans (Below.heap_alloc _ _ _ hq)
  have b5:Blk w5 b cs 114:=bB0.blk.move (g' b hbl hne)
  have x5':Blk w5 w.heap.size _ 139:=bx.move (g' _ hl (fun e=>by have:=hlt _ e;omega))
  exact ⟨cell_blk (g' b hbl hne) hc0,b5.frozen _,b5.lt,x5'.cell 0,x5'.lt⟩
 have HH:=hide (⟨hB,hrow,hB0,bB0,hrow0,htag⟩:_∧_∧_∧_∧_∧_)
 have HW0:=hide hW0
 have HM:=hide hm
 clear hB hrow hB0 bB0 hrow0 hW0 hW8 bx hc htag hne hlt hm hcap hmx
 go_enter Tryz.func106,Tryz.ntmps106
 go_upto_region 1 with (fail)
 rw [HW0.out]
 go_region_law (refine step_append_own rfl _ _ 106 rfl 139 i0 (.agg #[.int .i64 0,.int .i64 0,.int .i64 0,.int .i64 0,.int .i64 0,.int .i64 0,.int .i64 0,.map none]) 8 64 Tryz.underlying106 HI.out.1 HI.out.2.1 HI.out.2.2.1 HI.out.2.2.2 rfl (by decide) (.slice ao m cap) m xs (by simp [Act.eval]) (by exact World.ownsRow.alloc HH.out.2.2.2.2.1.row _) ⟨W0.heap.size,0,none⟩ 1 1 [.int .i64 r,.int .i64 seq,.int .i64 a,.int .i64 b2,.int .i64 c,.int .i64 d,.int .i64 e,.map (some mb)] (by simp [Act.eval]) rfl (by exact HNEW.out) (by intro u hu;simp at hu;rcases hu with rfl | rfl | rfl | rfl | rfl | rfl | rfl | rfl <;> rfl) (by have:=HM.out;unfold maxLen;omega) (by have:=HM.out;omega) ?_;intro v5 w5 r1 r2 r3;obtain ⟨k1,k2,k3,k4,k5⟩:=HK.out w5 r2;obtain ⟨g5,cap5,rfl,-,-,-,-,-⟩:=Row.pos r1 (by omega);have HR5:=hide (⟨r1,r2,r3⟩:_∧_∧_);clear r1 r2 r3)
 all_goals go_wp2_with fail
 all_goals
  go_end0
  obtain ⟨r1,r2,r3⟩:=HR5.out
  obtain ⟨hB,hrow,hB0,bB0,hrow0,htag⟩:=HH.out
  have r2':(W0.alloc (.cells #[.int .i64 r,.int .i64 seq,.int .i64 a,.int .i64 b2,.int .i64 c,.int .i64 d,.int .i64 e,.map (some mb)] 139)).grownBy w5 (Value.slice ao m cap).ownBlock:=⟨r2.os,r2.tape,r2.output,r2.size,r2.block⟩
  have k5':=(bB0.alloc (.cells #[.int .i64 r,.int .i64 seq,.int .i64 a,.int .i64 b2,.int .i64 c,.int .i64 d,.int .i64 e,.map (some mb)] 139)).grew r2' htag (by simp)
  have q1:=(((QT.ofBelow (A:=fun u=>u=Own.rep∨u=.held r) (o:=p) hB0)).alloc (.cells #[.int .i64 r,.int .i64 seq,.int .i64 a,.int .i64 b2,.int .i64 c,.int .i64 d,.int .i64 e,.map (some mb)] 139)).grew r2' htag (Or.inr rfl)
  have q2:=q1.set (p:=⟨b,3+r,none⟩) (by show _∨_;rw [k5'.tag];exact Or.inl rfl) (.slice (some ⟨g5,0,none⟩) (m+1) cap5)
  have R5:=((hrow0.alloc (.cells #[.int .i64 r,.int .i64 seq,.int .i64 a,.int .i64 b2,.int .i64 c,.int .i64 d,.int .i64 e,.map (some mb)] 139)).app r1 r3).set (p:=⟨b,3+r,none⟩) k5'.tag (by simp) (.slice (some ⟨g5,0,none⟩) (m+1) cap5)
  exact ⟨rfl,_,_,k5'.set (3+r) (.slice (some ⟨g5,0,none⟩) (m+1) cap5),R5,q2⟩
end Go.Proofs.YtiplgdkpnhamaaaGreatDoor.Tv
namespace Go.Proofs.YtiplgdkpnhamaaaGreatDoor.Tv
open Go.RowKit
set_option maxRecDepth 100000 in
set_option maxHeartbeats 4000000 in
theorem new_ok (w:World) (i n:Nat) (h:fitsB i n=true):Calls Tryz.prog 48 #[.int .i64 i,.int .i64 n] w fun e w'=>∃ b,e=.returned (.tuple #[ptr b,.int .i64 0])∧Below w.heap.size w w'∧∀ (o:Nat→Tag) (t:Tag),PR newX w' (own2 o w.heap.size fun _=>t) t b n i (newD n):=by
 have hf:(1:Int)≤n∧(n:Int)≤5∧(0:Int)≤i∧(i:Int)<n:=of_decide_eq_true h
 clear h
 obtain ⟨f1,f2,f3,f4⟩:=hf
 have hn:=snew_any w (fun q=>if q=w.heap.size+4 then .rep else .other)
 have HN:=hide hn
 have g1:¬ (n:Int)<1:=by omega
 have g2:¬ (5:Int)<n:=by omega
 have g3:¬ (i:Int)<0:=by omega
 have g4:¬ (n:Int)≤i:=by omega
 clear hn
 go_enter Tryz.func48,Tryz.ntmps48
 go_wp2_with (go_at_call 86;refine HN.out.mono ?_;rintro e w1 ⟨rfl,hpost⟩;have HP:=hide hpost;clear hpost)
 go_ret2
 obtain ⟨hB,hz,hS⟩:=HP.out
 have hblk:=heap_alloc_new w1 (.cells (repCells i n (w.heap.size+3) [nilSlice,nilSlice,nilSlice,nilSlice,nilSlice] (List.replicate 25 (.int .i64 0)) (List.replicate 6 (.pointer none))).toArray 114)
 have hBf:Below w.heap.size w (w1.alloc (.cells (repCells i n (w.heap.size+3) [nilSlice,nilSlice,nilSlice,nilSlice,nilSlice] (List.replicate 25 (.int .i64 0)) (List.replicate 6 (.pointer none))).toArray 114)):=hB.alloc hB.size _
 refine ⟨w1.heap.size,rfl,hBf,fun o t=>?_⟩
 have hB1:Below w1.heap.size w1 (w1.alloc (.cells (repCells i n (w.heap.size+3) [nilSlice,nilSlice,nilSlice,nilSlice,nilSlice] (List.replicate 25 (.int .i64 0)) (List.replicate 6 (.pointer none))).toArray 114)):=(Below.refl _ _).alloc (Nat.le_refl _) _
 refine ⟨_,fun q hq hne=>?_,w.heap.size+3,noSt,fun _=>0,fun _=>0,fun _=>0,[nilSlice,nilSlice,nilSlice,nilSlice,nilSlice],List.replicate 25 (.int .i64 0),⟨hblk,?_⟩,rfl,rfl,hS.below hB1,RepOk.new (by omega) (by omega) _,fun r hr=>⟨[],rfl,?_,fun y hy=>by simp at hy⟩,fun k u e=>?_,fun c hc=>by simp [noSt] at hc,rfl,fun r=>Nat.zero_le _⟩
 ·by_cases c:q<w.heap.size
  ·exfalso
   apply hne
   simp [show q≠w.heap.size by omega,show q≠w.heap.size+1 by omega,show q≠w.heap.size+2 by omega,show q≠w.heap.size+3 by omega,show q≠w.heap.size+4 by omega]
  ·rw [own2_high (by omega)]
 ·rw [hz];simp
 ·have:r=0∨r=1∨r=2∨r=3∨r=4:=by simp at hr;omega
  rcases this with rfl | rfl | rfl | rfl | rfl <;> exact ⟨⟨rfl,.inl ⟨rfl,rfl⟩⟩,fun q hq=>by simp [Value.ownBlock,nilSlice] at hq⟩
 ·cases e
set_option maxRecDepth 100000 in
set_option maxHeartbeats 4000000 in
theorem visible_call {xq:DX} {w:World} {p:Nat→Own} {b n i:Nat} {d:DRep} (h:RepIn xq w p b n i d) :
  Calls Tryz.prog 22 #[bptr b] w fun e w'=>∃ lv,e=.returned lv∧w'.ownsRow w.heap.size 3 1 lv d.vis.length (ints d.vis)∧Below w.heap.size w w':=by
 obtain ⟨sb,st,sl,tbs,mbs,hv,kn,h⟩:=h
 obtain ⟨-,c1,c2⟩:=h.cellOf
 have hl:=h.blk.blk.lt
 have hvl:d.vis.length=n:=by rw [h.ok.vis,visOf_len]
 have hn5:=h.ok.hist.n5
 have hi:=h.ok.hi
 have hvis:=h.ok.svis
 have hcall:Calls Tryz.prog 57 #[bptr sb] w fun e w'=>e=.returned (vecOf d.vis).val∧Below w.heap.size w w':=by
  obtain ⟨vb,cb,eb,ov,cv,ev,kv,hs⟩:=h.sto
  rw [← hvis]
  exact visible_any w sb st.vis (hs.blk.blk.cell 0) (hs.blk.blk.cell 1) (hs.blk.blk.cell 2) (hs.blk.blk.cell 3) (hs.blk.blk.cell 4)
 have HC:=hide hcall
 have HV:=hide hvl
 have HT:=hide (vec_take hvl hn5)
 have g1:¬ (n:Int)<0:=by omega
 have g2:(n:Int)≤5:=by omega
 have g3:¬ (5:Int)<n:=by omega
 obtain ⟨v,hvv⟩:∃ v,vecOf d.vis=v:=⟨_,rfl⟩
 unfold Hid at HC HT
 rw [hvv] at HC HT
 have HC':=hide HC
 have HT':=hide HT
 clear hcall hvl hvis HC HT hvv
 have HH:=hide h
 clear h
 go_enter Tryz.func22,Tryz.ntmps22
 go_wp2_with (go_at_call 57;refine HC'.out.mono ?_;rintro e w1 ⟨rfl,hB1⟩;have c1':=cell_later hB1 c1;have hl1:b<w1.heap.size:=Nat.lt_of_lt_of_le hl hB1.size;have HB1:=hide hB1;clear hB1)
 generalize hW2:w1.alloc (.cells #[.int .i64 v.a,.int .i64 v.b,.int .i64 v.c,.int .i64 v.d,.int .i64 v.e] 104)=W2
 have hB2:Below w1.heap.size w1 W2:=by rw [← hW2];exact (Below.refl _ _).alloc (Nat.le_refl _) _
 have b2:Blk W2 w1.heap.size [.int .i64 v.a,.int .i64 v.b,.int .i64 v.c,.int .i64 v.d,.int .i64 v.e] 104:=by rw [← hW2];exact heap_alloc_new w1 _
 have hcl:=clone_ints W2 w1.heap.size 5 n (ints d.vis) (by rw [ints_len,HV.out];simp) (fun j u hu=>by
  rw [← HT'.out] at hu
  rw [List.getElem?_take] at hu
  split at hu
  ·rw [Addr.add_lit,Nat.zero_add,b2.cell j];exact hu
  ·cases hu) (fun u hu=>by
  unfold ints at hu
  obtain ⟨x,-,rfl⟩:=List.mem_map.1 hu
  rfl) (by omega)
 have HCL:=hide hcl
 have HB2:=hide hB2
 clear hcl hB2 b2 hW2 c1' hl1
 refine HCL.out.mono ?_
 rintro e w3 ⟨v',rfl,hown,hB3⟩
 have HF:=hide (⟨hown,hB3⟩:_∧_)
 clear hown hB3
 go_wp2_with fail
 go_ret
 have hB12:Below w.heap.size w W2:=HB1.out.trans (HB2.out.mono HB1.out.size)
 refine ⟨_,rfl,?_,hB12.trans (HF.out.2.mono hB12.size)⟩
 rw [HV.out]
 exact ownsRow_low HF.out.1 hB12.size
end Go.Proofs.YtiplgdkpnhamaaaGreatDoor.Tv
namespace Go.Proofs.YtiplgdkpnhamaaaGreatDoor.Tv
open Go.RowKit
theorem heldOf_snoc (hs:List RTx) (u:RTx) (r g:Nat) (hg:g≤cntR hs r):heldOf (hs ++ [u]) r g=heldOf hs r g ++ if u.rep=(r:Int) then [u] else []:=by
 unfold heldOf
 rw [List.filter_append,List.drop_append_of_le_length hg]
 by_cases c:u.rep=(r:Int) <;> simp [c]
set_option maxRecDepth 100000 in
set_option maxHeartbeats 8000000 in
theorem show_any {xq:DX} {w:World} {p:Nat→Own} {b n i:Nat} {d:DRep} {sb:Nat} {st:St} {sl tbs mbs:Nat→Nat} {hv kn:List Value} {u:RTx} {mb:Nat} (h:RepP xq w p b n i d sb st sl tbs mbs hv kn) (hR:d.hs.length≤1100000) (hu:NewOk n d.hs u) (hM:TrIn w (trOf u,mb)) (hmt:p mb=.held 5) :
  Calls Tryz.prog 66 #[bptr b,trVal u.rep.toNat u.seq (vecOf u.saw) mb] w fun e w'=>e=.returned (.tuple #[]) ∧
   ∃ p',RepIn xq w' p' b n i (showD d u)∧QT (fun t=>stoTag t∨t=.rep∨t=.held u.rep.toNat) w p w' p':=by
 have hb5:u.rep.toNat<5:=by have:=hu.rN;have:=h.ok.hist.n5;omega
 have hp0:RepP xq w (own2q p w.heap.size others) b n i d sb st sl tbs mbs hv kn:=h.move fun q hq _=>⟨rfl,own2q_low hq⟩
 have hmt0:own2q p w.heap.size others mb=.held 5:=(own2q_low hM.lt).trans hmt
 have hap:=fun W (hB:Below w.heap.size w W)=>apply_rep (W:=W) (hp0.below hB) hR hu (MapIn.move hM (hB.block _ hM.lt)) hmt0 (Below.refl _ _)
 obtain ⟨sv,hsv⟩:∃ sv,vecOf u.saw=sv:=⟨_,rfl⟩
 obtain ⟨sq,hsq⟩:∃ sq:Int,u.seq=sq:=⟨_,rfl⟩
 obtain ⟨rr,hrr⟩:∃ rr:Nat,u.rep.toNat=rr:=⟨_,rfl⟩
 rw [hsv,hsq,hrr] at hap
 rw [hsv,hsq,hrr]
 rw [hrr] at hb5
 generalize hW0:w.alloc (.cells #[.int .i64 rr,.int .i64 sq,.int .i64 sv.a,.int .i64 sv.b,.int .i64 sv.c,.int .i64 sv.d,.int .i64 sv.e,.map (some mb)] 139)=W0
 have hB0:Below w.heap.size w W0:=by rw [← hW0];exact (Below.refl _ _).alloc (Nat.le_refl _) _
 have bx:Blk W0 w.heap.size [.int .i64 rr,.int .i64 sq,.int .i64 sv.a,.int .i64 sv.b,.int .i64 sv.c,.int .i64 sv.d,.int .i64 sv.e,.map (some mb)] 139:=by rw [← hW0];exact heap_alloc_new w _
 have hb0:=h.below hB0
 obtain ⟨-,-,c2⟩:=hb0.cellOf
 have y2:=Bel.cell c2
 have y0:=Bel.cell (show W0.cell? ⟨w.heap.size,0,none⟩=some (.int .i64 rr) from bx.cell 0)
 have y1:=Bel.cell (show W0.cell? ⟨w.heap.size,1,none⟩=some (.int .i64 sq) from bx.cell 1)
 have y3:=Bel.cell (show W0.cell? ⟨w.heap.size,2,none⟩=some (.int .i64 sv.a) from bx.cell 2)
 have y4:=Bel.cell (show W0.cell? ⟨w.heap.size,3,none⟩=some (.int .i64 sv.b) from bx.cell 3)
 have y5:=Bel.cell (show W0.cell? ⟨w.heap.size,4,none⟩=some (.int .i64 sv.c) from bx.cell 4)
 have y6:=Bel.cell (show W0.cell? ⟨w.heap.size,5,none⟩=some (.int .i64 sv.d) from bx.cell 5)
 have y7:=Bel.cell (show W0.cell? ⟨w.heap.size,6,none⟩=some (.int .i64 sv.e) from bx.cell 6)
 have y8:=Bel.cell (show W0.cell? ⟨w.heap.size,7,none⟩=some (.map (some mb)) from bx.cell 7)
 have HAP:=hide hap
 have HW0:=hide hW0
 have HH:=hide (⟨h,hB0,bx,hp0,hsq,hsv,hrr,hM,hmt⟩:_∧_∧_∧_∧_∧_∧_∧_∧_)
 clear hap h hM hmt hB0 bx hp0 hmt0 hb0 c2 hW0 hsv hsq hrr
 go_enter Tryz.func66,Tryz.ntmps66
 go_upto_region 1 with (fail)
 rw [HW0.out]
 refine region_fam_tail (Bel W0) 5 (by kernel_rfl) (by kernel_rfl) (Below.refl _ _).drew ?_
 simp only [List.take_succ_cons,List.take_zero,List.drop_succ_cons,List.drop_zero]
 repeat (go_big_quiet_step (fail))
 refine wpQuiet_nil ?_
 intro _ hw'
 obtain ⟨fq,rfl⟩:=hw'
 obtain ⟨W1,hB1⟩:=fq
 try dsimp only
 clear y0 y1 y2 y3 y4 y5 y6 y7 y8
 have hBw1:Below w.heap.size w W1:=HH.out.2.1.trans (hB1.mono HH.out.2.1.size)
 go_wp2_with fail
 refine (HAP.out W1 hBw1).mono ?_
 rintro e w2 ⟨rfl,p2,st2,hI2,hok2,hbl2,hq2⟩
 obtain ⟨h,hB0,bx,hp0,hsq,hsv,hrr,hM,hmt⟩:=HH.out
 have hp1:=hp0.below hBw1
 have bb2:=hp1.blk.touch hq2 (by simp [stoTag])
 have bx2:Blk w2 w.heap.size [.int .i64 rr,.int .i64 sq,.int .i64 sv.a,.int .i64 sv.b,.int .i64 sv.c,.int .i64 sv.d,.int .i64 sv.e,.map (some mb)] 139:=by
  have b1:=bx.below hB1
  exact b1.move (hq2.touch.block _ b1.lt (by rw [own2q_high (Nat.le_refl _)];exact sto_other))
 obtain ⟨zs,hz1,hrow,hz3⟩:=(hp1.held rr (by rw [h.hlen];exact hb5)).ex
 have hrow2:=hrow.touch hq2 (by simp [stoTag])
 have hcell2:w2.cell? ⟨b,3+rr,none⟩=some (hv[rr]'(by rw [h.hlen];exact hb5)):=by
  rw [bb2.blk.cell (3+rr),repCells_hv h.hlen rr hb5];simp
 have hzl:zs.length≤2000000:=by
  have e1:=congrArg List.length hz1
  have e2:=cntR_le d.hs rr
  simp only [List.length_map] at e1
  unfold heldOf at e1
  rw [List.length_drop] at e1
  have e3:(d.hs.filter fun u=>decide (u.rep=(rr:Int))).length=cntR d.hs rr:=rfl
  omega
 have hadd:=fun W (hB:Below w2.heap.size w2 W)=>held_add (bb2.below hB) (cell_later hB hcell2) hb5 (hrow2.below hB) hzl sq sv.a sv.b sv.c sv.d sv.e mb
 have HADD:=hide hadd
 have l2:b<w2.heap.size:=bb2.blk.lt
 have y0:=Bel.cell (show w2.cell? ⟨w.heap.size,0,none⟩=some (.int .i64 rr) from bx2.cell 0)
 have y1:=Bel.cell (show w2.cell? ⟨w.heap.size,1,none⟩=some (.int .i64 sq) from bx2.cell 1)
 have y3:=Bel.cell (show w2.cell? ⟨w.heap.size,2,none⟩=some (.int .i64 sv.a) from bx2.cell 2)
 have y4:=Bel.cell (show w2.cell? ⟨w.heap.size,3,none⟩=some (.int .i64 sv.b) from bx2.cell 3)
 have y5:=Bel.cell (show w2.cell? ⟨w.heap.size,4,none⟩=some (.int .i64 sv.c) from bx2.cell 4)
 have y6:=Bel.cell (show w2.cell? ⟨w.heap.size,5,none⟩=some (.int .i64 sv.d) from bx2.cell 5)
 have y7:=Bel.cell (show w2.cell? ⟨w.heap.size,6,none⟩=some (.int .i64 sv.e) from bx2.cell 6)
 have y8:=Bel.cell (show w2.cell? ⟨w.heap.size,7,none⟩=some (.map (some mb)) from bx2.cell 7)
 have H2:=hide (⟨hI2,hok2,hbl2,hq2,hp1,hz1,hz3,hBw1⟩:_∧_∧_∧_∧_∧_∧_∧_)
 clear hadd hI2 hok2 hbl2 hq2 hp1 hz1 hz3 hzl hBw1 hrow hrow2 hcell2 bx2 bb2 h hB0 bx hp0 hsq hsv hrr hM hmt hB1
 go_upto_region 2 with (fail)
 refine region_fam_tail (Bel w2) 4 (by kernel_rfl) (by kernel_rfl) (Below.refl _ _).drew ?_
 simp only [List.take_succ_cons,List.take_zero,List.drop_succ_cons,List.drop_zero]
 repeat (go_big_quiet_step (fail))
 refine wpQuiet_nil ?_
 intro _ hw'
 obtain ⟨fq,rfl⟩:=hw'
 obtain ⟨W3,hB3⟩:=fq
 try dsimp only
 clear y0 y1 y3 y4 y5 y6 y7 y8
 go_wp2_with fail
 refine (HADD.out W3 hB3).mono ?_
 rintro e w4 ⟨rfl,p4,v4,b4,r4,q4⟩
 have H4:=hide (⟨b4,r4,q4⟩:_∧_∧_)
 clear b4 r4 q4
 go_wp2_with fail
 go_end0
 obtain ⟨h,hB0,bx,hp0,hsq,hsv,hrr,hM,hmt⟩:=HH.out
 obtain ⟨hI2,hok2,hbl2,hq2,hp1,hz1,hz3,hBw1⟩:=H2.out
 obtain ⟨b4,r4,q4⟩:=H4.out
 rw [repCells_setH h.hlen rr hb5] at b4
 have qa:QT (fun t=>stoTag t∨t=.rep∨t=.held rr) W1 (own2q p w.heap.size others) w4 p4:=((hq2.below hB3).mono fun u hu=>Or.inl hu).trans (q4.mono fun u hu=>Or.inr hu)
 have q0:QT (fun t=>stoTag t∨t=.rep∨t=.held rr) w (own2q p w.heap.size others) W1 (own2q p w.heap.size others):=QT.ofBelow hBw1
 have qb:=q0.trans qa
 have qf:QT (fun t=>stoTag t∨t=.rep∨t=.held rr) w p w4 p4:=⟨qb.touch.mono fun q hq e=>by rw [own2q_low hq] at e;exact e,fun q hq=>(qb.same q hq).trans (own2q_low hq)⟩
 have hlen:(d.hs ++ [u]).length=d.hs.length+1:=by simp
 have hmw:mb<W1.heap.size:=Nat.lt_of_lt_of_le hM.lt hBw1.size
 have hmt1:own2q p w.heap.size others mb=.held 5:=(own2q_low hM.lt).trans hmt
 have hM1:TrIn W1 (trOf u,mb):=MapIn.move hM (hBw1.block _ hM.lt)
 have hM4:TrIn w4 (trOf u,mb)∧p4 mb=.held 5:=⟨MapIn.movet hM1 qa (by show ¬ _;rw [hmt1];simp [stoTag];omega),(qa.same _ hmw).trans hmt1⟩
 refine ⟨rfl,p4,⟨sb,st2,sl,tbs,mbs,hv.set rr v4,kn,b4,by simp [h.hlen],h.klen,?_,hok2,fun r hr=>?_,fun k' t' e'=>?_,fun c hc=>?_,h.known,fun r=>?_⟩,qf⟩
 ·show StIn w4 p4 sb (48 * (d.hs ++ [u]).length) st2
  rw [hlen]
  obtain ⟨vb,cb,eb,ov,cv,ev,kv,hs1⟩:=hI2.below hB3
  exact ⟨vb,cb,eb,ov,cv,ev,kv,hs1.touch q4 (fun u hu e=>by rcases e with rfl | rfl <;> exact hu)⟩
 ·show HeldP w4 p4 r _ (heldOf (d.hs ++ [u]) r (xq.gone r))
  rw [heldOf_snoc _ _ _ _ (h.gle r)]
  by_cases c:rr=r
  ·subst c
   rw [if_pos (by rw [← hrr];exact hu.repN.symm)]
   refine ⟨zs ++ [(trOf u,mb)],by rw [List.map_append,List.map_append,hz1];rfl,?_,fun y hy=>?_⟩
   ·rw [List.getElem_set_self,List.flatMap_append,List.length_append]
    have:[(trOf u,mb)].flatMap trCells=[.int .i64 rr,.int .i64 sq,.int .i64 sv.a,.int .i64 sv.b,.int .i64 sv.c,.int .i64 sv.d,.int .i64 sv.e,.map (some mb)]:=by
     rw [← hrr,← hsq,← hsv];rfl
    rw [this]
    exact r4
   ·rw [List.mem_append,List.mem_singleton] at hy
    rcases hy with hy | rfl
    ·obtain ⟨a1,a2⟩:=hz3 y hy
     exact ⟨(qa.same _ a2.lt).trans a1,MapIn.movet a2 qa (by show ¬ _;rw [a1];simp [stoTag];omega)⟩
    ·exact ⟨hM4.2,hM4.1⟩
  ·rw [if_neg (by have:=hu.repN;omega),List.append_nil]
   rw [List.length_set] at hr
   rw [List.getElem_set_ne c]
   have hr5:r<5:=by rw [← h.hlen];exact hr
   exact (hp1.held r hr).touch qa (by simp [stoTag];omega) (by simp [stoTag];omega)
 ·have e'':d.opn k'=some t':=e'
  have hx:=hp1.tx k' t' e''
  have o1:p4 (mbs k')=.own k':=(qa.same _ hx.own.lt).trans hx.ownT
  exact ⟨hx.blk.touch qa (by simp [stoTag]),o1,hx.own.movet qa (by rw [hx.ownT];simp [stoTag])⟩
 ·rw [hbl2] at hc
  exact h.snp c hc
 ·show xq.gone r≤cntR (d.hs ++ [u]) r
  rw [cntR_snoc]
  have:=h.gle r
  omega
end Go.Proofs.YtiplgdkpnhamaaaGreatDoor.Tv
namespace Go.Proofs.YtiplgdkpnhamaaaGreatDoor.Tv
open Go.RowKit
def CommitOk:Prop:=∀ (xq:DX) (w:World) (p:Nat→Own) (b n i:Nat) (d:DRep) (tx:Int),RepIn xq w p b n i d→d.hs.length≤1100000 →
 Calls Tryz.prog 32 #[bptr b,.int .i64 tx] w fun e w'=>e=.returned (commitAns i d tx)∧∃ p',RepIn xq w' p' b n i (commitD i d tx)∧QW w p w' p'
end Go.Proofs.YtiplgdkpnhamaaaGreatDoor.Tv
namespace Go.Proofs.YtiplgdkpnhamaaaGreatDoor.Tv
open Go.RowKit
theorem QW.outw {w W0 w1 w2:World} {p p1:Nat→Own} (hB0:Below w.heap.size w W0) (q:QW W0 (own2q p w.heap.size others) w1 p1) (T:Touch (fun q=>q=w.heap.size) w1 w2):QW w p w2 p1:=by
 have q0:QW w p w1 p1:=by
  refine ⟨(Touch.ofBelow hB0).trans (q.touch.mono fun c hc e=>?_),fun c hc e=>?_⟩
  ·by_cases h:c<w.heap.size
   ·rw [own2q_low h] at e;exact Or.inl e
   ·exact Or.inr (by omega)
  ·have:=q.stay c (Nat.lt_of_lt_of_le hc hB0.size) e
   rw [own2q_low hc] at this;exact this
 exact ⟨q0.touch.trans (T.mono fun c _ e=>Or.inr (by omega)),q0.stay⟩
theorem QW.below {w w1 w2:World} {p p1:Nat→Own} (h:QW w p w1 p1) (hb:Below w1.heap.size w1 w2):QW w p w2 p1:=⟨h.touch.trans (Touch.ofBelow hb),h.stay⟩
theorem RepP.retag {xq:DX} {w:World} {p:Nat→Own} {b n i k mb:Nat} {d:DRep} {sb:Nat} {st:St} {sl tbs mbs:Nat→Nat} {hv kn:List Value} (h:RepP xq w p b n i d sb st sl tbs mbs hv kn) (hk:d.opn k=none) (hm:p mb=.own k) (u:Own):RepP xq w (updq p mb u) b n i d sb st sl tbs mbs hv kn:=by
 have f:∀ q v,p q=v→v≠.own k→updq p mb u q=p q:=fun q v e hv=>updq_other fun c=>hv (by rw [← e,c];exact hm)
 have g:∀ v,v≠Own.own k→∀ q,q<w.heap.size→p q=v→w.heap[q]? = w.heap[q]?∧updq p mb u q=v:=fun v hv q hq e=>⟨rfl,(f q v e hv).trans e⟩
 obtain ⟨vb,cb,eb,ov,cv,ev,kv,hs⟩:=h.sto
 refine ⟨h.blk.move2 (g _ (by simp)),h.hlen,h.klen,⟨vb,cb,eb,ov,cv,ev,kv,hs.move fun q hq e=>⟨rfl,f q _ rfl fun c=>by rw [c] at e;exact e⟩⟩,h.ok,fun r hr=>(h.held r hr).move2 fun q hq e=>⟨rfl,by rcases e with e | e <;> exact f q _ e (by simp)⟩,fun k' t e=>?_,h.snp,h.known,h.gle⟩
 have hne:k'≠k:=fun c=>by rw [c,hk] at e;cases e
 have hx:=h.tx k' t e
 exact ⟨hx.blk.move2 (g _ (by simp)),(f _ _ hx.ownT (by simp [hne])).trans hx.ownT,hx.own⟩
theorem RepIn.res {xq:DX} {w W0 w1 w2:World} {p p1:Nat→Own} {b n i:Nat} {d:DRep} (h:RepIn xq w1 p1 b n i d) (hz:w.heap.size<W0.heap.size) (q:QW W0 (own2q p w.heap.size others) w1 p1) (T:Touch (fun q=>q=w.heap.size) w1 w2):RepIn xq w2 p1 b n i d:=
 h.move fun c hc hne=>⟨T.block c hc (fun e=>q.stay c (by omega) hne (by rw [e,own2q_high (Nat.le_refl _)])),rfl⟩
set_option maxRecDepth 100000 in
set_option maxHeartbeats 8000000 in
theorem commit_ok:CommitOk:=by
 intro xq w p b n i d tx h hR
 obtain ⟨sb,st,sl,tbs,mbs,hv,kn,h⟩:=h
 generalize hW0:w.alloc (.cells #[.int .i64 0,.int .i64 0] 62)=W0
 have hB0:Below w.heap.size w W0:=by rw [← hW0];exact (Below.refl _ _).alloc (Nat.le_refl _) _
 have bv:Blk W0 w.heap.size [.int .i64 0,.int .i64 0] 62:=by rw [← hW0];exact heap_alloc_new w _
 have h0:RepP xq W0 (own2q p w.heap.size others) b n i d sb st sl tbs mbs hv kn:=h.move fun q hq _=>⟨hB0.block q hq,own2q_low hq⟩
 have hl:w.heap.size<W0.heap.size:=bv.lt
 cases ho:opnAt d tx with
 | none=>
  have ea:commitAns i d tx=.tuple #[.agg #[.int .i64 0,.int .i64 0],.int .i64 4]:=by unfold commitAns;rw [ho]
  have ed:commitD i d tx=d:=by unfold commitD;rw [ho]
  rw [ea,ed]
  have HF:=hide (h0.find_none ho)
  have v0:W0.cell? ⟨w.heap.size,0,none⟩=some (.int .i64 0):=bv.cell 0
  have v1:W0.cell? ⟨w.heap.size,1,none⟩=some (.int .i64 0):=bv.cell 1
  have f0:W0.frozen? ⟨w.heap.size,0,none⟩=false:=bv.frozen 0
  have f1:W0.frozen? ⟨w.heap.size,1,none⟩=false:=bv.frozen 1
  have HW0:=hide hW0
  have HH:=hide (⟨h,hB0⟩:_∧_)
  clear h0 ho ea ed hW0 hB0 bv h
  go_enter Tryz.func32,Tryz.ntmps32
  go_upto_region 1 with (fail)
  rw [HW0.out]
  go_wp2_with (go_at_call 60;refine HF.out.mono ?_;rintro e w1 ⟨rfl,rfl⟩)
  have hBf:=(HH.out.2.setCell (p:=⟨w.heap.size,0,none⟩) (Nat.le_refl _) (.int .i64 0)).setCell (p:=⟨w.heap.size,1,none⟩) (Nat.le_refl _) (.int .i64 0)
  exact bodyPost_ret (v:=.tuple #[.agg #[.int .i64 0,.int .i64 0],.int .i64 4]) (by simp [results,Tryz.results32,go_sem,v0,v1]) rfl ⟨rfl,p,⟨sb,st,sl,tbs,mbs,hv,kn,HH.out.1.below hBf⟩,QT.qw (QT.ofBelow hBf)⟩
 | some t=>
  obtain ⟨k,rfl,hk,hok,hf⟩:=h0.find_some ho
  have hend:=end_any h0 hR hok
  have HF:=hide hf
  have HE:=hide hend
  have HW0:=hide hW0
  have HH:=hide (⟨h,hB0,bv,h0⟩:_∧_∧_∧_)
  have hto:=(h.ok.opn k t hok).1
  have HTO:=hide hto
  by_cases hz:t.ops.length=0
  ·have ea:commitAns i d k=.tuple #[.agg #[.int .i64 0,.int .i64 0],.int .i64 0]:=by unfold commitAns;rw [ho];simp only;rw [if_pos hz]
   have ed:commitD i d k={ d with opn:=setSlot d.opn k none }:=by unfold commitD;rw [ho];simp only;rw [if_pos hz];unfold endD;simp
   rw [ea,ed]
   clear hf hend hW0 h hB0 bv h0 ho hok hto ea ed
   go_enter Tryz.func32,Tryz.ntmps32
   go_upto_region 1 with (fail)
   rw [HW0.out]
   go_wp2_with (go_at_call 60;refine HF.out.mono ?_;rintro e w1 ⟨rfl,rfl⟩)
   refine HE.out.mono ?_
   rintro e w2 ⟨rfl,p2,st2,h2,q2,hT2,hB2⟩
   have bv2:Blk w2 w.heap.size [.int .i64 0,.int .i64 0] 62:=HH.out.2.2.1.move (q2.touch.block _ HH.out.2.2.1.lt (by rw [own2q_high (Nat.le_refl _)];simp [notOther,others]))
   have c1:w2.cell? ⟨tbs k,1,none⟩=some (.int .i64 0):=by have:=hT2.blk.blk.cell 1;rw [hz] at this;exact this
   have l1:=hT2.blk.blk.lt
   have v0:w2.cell? ⟨w.heap.size,0,none⟩=some (.int .i64 0):=bv2.cell 0
   have v1:w2.cell? ⟨w.heap.size,1,none⟩=some (.int .i64 0):=bv2.cell 1
   have f0:w2.frozen? ⟨w.heap.size,0,none⟩=false:=bv2.frozen 0
   have f1:w2.frozen? ⟨w.heap.size,1,none⟩=false:=bv2.frozen 1
   have l2:w.heap.size<w2.heap.size:=bv2.lt
   have H2:=hide (⟨h2,q2⟩:_∧_)
   clear h2 q2 hT2 hB2 bv2
   go_wp2_with fail
   have hTo:Touch (fun q=>q=w.heap.size) w2 ((w2.setCell ⟨w.heap.size,0,none⟩ (.int .i64 0)).setCell ⟨w.heap.size,1,none⟩ (.int .i64 0)):=((Touch.refl (fun q=>q=w.heap.size) w2).setCell (p:=⟨w.heap.size,0,none⟩) (Or.inl rfl) _).setCell (p:=⟨w.heap.size,1,none⟩) (Or.inl rfl) _
   exact bodyPost_ret (v:=.tuple #[.agg #[.int .i64 0,.int .i64 0],.int .i64 0]) (by simp [results,Tryz.results32,go_sem,v0,v1]) rfl ⟨rfl,p2,RepIn.res ⟨sb,st2,sl,tbs,mbs,hv,kn,H2.out.1⟩ hl (QT.qw H2.out.2) hTo,QW.outw HH.out.2.1 (QT.qw H2.out.2) hTo⟩
  ·obtain ⟨cq,hcq⟩:∃ cq,cntR d.hs i=cq:=⟨_,rfl⟩
   have hcl:=cntR_le d.hs i
   rw [hcq] at hcl
   have hvq:d.vis.getD i 0=(cq:Int):=by rw [h.ok.vis,visOf_get h.ok.hi,hcq]
   have hseq:d.vis.getD i 0+1=(cq:Int)+1:=by rw [hvq]
   have hnew:NewOk n d.hs (done i d t):=(h.ok.opn k t hok).1.new h.ok.hist h.ok.vis h.ok.hi (by omega)
   have hfew:=(h.ok.opn k t hok).1.ops.few
   have HN:=hide (⟨hnew,hfew,hseq⟩:_∧_∧_)
   clear hnew hfew
   have ea:commitAns i d k=.tuple #[.agg #[.int .i64 i,.int .i64 ((cq:Int)+1)],.int .i64 0]:=by unfold commitAns;rw [ho];simp only;rw [if_neg hz,hseq]
   have ed:commitD i d k=⟨d.hs ++ [done i d t],d.vis.set i (d.vis.getD i 0+1),setSlot d.opn k none⟩:=by unfold commitD;rw [ho];simp only;rw [if_neg hz];simp
   rw [ea,ed]
   have hi5:i<5:=by have:=h.ok.hi;have:=h.ok.hist.n5;omega
   have hget:(vecOf d.vis).get i=(cq:Int):=by
    rw [vecOf_get (by rw [h.ok.vis,visOf_len];exact h.ok.hist.n5)]
    simp only [Int.toNat_natCast]
    exact hvq
   have hne:((t.ops.length:Int) == 0)=false:=beq_false_of_ne (by omega)
   clear hf hend hW0 h hB0 bv h0 ho hok hto ea ed hseq hvq hcq
   go_enter Tryz.func32,Tryz.ntmps32
   go_upto_region 1 with (fail)
   rw [HW0.out]
   go_wp2_with (go_at_call 60;refine HF.out.mono ?_;rintro e w1 ⟨rfl,rfl⟩)
   refine HE.out.mono ?_
   rintro e w2 ⟨rfl,p2,st2,h2,q2,hT2,hB2⟩
   have c1:w2.cell? ⟨tbs k,1,none⟩=some (.int .i64 t.ops.length):=hT2.blk.blk.cell 1
   have l1:=hT2.blk.blk.lt
   obtain ⟨c0,-,c2⟩:=h2.cellOf
   have lb:=h2.blk.blk.lt
   have hix:=idx5_at (vecOf d.vis) i hi5
   rw [hget] at hix
   obtain ⟨v,hv'⟩:∃ v,vecOf d.vis=v:=⟨_,rfl⟩
   have hvis:∀ W,Below w2.heap.size w2 W→Calls Tryz.prog 57 #[bptr sb] W fun e w'=>e=.returned v.val∧Below W.heap.size W w':=fun W hB=>by
    obtain ⟨vb,cb,eb,ov,cv,ev,kv,hs⟩:=h2.sto.below hB
    have e1:st2.vis=v:=by rw [← hv'];exact h2.ok.svis
    rw [← e1]
    exact visible_any W sb st2.vis (hs.blk.blk.cell 0) (hs.blk.blk.cell 1) (hs.blk.blk.cell 2) (hs.blk.blk.cell 3) (hs.blk.blk.cell 4)
   rw [hv'] at hix
   have HVa:Hid (Calls Tryz.prog 57 #[bptr sb] w2.drew fun e w'=>e=.returned v.val∧(w'.cell? ⟨b,0,none⟩=some (.int .i64 i)∧w'.cell? ⟨b,2,none⟩=some (bptr sb))∧b<w'.heap.size∧Hid (Below w2.heap.size w2 w')):=(hvis w2.drew (Below.refl _ _).drew).mono (by
    rintro e w' ⟨rfl,hB⟩
    have hB':Below w2.heap.size w2 w':=(Below.refl _ _).drew.trans hB
    exact ⟨rfl,⟨cell_later hB' c0,cell_later hB' c2⟩,Nat.lt_of_lt_of_le lb hB'.size,hB'⟩)
   have HVb:Hid (Calls Tryz.prog 57 #[bptr sb] (w2.alloc (.cells #[.int .i64 0,.int .i64 0] 62)).drew fun e w'=>e=.returned v.val∧(w'.cell? ⟨b,0,none⟩=some (.int .i64 i)∧w'.cell? ⟨b,2,none⟩=some (bptr sb))∧b<w'.heap.size∧w'.cell? ⟨w2.heap.size,0,none⟩=some (.int .i64 0)∧w'.cell? ⟨w2.heap.size,1,none⟩=some (.int .i64 0)∧w'.frozen? ⟨w2.heap.size,0,none⟩=false∧w'.frozen? ⟨w2.heap.size,1,none⟩=false∧w2.heap.size<w'.heap.size∧Hid (Blk w' w2.heap.size [.int .i64 0,.int .i64 0] 62∧Below w2.heap.size w2 w')):=by
    have hBa:Below w2.heap.size w2 (w2.alloc (.cells #[.int .i64 0,.int .i64 0] 62)).drew:=((Below.refl _ _).alloc (Nat.le_refl _) _).drew
    refine (hvis _ hBa).mono ?_
    rintro e w' ⟨rfl,hB⟩
    have hB':Below w2.heap.size w2 w':=hBa.trans (hB.mono hBa.size)
    have bz:Blk (w2.alloc (.cells #[.int .i64 0,.int .i64 0] 62)).drew w2.heap.size [.int .i64 0,.int .i64 0] 62:=heap_alloc_new w2 _
    have bz':=bz.below hB
    exact ⟨rfl,⟨cell_later hB' c0,cell_later hB' c2⟩,Nat.lt_of_lt_of_le lb hB'.size,bz'.cell 0,bz'.cell 1,bz'.frozen 0,bz'.frozen 1,bz'.lt,bz',hB'⟩
   have H2:=hide (⟨h2,q2,hT2,hB2⟩:_∧_∧_∧_)
   clear h2 q2 hT2 hB2 hvis hv' hget
   have hwr:IntKind.i64.wrap ((cq:Int)+1)=(cq:Int)+1:=by rw [IntKind.wrap_i64];omega
   have nb2:¬ w2.heap.size=b:=by omega
   have nb3:¬ b=w2.heap.size:=by omega
   have ne1:=World.new_ne w2 _ c0
   have ne2:=World.new_ne w2 _ c2
   have g0:(0:Int)≤cq:=by omega
   have g1:(cq:Int)≤1100000:=by omega
   go_upto_region 7 with (fail)
   clear c1 l1
   go_cut [7] (fun pt wc=>∃ db,pt=bptr db∧Hid (w2.heap.size≤db∧Blk wc db [.int .i64 i,.int .i64 ((cq:Int)+1)] 62∧Below w2.heap.size w2 wc))
   case first=>
    go_region_held3 (fun W=>W.cell? ⟨b,0,none⟩=some (.int .i64 i)∧W.cell? ⟨b,2,none⟩=some (bptr sb)) (go_keep) (first | (go_at_call 57;show Calls _ _ _ (World.drew (World.alloc _ _)) _;refine HVb.out.mono ?_;rintro e w5 ⟨rfl,⟨k0,k2⟩,k1,z0,z1,z2,z3,z4,hB5⟩) | (go_at_call 57;refine HVa.out.mono ?_;rintro e w5 ⟨rfl,⟨k0,k2⟩,k1,hB5⟩;have nb5:¬ w5.heap.size=b:=(by omega);have nb6:¬ b=w5.heap.size:=(by omega);have ne5:=World.new_ne w5 _ k0;have ne6:=World.new_ne w5 _ k2))
    all_goals go_wp2_with fail
    all_goals go_meet
    all_goals
     first
      | exact ⟨_,rfl,hB5.out.size,heap_alloc_new w5 _,hB5.out.alloc hB5.out.size _⟩
      | exact ⟨_,rfl,Nat.le_refl _,(hB5.out.1.set 0 _).set 1 _,(hB5.out.2.setCell (Nat.le_refl _) _).setCell (Nat.le_refl _) _⟩
   case rest=>
    obtain ⟨db,rfl,hdb⟩:=hcut
    obtain ⟨h2,q2,hT2,hB2⟩:=H2.out
    have hmk:p2 (mbs k)=.own k:=hT2.ownT
    have h2r:=h2.retag (k:=k) (setSlot_same _ _ _) hmk (.held 5)
    have h2':RepP xq w2 (own2q (updq p2 (mbs k) (.held 5)) w2.heap.size others) b n i { d with opn:=setSlot d.opn k none } sb st2 sl tbs mbs hv kn:=h2r.move fun q hq _=>⟨rfl,own2q_low hq⟩
    have hmo:own2q (updq p2 (mbs k) (.held 5)) w2.heap.size others (mbs k)=.held 5:=by rw [own2q_low hT2.own.lt,updq_same]
    have hMt:TrIn w2 (trOf (done i d t),mbs k):=hT2.own.mono HN.out.2.1
    have q2':QW w1 (own2q p w.heap.size others) w2 (own2q (updq p2 (mbs k) (.held 5)) w2.heap.size others):=⟨q2.touch,fun q hq hne=>by
     rw [own2q_low (Nat.lt_of_lt_of_le hq q2.size)] at hne
     by_cases c:q=mbs k
     ·rw [← q2.same q hq,c,hmk];simp
     ·rw [updq_other c,q2.same q hq] at hne;exact hne⟩
    have hlw2:w.heap.size<w2.heap.size:=Nat.lt_of_lt_of_le hl q2.size
    have hwk:w.heap.size≠mbs k:=fun c=>by
     have:=q2.same _ hl
     rw [own2q_high (Nat.le_refl _),c,hmk] at this;simp [others] at this
    have tw:own2q (updq p2 (mbs k) (.held 5)) w2.heap.size others w.heap.size=.other:=by rw [own2q_low hlw2,updq_other hwk,q2.same _ hl,own2q_high (Nat.le_refl _)]
    have bvw:Blk w2 w.heap.size [.int .i64 0,.int .i64 0] 62:=HH.out.2.2.1.move (q2.touch.block _ HH.out.2.2.1.lt (by rw [own2q_high (Nat.le_refl _)];simp [notOther,others]))
    have hsh:=fun W (hB:Below w2.heap.size w2 W)=>show_any (u:=done i d t) (h2'.below hB) (by exact hR) (by exact HN.out.1) (MapIn.move hMt (hB.block _ hMt.lt)) hmo
    have er:(done i d t).rep.toNat=i:=by show ((i:Nat):Int).toNat=i;simp
    have es:(done i d t).seq=(cq:Int)+1:=HN.out.2.2
    have ew:(done i d t).saw=t.saw:=rfl
    rw [er,es,ew] at hsh
    clear er es ew
    obtain ⟨sv,hsv⟩:∃ sv,vecOf t.saw=sv:=⟨_,rfl⟩
    rw [hsv] at hB2
    simp only [hsv] at hsh
    have hBc:=hdb.out.2.2
    have snc:=hB2.below hBc
    have txc:=hT2.blk.blk.below hBc
    have y0:=Bel.cell (show wc.cell? ⟨db,0,none⟩=some (.int .i64 i) from hdb.out.2.1.cell 0)
    have y1:=Bel.cell (show wc.cell? ⟨db,1,none⟩=some (.int .i64 ((cq:Int)+1)) from hdb.out.2.1.cell 1)
    have y2:=Bel.cell (show wc.cell? ⟨tbs k,0,none⟩=some (bptr (sl k)) from txc.cell 0)
    have y3:=Bel.cell (show wc.cell? ⟨tbs k,2,none⟩=some (.map (some (mbs k))) from txc.cell 2)
    have hsaw:∀ f:Fam (Bel wc),Calls Tryz.prog 67 #[bptr (sl k)] f.w fun e w''=>e=.returned sv.val∧∃ g:Fam (Bel wc),w''=g.w:=fun f=>by
     have sf:=snc.below f.ok
     exact Bel.call f (saw_any f.w (sl k) sv (sf.cell 1) (sf.cell 2) (sf.cell 3) (sf.cell 4) (sf.cell 5))
    have HSAW:=hide hsaw
    have HSH:=hide hsh
    have H3:=hide (⟨q2',tw,bvw,hBc,hdb.out.2.1,hlw2,hdb.out.1⟩:_∧_∧_∧_∧_∧_∧_)
    clear h2 q2 hT2 hB2 h2' h2r hmk hmo hMt hwk q2' tw bvw hsh hsv snc txc hsaw HVa HVb hix c0 c2 lb hdb hBc hlw2
    go_upto_region 8 with (fail)
    refine region_fam_tail (Bel wc) 12 (by kernel_rfl) (by kernel_rfl) (Below.refl _ _).drew ?_
    simp only [List.take_succ_cons,List.take_zero,List.drop_succ_cons,List.drop_zero]
    repeat (go_big_quiet_step (first | (go_at_call 67;exact HSAW.out _)))
    refine wpQuiet_nil ?_
    intro _ hw'
    obtain ⟨fq,rfl⟩:=hw'
    obtain ⟨W3,hB3⟩:=fq
    try dsimp only
    clear y0 y1 y2 y3
    have hB23:Below w2.heap.size w2 W3:=H3.out.2.2.2.1.trans (hB3.mono H3.out.2.2.2.1.size)
    go_wp2_with fail
    refine (HSH.out W3 hB23).mono ?_
    rintro e w6 ⟨rfl,p6,h6,q6⟩
    obtain ⟨q2',tw,bvw,hBc,bdb,hlw2,hge⟩:=H3.out
    have q6n:QT notOther _ _ _ _:=q6.mono fun u hu=>by
     rcases hu with hu | hu | hu
     ·exact sto_not hu
     ·rw [hu];simp [notOther]
     ·rw [hu];simp [notOther]
    have bd3:=bdb.below hB3
    have bd6:Blk w6 db [.int .i64 i,.int .i64 ((cq:Int)+1)] 62:=bd3.move (q6n.touch.block _ bd3.lt (by rw [own2q_high hge];simp [notOther,others]))
    have bv3:=bvw.below hB23
    have bv6:Blk w6 w.heap.size [.int .i64 0,.int .i64 0] 62:=bv3.move (q6n.touch.block _ bv3.lt (by rw [tw];simp [notOther]))
    have d0:w6.cell? ⟨db,0,none⟩=some (.int .i64 i):=bd6.cell 0
    have d1:w6.cell? ⟨db,1,none⟩=some (.int .i64 ((cq:Int)+1)):=bd6.cell 1
    have l6:db<w6.heap.size:=bd6.lt
    have v0:w6.cell? ⟨w.heap.size,0,none⟩=some (.int .i64 0):=bv6.cell 0
    have v1:w6.cell? ⟨w.heap.size,1,none⟩=some (.int .i64 0):=bv6.cell 1
    have f0:w6.frozen? ⟨w.heap.size,0,none⟩=false:=bv6.frozen 0
    have f1:w6.frozen? ⟨w.heap.size,1,none⟩=false:=bv6.frozen 1
    have l7:w.heap.size<w6.heap.size:=bv6.lt
    have qfin:QW w1 (own2q p w.heap.size others) w6 p6:=(q2'.below hB23).trans (QT.qw q6n)
    have H6:=hide (⟨h6,qfin⟩:_∧_)
    clear q2' tw bvw hBc bdb hlw2 hge bd3 bd6 bv3 bv6 h6 q6 q6n qfin hB3 hB23
    go_wp2_with fail
    have hTo:Touch (fun q=>q=w.heap.size) w6 ((w6.setCell ⟨w.heap.size,0,none⟩ (.int .i64 i)).setCell ⟨w.heap.size,1,none⟩ (.int .i64 ((cq:Int)+1))):=((Touch.refl (fun q=>q=w.heap.size) w6).setCell (p:=⟨w.heap.size,0,none⟩) (Or.inl rfl) _).setCell (p:=⟨w.heap.size,1,none⟩) (Or.inl rfl) _
    exact bodyPost_ret (v:=.tuple #[.agg #[.int .i64 i,.int .i64 ((cq:Int)+1)],.int .i64 0]) (by simp [results,Tryz.results32,go_sem,v0,v1]) rfl ⟨rfl,p6,RepIn.res (by have:=H6.out.1;unfold showD at this;exact this) hl H6.out.2 hTo,QW.outw HH.out.2.1 H6.out.2 hTo⟩
end Go.Proofs.YtiplgdkpnhamaaaGreatDoor.Tv
namespace Go.Proofs.YtiplgdkpnhamaaaGreatDoor
open Go.RowKit Go.Sort
theorem QPerm.swpAny {B:Nat} {w:World} {qb g cap:Nat} {l l':List Wt} {wr:World} (h:QPerm B w qb g cap l l' wr) (hl:l.length≤100000000) {i j:Nat} (hi:i<l'.length) (hj:j<l'.length) :
  Calls Tryz.prog 295 #[.slice (some ⟨g,0,none⟩) l.length cap,.int .i64 i,.int .i64 j] wr fun e w'=>e=.returned (.tuple #[])∧QPerm B w qb g cap l (swapL l' i j hi hj) w':=by
 by_cases hij:i=j
 ·subst hij
  have a:=q_swap0 B wr g cap l' h.row (by rw [h.len];exact hl) hi
  rw [h.len] at a
  refine a.mono ?_
  rintro e w' ⟨rfl,h1,h2⟩
  exact ⟨rfl,h.swap hi hj h1 h2⟩
 ·exact h.swp hl hi hj hij
def QX (w:World) (qb:Nat) (l:List Wt) (X:Nat→Prop):Prop:=∃ sv,QIn 0 w qb sv l∧X qb∧(∀ q,sv.ownBlock=some q→X q)∧HeapF wLt (vw dWt l) l.length
abbrev OrNew (X:Nat→Prop) (w:World):Nat→Prop:=fun q=>X q∨w.heap.size≤q
def HPush (w:World) (qb:Nat) (l:List Wt) (y:Wt) (X:Nat→Prop) (e:Ending) (w':World):Prop:=e=.returned (.tuple #[])∧∃ l',l'.Perm (l ++ [y])∧QX w' qb l' (OrNew X w)∧Touch X w w'
set_option maxRecDepth 100000 in
set_option maxHeartbeats 4000000 in
theorem heap_push (w:World) (qb:Nat) (l:List Wt) (y:Wt) (X:Nat→Prop) (hq:QX w qb l X) (hl:l.length≤90000000) :
  Calls Tryz.prog 126 #[qIface qb,.iface 213 (wtVal y)] w (HPush w qb l y X):=by
 obtain ⟨sv,hq,hX1,hX2,hh⟩:=hq
 have hp:=q_push w qb sv l y hq (by omega)
 have HP:=hide hp
 have hm0:=meth_push qb w
 have HH:=hide (⟨hh,hl⟩:_∧_)
 have HX:=hide (⟨hX1,hX2⟩:_∧_)
 clear hp hq hh hl hX1 hX2
 obtain ⟨yv,hyv⟩:∃ yv,wtVal y=yv:=⟨_,rfl⟩
 rw [hyv] at HP ⊢
 clear hyv
 go_enter Tryz.func126,Tryz.ntmps126
 go_wp2_with (first | (go_at_call 294;refine HP.out.mono ?_;rintro e w1 ⟨rfl,sv1,hq1,hT1,hN1⟩;refine Hid.out ?_))
 refine Lib.hid ?_
 obtain ⟨g,cap,rfl,hcap,-⟩:=Row.pos (ownsRow_low hq1.row (Nat.zero_le _)) (by simp)
 have hm1:=meth_len qb w1 hq1.cell
 have hl1:(l ++ [y]).length=l.length+1:=by simp
 have hup:UpF wLt (vw dWt (l ++ [y])) (l ++ [y]).length l.length:=by
  rw [hl1]
  exact HH.out.1.grow fun k hk=>by simp [vw,List.getElem?_append_left hk]
 have hu:=heap_up 0 w1 qb g cap (l ++ [y]) hq1 (by have:=HH.out.2;omega) (j:=l.length) (by omega) hup
 have HU:=hide hu
 have hn:=fun W=>q_len W (some ⟨g,0,none⟩) (l ++ [y]).length cap
 have HN:=hide hn
 rw [hl1] at hm1 HN
 have hlb:=HH.out.2
 have H1:=hide (⟨hT1,hN1⟩:_∧_)
 clear hu hn hq1 hT1 hN1 hup
 go_wp2_with (first | (go_at_call 128;refine (HN.out _).mono ?_;rintro e w2 ⟨rfl,rfl⟩) | (go_at_call 172;refine HU.out.mono ?_;rintro e w3 ⟨rfl,l',hQ,hH⟩;have HQ:=hide (⟨hQ,hH⟩:_∧_);clear hQ hH))
 go_end0
 have hg:OrNew X w g:=by
  rcases H1.out.2 g rfl with c | c
  ·exact Or.inl (HX.out.2 g c)
  ·exact Or.inr c
 have hT:=H1.out.1.mono (T:=X) fun q _ c=>by
  rcases c with c | c
  ·rw [c];exact HX.out.1
  ·exact HX.out.2 q c
 refine ⟨rfl,l',HQ.out.1.perm,⟨_,HQ.out.1.q,Or.inl HX.out.1,fun q hq=>?_,HQ.out.2⟩,hT.trans (HQ.out.1.tch.mono fun q _ c=>by rw [c];exact hg)⟩
 have:q=g:=by simp [Value.ownBlock] at hq;exact hq.symm
 rw [this];exact hg
def HPop (w:World) (qb:Nat) (l:List Wt) (X:Nat→Prop) (e:Ending) (w':World):Prop:=∃ y l',e=.returned (.iface 213 (wtVal y))∧(y :: l').Perm l∧(∀ z,z ∈ l→wLt z y=false)∧QX w' qb l' X∧Touch X w w'
theorem vw_mem {l:List Wt} {z:Wt} (h:z ∈ l):∃ k,k<l.length∧vw dWt l k=z:=by
 obtain ⟨k,hk,rfl⟩:=List.mem_iff_getElem.1 h
 exact ⟨k,hk,vw_get hk⟩
set_option maxRecDepth 100000 in
set_option maxHeartbeats 4000000 in
theorem heap_pop (w:World) (qb:Nat) (l:List Wt) (X:Nat→Prop) (hq:QX w qb l X) (hl:l.length≤90000000) (hl0:0<l.length) :
  Calls Tryz.prog 129 #[qIface qb] w (HPop w qb l X):=by
 obtain ⟨sv,hq,hX1,hX2,hh⟩:=hq
 obtain ⟨g,cap,rfl,hcap,-⟩:=Row.pos (ownsRow_low hq.row (Nat.zero_le _)) hl0
 have hQ0:QPerm 0 w qb g cap l l w:=⟨rfl,List.Perm.refl _,hq,Touch.refl _ _⟩
 obtain ⟨n,hn⟩:∃ n,l.length=n+1:=⟨l.length - 1,by omega⟩
 have h0l:0<l.length:=hl0
 have hnl:n<l.length:=by omega
 have hm0:=meth_len qb w hq.cell
 have hm1:=meth_swap qb w hq.cell
 have hlen:=fun W=>q_len W (some ⟨g,0,none⟩) l.length cap
 have hsw:=hQ0.swpAny (by omega) h0l hnl
 rw [show ((0:Nat):Int)=0 from rfl] at hsw
 have HS:=hide hsw
 have HN:=hide hlen
 have hn9:n≤90000000:=by omega
 have HH:=hide (⟨hh,hn,hcap⟩:_∧_∧_)
 have HX:=hide (⟨hX1,hX2 g rfl⟩:X qb∧X g)
 clear hX1 hX2
 rw [hn] at hm0 hm1 HN HS
 clear hsw hlen hq hQ0 hl hh hcap hl0 hn
 go_enter Tryz.func129,Tryz.ntmps129
 go_wp2_with (first | (go_at_call 128;refine (HN.out _).mono ?_;rintro e w2 ⟨rfl,rfl⟩) | (go_at_call 295;refine HS.out.mono ?_;rintro e w1 ⟨rfl,hQ1⟩;refine Hid.out ?_))
 refine Lib.hid ?_
 obtain ⟨L,hL⟩:∃ L,swapL l 0 n h0l hnl=L:=⟨_,rfl⟩
 rw [hL] at hQ1
 have hvL:vw dWt L=sw (vw dWt l) 0 n:=by rw [← hL];exact vw_swap dWt l h0l hnl
 have hLl:L.length=n+1:=hQ1.len.trans HH.out.2.1
 have hq1:QIn 0 w1 qb (.slice (some ⟨g,0,none⟩) L.length cap) L:=by have:=hQ1.q;rw [← hQ1.len] at this;exact this
 have hdn:DownF wLt (vw dWt L) n 0:=by
  have a:=HH.out.1
  rw [HH.out.2.1] at a
  exact a.pop fun k h1 h2=>by rw [hvL];unfold sw;rw [if_neg (by omega),if_neg (by omega)]
 have hdw:=heap_down 0 w1 qb g cap L hq1 (by omega) (n:=n) (by omega) hdn
 have HD:=hide hdw
 have H1:=hide (⟨hQ1,hvL,hLl⟩:_∧_∧_)
 clear hdw hq1 hdn hQ1 hvL hL
 go_wp2_with (first | (go_at_call 173;refine HD.out.mono ?_;rintro e w3 ⟨⟨b,rfl⟩,l2,hQ2,hH2,hE2⟩;refine Hid.out ?_))
 refine Lib.hid ?_
 have h2l:l2.length=n+1:=hQ2.len.trans hLl
 have hq2:QIn 0 w3 qb (.slice (some ⟨g,0,none⟩) l2.length cap) l2:=by have:=hQ2.q;rw [← hQ2.len] at this;exact this
 have hm3:=meth_pop qb w3
 have hpp:=q_pop 0 w3 qb g cap n l2 hq2 h2l (by omega) (by have:=HH.out;omega)
 have HPP:=hide hpp
 have H2:=hide (⟨hQ2,hH2,hE2⟩:_∧_∧_)
 clear hpp hq2 hQ2 hH2 hE2
 go_wp2_with (first | (go_at_call 293;refine HPP.out.mono ?_;rintro e w4 ⟨rfl,hq4,hB4⟩;have H4:=hide (⟨hq4,hB4⟩:_∧_);clear hq4 hB4))
 go_ret
 obtain ⟨hQ1,hvL,-⟩:=H1.out
 obtain ⟨hQ2,hH2,hE2⟩:=H2.out
 have hn2:n<l2.length:=by omega
 have ey:l2[n]=vw dWt l 0:=by
  have a:=hE2 n (Nat.le_refl _)
  rw [vw_get hn2,hvL] at a
  rw [a];unfold sw;rw [if_pos rfl]
 have ht:(l2.take n).length=n:=by rw [List.length_take];omega
 have hp2:(l2[n] :: l2.take n).Perm l2:=by
  have e:l2=l2.take n ++ [l2[n]]:=by
   have:=List.take_succ_eq_append_getElem hn2
   rw [← this,List.take_of_length_le (by omega)]
  exact (List.perm_append_singleton _ _).symm.trans (by rw [← e])
 have hT:Touch X w2 w4:=((hQ1.tch.mono fun q _ c=>by rw [c];exact HX.out.2).then (hQ2.tch.mono fun q _ c=>by rw [c];exact HX.out.2)).then (H4.out.2.mono fun q _ c=>by rw [c];exact HX.out.1)
 have hX3:∀ q,(Value.slice (some ⟨g,0,none⟩) (l2.take n).length cap).ownBlock=some q→X q:=fun q hq=>by
  have e:q=g:=by simp [Value.ownBlock] at hq;exact hq.symm
  rw [e];exact HX.out.2
 refine ⟨l2[n],l2.take n,rfl,hp2.trans (hQ2.perm.trans hQ1.perm),fun z hz=>?_,⟨_,H4.out.1,HX.out.1,hX3,?_⟩,hT⟩
 ·obtain ⟨k,hk,rfl⟩:=vw_mem hz
  rw [ey]
  exact HH.out.1.min wLt_ord k hk
 ·rw [ht]
  exact hH2.cut (Nat.le_refl _) fun k hk=>by simp [vw,hk]
end Go.Proofs.YtiplgdkpnhamaaaGreatDoor
namespace Go.Proofs.YtiplgdkpnhamaaaGreatDoor.Tv
open Go.RowKit
structure PApi (PR:World→(Nat→Tag)→Tag→Nat→Nat→Nat→DRep→Prop):Prop where
 move:∀ {w w':World} {o o':Nat→Tag} {t:Tag} {b n i:Nat} {d:DRep},PR w o t b n i d→(∀ q,q<w.heap.size→o q=t→w'.heap[q]? = w.heap[q]?∧o' q=t)→PR w' o' t b n i d
 begins:∀ (w:World) (o:Nat→Tag) (t:Tag) (b n i:Nat) (d:DRep),PR w o t b n i d→Room d→Calls Tryz.prog 27 #[ptr b] w fun e w'=>e=.returned (beginAns d)∧∃ o',PR w' o' t b n i (beginD d)∧TouchT (·=t) w o w' o'
 add:∀ (w:World) (o:Nat→Tag) (t:Tag) (b n i:Nat) (d:DRep) (tx:Int) (p:ROp),PR w o t b n i d→Room d→p.kind=1→p.key.size≤maxLen→Calls Tryz.prog 28 #[ptr b,.int .i64 tx,.string p.key,.int .i64 p.amount] w fun e w'=>e=.returned (.int .i64 (doesErr (opnAt d tx) p))∧∃ o',PR w' o' t b n i (doesD d tx p)∧TouchT (·=t) w o w' o'
 write:∀ (w:World) (o:Nat→Tag) (t:Tag) (b n i:Nat) (d:DRep) (tx:Int) (p:ROp),PR w o t b n i d→Room d→p.kind=2→p.key.size≤maxLen→p.value.size≤maxLen→Calls Tryz.prog 30 #[ptr b,.int .i64 tx,.string p.key,.string p.value] w fun e w'=>e=.returned (.int .i64 (doesErr (opnAt d tx) p))∧∃ o',PR w' o' t b n i (doesD d tx p)∧TouchT (·=t) w o w' o'
 insert:∀ (w:World) (o:Nat→Tag) (t:Tag) (b n i:Nat) (d:DRep) (tx:Int) (p:ROp),PR w o t b n i d→Room d→p.kind=3→p.key.size≤maxLen→p.value.size≤maxLen→Calls Tryz.prog 38 #[ptr b,.int .i64 tx,.string p.key,.string p.value] w fun e w'=>e=.returned (.int .i64 (doesErr (opnAt d tx) p))∧∃ o',PR w' o' t b n i (doesD d tx p)∧TouchT (·=t) w o w' o'
 remove:∀ (w:World) (o:Nat→Tag) (t:Tag) (b n i:Nat) (d:DRep) (tx:Int) (p:ROp),PR w o t b n i d→Room d→p.kind=4→p.key.size≤maxLen→p.value.size≤maxLen→Calls Tryz.prog 44 #[ptr b,.int .i64 tx,.string p.key,.string p.value] w fun e w'=>e=.returned (.int .i64 (doesErr (opnAt d tx) p))∧∃ o',PR w' o' t b n i (doesD d tx p)∧TouchT (·=t) w o w' o'
 read:∀ (w:World) (o:Nat→Tag) (t tl:Tag) (b n i:Nat) (d:DRep) (tx:Int) (key:ByteArray),PR w o t b n i d→Room d→tl≠t→key.size≤maxLen→Calls Tryz.prog 33 #[ptr b,.int .i64 tx,.string key] w fun e w'=>∃ lv o',e=.returned (valAgg (readAns (opnAt d tx) key d.hs n).1 lv (readAns (opnAt d tx) key d.hs n).2.2) ∧
  PR w' o' t b n i d∧TouchT (·=t) w o w' o'∧Pc w' o' tl 9 1 lv (readAns (opnAt d tx) key d.hs n).2.1.length (strs (readAns (opnAt d tx) key d.hs n).2.1)
 commit:∀ (w:World) (o:Nat→Tag) (t:Tag) (b n i:Nat) (d:DRep) (tx:Int),PR w o t b n i d→Room d→Calls Tryz.prog 32 #[ptr b,.int .i64 tx] w fun e w'=>e=.returned (commitAns i d tx)∧∃ o',PR w' o' t b n i (commitD i d tx)∧TouchT (·=t) w o w' o'
 abort:∀ (w:World) (o:Nat→Tag) (t:Tag) (b n i:Nat) (d:DRep) (tx:Int),PR w o t b n i d→Room d→Calls Tryz.prog 34 #[ptr b,.int .i64 tx] w fun e w'=>e=.returned (abortAns d tx)∧∃ o',PR w' o' t b n i (abortD d tx)∧TouchT (·=t) w o w' o'
 visible:∀ (w:World) (o:Nat→Tag) (t tl:Tag) (b n i:Nat) (d:DRep),PR w o t b n i d→Room d→tl≠t→Calls Tryz.prog 22 #[ptr b] w fun e w'=>∃ lv o',e=.returned lv∧PR w' o' t b n i d∧TouchT (·=t) w o w' o'∧Pc w' o' tl 3 1 lv d.vis.length (ints d.vis)
abbrev PRx (xs:Nat→DX):World→(Nat→Tag)→Tag→Nat→Nat→Nat→DRep→Prop:=fun w o t b n i d=>PR (xs i) w o t b n i d
theorem papi (xs:Nat→DX):PApi (PRx xs) where
 move h hm:=PR.move h hm
 begins w o t b n i d h _:=by
  obtain ⟨p,h1,h2⟩:=h
  refine (begin_call h2).mono ?_
  rintro e w' ⟨rfl,p',h3,h4⟩
  exact ⟨rfl,PR.out h1 h3 h4⟩
 add w o t b n i d tx q h _ hk hs:=by
  obtain ⟨p,h1,h2⟩:=h
  refine (add_call h2 tx q hk hs).mono ?_
  rintro e w' ⟨rfl,p',h3,h4⟩
  exact ⟨rfl,PR.out h1 h3 h4⟩
 write w o t b n i d tx q h _ hk hs hv:=by
  obtain ⟨p,h1,h2⟩:=h
  refine (write_call h2 tx q hk hs hv).mono ?_
  rintro e w' ⟨rfl,p',h3,h4⟩
  exact ⟨rfl,PR.out h1 h3 h4⟩
 insert w o t b n i d tx q h _ hk hs hv:=by
  obtain ⟨p,h1,h2⟩:=h
  refine (insert_call h2 tx q hk hs hv).mono ?_
  rintro e w' ⟨rfl,p',h3,h4⟩
  exact ⟨rfl,PR.out h1 h3 h4⟩
 remove w o t b n i d tx q h _ hk hs hv:=by
  obtain ⟨p,h1,h2⟩:=h
  refine (remove_call h2 tx q hk hs hv).mono ?_
  rintro e w' ⟨rfl,p',h3,h4⟩
  exact ⟨rfl,PR.out h1 h3 h4⟩
 read w o t tl b n i d tx key h hR _ hs:=by
  have hpr:=h
  obtain ⟨p,h1,h2⟩:=h
  refine (read_call h2 hR.hist tx key hs).mono ?_
  rintro e w' ⟨lv,rfl,h3,h4⟩
  refine ⟨lv,own2 o w.heap.size fun _=>tl,rfl,PR.move hpr fun q hq e=>⟨h4.block q hq,(own2_low hq).trans e⟩,⟨Touch.ofBelow h4,fun q hq=>own2_low hq⟩,Pc.new h3 (fun q _=>rfl)⟩
 commit w o t b n i d tx h hR:=by
  obtain ⟨p,h1,h2⟩:=h
  refine (commit_ok _ w p b n i d tx h2 hR.hist).mono ?_
  rintro e w' ⟨rfl,p',h3,h4⟩
  exact ⟨rfl,PR.outW h1 h3 h4⟩
 abort w o t b n i d tx h hR:=by
  obtain ⟨p,h1,h2⟩:=h
  refine (abort_any h2 hR.hist tx).mono ?_
  rintro e w' ⟨rfl,p',h3,h4⟩
  exact ⟨rfl,PR.out h1 h3 h4⟩
 visible w o t tl b n i d h _ _:=by
  have hpr:=h
  obtain ⟨p,h1,h2⟩:=h
  refine (visible_call h2).mono ?_
  rintro e w' ⟨lv,rfl,h3,h4⟩
  refine ⟨lv,own2 o w.heap.size fun _=>tl,rfl,PR.move hpr fun q hq e=>⟨h4.block q hq,(own2_low hq).trans e⟩,⟨Touch.ofBelow h4,fun q hq=>own2_low hq⟩,Pc.new h3 (fun q _=>rfl)⟩
end Go.Proofs.YtiplgdkpnhamaaaGreatDoor.Tv
namespace Go.Proofs.YtiplgdkpnhamaaaGreatDoor.Tv
open Go.RowKit
theorem RepP.visLen {xq:DX} {w:World} {p:Nat→Own} {b n i:Nat} {d:DRep} {sb:Nat} {st:St} {sl tbs mbs:Nat→Nat} {hv kn:List Value} (h:RepP xq w p b n i d sb st sl tbs mbs hv kn):d.vis.length=n:=by rw [h.ok.vis,visOf_len]
theorem RepP.visCall {xq:DX} {w:World} {p:Nat→Own} {b n i:Nat} {d:DRep} {sb:Nat} {st:St} {sl tbs mbs:Nat→Nat} {hv kn:List Value} (h:RepP xq w p b n i d sb st sl tbs mbs hv kn):Calls Tryz.prog 57 #[bptr sb] w fun e w'=>e=.returned (vecOf d.vis).val∧Below w.heap.size w w':=by
 obtain ⟨vb,cb,eb,ov,cv,ev,kv,hs⟩:=h.sto
 rw [← h.ok.svis]
 exact visible_any w sb st.vis (hs.blk.blk.cell 0) (hs.blk.blk.cell 1) (hs.blk.blk.cell 2) (hs.blk.blk.cell 3) (hs.blk.blk.cell 4)
set_option maxRecDepth 100000 in
set_option maxHeartbeats 4000000 in
theorem head_any {xq:DX} {w:World} {p:Nat→Own} {b n i:Nat} {d:DRep} {sb:Nat} {st:St} {sl tbs mbs:Nat→Nat} {hv kn:List Value} (h:RepP xq w p b n i d sb st sl tbs mbs hv kn) :
  Calls Tryz.prog 72 #[bptr b] w fun e w'=>e=.returned (headVal i (vecOf d.vis))∧Below w.heap.size w w':=by
 generalize hW0:w.alloc (.cells #[.int .i64 0,.int .i64 0,.int .i64 0,.int .i64 0,.int .i64 0,.int .i64 0] 144)=W0
 have hB0:Below w.heap.size w W0:=by rw [← hW0];exact (Below.refl _ _).alloc (Nat.le_refl _) _
 have bx:Blk W0 w.heap.size [.int .i64 0,.int .i64 0,.int .i64 0,.int .i64 0,.int .i64 0,.int .i64 0] 144:=by rw [← hW0];exact heap_alloc_new w _
 have h0:=h.below hB0
 obtain ⟨c0,-,c2⟩:=h0.cellOf
 have y0:=Bel.cell c0
 have y2:=Bel.cell c2
 have hc:∀ f:Fam (Bel W0),Calls Tryz.prog 57 #[bptr sb] f.w fun e w''=>e=.returned (vecOf d.vis).val∧∃ g:Fam (Bel W0),w''=g.w:=fun f=>Bel.call f (h0.below f.ok).visCall
 obtain ⟨v,hv'⟩:∃ v,vecOf d.vis=v:=⟨_,rfl⟩
 rw [hv'] at hc ⊢
 have HC:=hide hc
 have HW0:=hide hW0
 have HH:=hide (⟨hB0,bx⟩:_∧_)
 clear hc hW0 hB0 bx h h0 c0 c2 hv'
 go_enter Tryz.func72,Tryz.ntmps72
 go_upto_region 1 with (fail)
 rw [HW0.out]
 refine region_fam_tail (Bel W0) 10 (by kernel_rfl) (by kernel_rfl) (Below.refl _ _).drew ?_
 simp only [List.take_succ_cons,List.take_zero,List.drop_succ_cons,List.drop_zero]
 repeat (go_big_quiet_step (first | (go_at_call 57;exact HC.out _)))
 refine wpQuiet_nil ?_
 intro _ hw'
 obtain ⟨fq,rfl⟩:=hw'
 obtain ⟨w3,hB3⟩:=fq
 try dsimp only
 clear y0 y2
 have b3:=HH.out.2.below hB3
 have r0:w3.cell? ⟨w.heap.size,0,none⟩=some (.int .i64 0):=b3.cell 0
 have r1:w3.cell? ⟨w.heap.size,1,none⟩=some (.int .i64 0):=b3.cell 1
 have r2:w3.cell? ⟨w.heap.size,2,none⟩=some (.int .i64 0):=b3.cell 2
 have r3:w3.cell? ⟨w.heap.size,3,none⟩=some (.int .i64 0):=b3.cell 3
 have r4:w3.cell? ⟨w.heap.size,4,none⟩=some (.int .i64 0):=b3.cell 4
 have r5:w3.cell? ⟨w.heap.size,5,none⟩=some (.int .i64 0):=b3.cell 5
 have q0:w3.frozen? ⟨w.heap.size,0,none⟩=false:=b3.frozen 0
 have q1:w3.frozen? ⟨w.heap.size,1,none⟩=false:=b3.frozen 1
 have q2:w3.frozen? ⟨w.heap.size,2,none⟩=false:=b3.frozen 2
 have q3:w3.frozen? ⟨w.heap.size,3,none⟩=false:=b3.frozen 3
 have q4:w3.frozen? ⟨w.heap.size,4,none⟩=false:=b3.frozen 4
 have q5:w3.frozen? ⟨w.heap.size,5,none⟩=false:=b3.frozen 5
 have hl:=b3.lt
 have H3:=hide (⟨HH.out.1.trans (hB3.mono HH.out.1.size),b3⟩:_∧_)
 clear b3 hB3
 go_wp2_with fail
 have hb5:=put6_blk i v H3.out.2
 have hT5:=put6_touch w3 w.heap.size i v
 unfold put6 at hb5 hT5
 generalize World.setCell _ _ _=W7 at *
 have s0:W7.cell? ⟨w.heap.size,0,none⟩=some (.int .i64 i):=hb5.cell 0
 have s1:W7.cell? ⟨w.heap.size,1,none⟩=some (.int .i64 v.a):=hb5.cell 1
 have s2:W7.cell? ⟨w.heap.size,2,none⟩=some (.int .i64 v.b):=hb5.cell 2
 have s3:W7.cell? ⟨w.heap.size,3,none⟩=some (.int .i64 v.c):=hb5.cell 3
 have s4:W7.cell? ⟨w.heap.size,4,none⟩=some (.int .i64 v.d):=hb5.cell 4
 have s5:W7.cell? ⟨w.heap.size,5,none⟩=some (.int .i64 v.e):=hb5.cell 5
 exact bodyPost_ret (v:=headVal i v) (by simp [results,Tryz.results72,go_sem,s0,s1,s2,s3,s4,s5]) rfl ⟨rfl,below_tch H3.out.1 hT5 (Nat.le_refl _) H3.out.1.size⟩
theorem vec_list_take {l:List Int} {n:Nat} (hl:l.length=n) (hn:n≤5):(vecOf l).list.take n=l:=by
 subst hl
 match l,hn with
 | [],_=>rfl
 | [a],_=>rfl
 | [a,b],_=>rfl
 | [a,b,c],_=>rfl
 | [a,b,c,d],_=>rfl
 | [a,b,c,d,e],_=>rfl
 | a :: b :: c :: d :: e :: f :: l,h=>simp at h
theorem RepP.vis64 {xq:DX} {w:World} {p:Nat→Own} {b n i:Nat} {d:DRep} {sb:Nat} {st:St} {sl tbs mbs:Nat→Nat} {hv kn:List Value} (h:RepP xq w p b n i d sb st sl tbs mbs hv kn) (hR:d.hs.length≤1100000):∀ k:Nat,0≤(vecOf d.vis).get k∧(vecOf d.vis).get k≤1100000:=fun k=>by
 rw [vecOf_get (by rw [h.visLen];exact h.ok.hist.n5),Int.toNat_natCast,h.ok.vis]
 by_cases c:k<n
 ·rw [visOf_get c];have:=cntR_le d.hs k;omega
 ·rw [visOf_out (by omega)];omega
set_option maxRecDepth 100000 in
set_option maxHeartbeats 4000000 in
theorem summary_call {xq:DX} {w:World} {p:Nat→Own} {b n i:Nat} {d:DRep} (h:RepIn xq w p b n i d) (hR:d.hs.length≤1100000) (ht:Tabs w) :
  Calls Tryz.prog 37 #[bptr b] w fun e w'=>e=.returned (.string ⟨(sumT n i d.vis).toArray⟩)∧Below w.heap.size w w':=by
 obtain ⟨sb,st,sl,tbs,mbs,hv,kn,h⟩:=h
 have hn5:=h.ok.hist.n5
 have hi:=h.ok.hi
 obtain ⟨-,c1,-⟩:=h.cellOf
 have y1:=Bel.cell c1
 have hc:∀ f:Fam (Bel w),Calls Tryz.prog 72 #[bptr b] f.w fun e w''=>e=.returned (headVal i (vecOf d.vis))∧∃ g:Fam (Bel w),w''=g.w:=fun f=>Bel.call f (head_any (h.below f.ok))
 have hs:∀ f:Fam (Bel w),Calls Tryz.prog 71 #[.int .i64 n,headVal i (vecOf d.vis)] f.w fun e w''=>e=.returned (.string ⟨(sumT n i d.vis).toArray⟩)∧∃ g:Fam (Bel w),w''=g.w:=fun f=>by
  have a:=write_summary f.w n i (vecOf d.vis) hn5 (by omega) (fun k hk=>by
   obtain ⟨r,-,rfl⟩:=vec_mem hk
   have:=h.vis64 hR r;omega) (ht.later f.ok)
  rw [vec_list_take h.visLen hn5] at a
  exact Bel.call f a
 obtain ⟨v,hv'⟩:∃ v,vecOf d.vis=v:=⟨_,rfl⟩
 obtain ⟨tt,htt⟩:∃ tt:ByteArray,⟨(sumT n i d.vis).toArray⟩=tt:=⟨_,rfl⟩
 simp only [hv',htt] at hc hs ⊢
 have HC:=hide hc
 have HS:=hide hs
 clear hc hs h hv' htt c1 ht
 go_enter Tryz.func37,Tryz.ntmps37
 go_upto_region 1 with (fail)
 refine region_fam (Bel w) (by kernel_rfl) (by kernel_rfl) (Below.refl _ _).drew ?_
 repeat (go_big_quiet_step (first | (go_at_call 72;exact HC.out _) | (go_at_call 71;exact HS.out _)))
 refine wpQuiet_nil ?_
 intro _ hw'
 obtain ⟨f1,rfl⟩:=hw'
 go_wp2_with fail
 go_ret
 exact ⟨rfl,f1.ok⟩
end Go.Proofs.YtiplgdkpnhamaaaGreatDoor.Tv
