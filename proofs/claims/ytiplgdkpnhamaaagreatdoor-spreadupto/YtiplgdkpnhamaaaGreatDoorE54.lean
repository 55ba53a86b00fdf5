/- The texts QR1, QR2, QR3, joined. -/
import Derived.Test.YtiplgdkpnhamaaaGreatDoorE55
namespace Go.Proofs.YtiplgdkpnhamaaaGreatDoor.Tv
open Go.RowKit
structure Hw (w0:World) (B:Nat→Nat) (ts:List RTx) (H:Nat→List RTx) (O:Nat→Nat→Option RTx) (X:Nat→DX) (w:World) (o:Nat→Tag):Prop where
 nk:Nk 2 w o tg2 B ts (fun i=>dD 2 (H i) (O i)) X
 at0:TouchT nz w0 (fun _=>(0,0,0)) w o
section
variable {w0 w w':World} {B:Nat→Nat} {ts ts':List RTx} {H H':Nat→List RTx} {O O':Nat→Nat→Option RTx} {X X':Nat→DX} {o o':Nat→Tag} {i:Nat}
theorem grp2_nz {n:Nat} {t:Tag} (h:grp n tg2 t):nz t:=by
 obtain ⟨i,-,rfl⟩:=h
 simp [nz,tg2]
theorem Hw.out (h:Hw w0 B ts H O X w o) (h1:Nk 2 w' o' tg2 B ts' (fun i=>dD 2 (H' i) (O' i)) X') (h2:TouchT (grp 2 tg2) w o w' o'):Hw w0 B ts' H' O' X' w' o':=⟨h1,h.at0.trans (h2.mono fun _=>grp2_nz)⟩
theorem Hw.below (h:Hw w0 B ts H O X w o) (hB:Below w.heap.size w w') (t:Tag):Hw w0 B ts H O X w' (own2 o w.heap.size fun _=>t):=
 h.out (h.nk.move fun q hq _=>⟨hB.block q hq,own2_low hq⟩) ⟨Touch.ofBelow hB,fun _ hq=>own2_low hq⟩
set_option maxRecDepth 100000 in
set_option maxHeartbeats 4000000 in
theorem Hw.begins (h:Hw w0 B ts H O X w o) (hi:i<2) {k:Nat} (hf:freeSlot (O i)=k) (hk:k<6) (b cc:Int) (hb1:-9223372036854775808≤b) (hb2:b≤9223372036854775807) (hc1:-9223372036854775808≤cc) (hc2:cc≤9223372036854775807) :
  Calls Tryz.prog 56 #[bptr (B i),.int .i64 b,.int .i64 cc] w fun e w'=>e=.returned (.int .i64 k)∧∃ o',Hw w0 B ts H (put O i (setSlot (O i) k (some ⟨0,0,visOf 2 (H i),[wOp b cc]⟩))) X w' o':=by
 obtain ⟨e1,e2⟩:=d_begin (n:=2) (hs:=H i) hf hk
 have hcb:=h.nk.begins hi
 rw [e1,e2,put_hO] at hcb
 have hO:(put O i (setSlot (O i) k (some ⟨0,0,visOf 2 (H i),[]⟩)) i) k=some ⟨0,0,visOf 2 (H i),[]⟩:=by rw [put_same,setSlot_same]
 have hcw:∀ w1 o1,Nk 2 w1 o1 tg2 B ts (fun j=>dD 2 (H j) (put O i (setSlot (O i) k (some ⟨0,0,visOf 2 (H i),[]⟩)) j)) X→Calls Tryz.prog 101 #[bptr (B i),.int .i64 k,.int .i64 b,.int .i64 cc] w1 fun e w'=>e=.returned (.bool true)∧∃ o',Nk 2 w' o' tg2 B ts (fun j=>dD 2 (H j) (put O i (setSlot (O i) k (some ⟨0,0,visOf 2 (H i),[wOp b cc]⟩)) j)) X∧TouchT (grp 2 tg2) w1 o1 w' o':=fun w1 o1 h1=>by
  refine (writes_any h1 hi k (t:=⟨0,0,visOf 2 (H i),[]⟩) (by rw [opn_at];exact hO) (by simp) b cc hb1 hb2 hc1 hc2).mono ?_
  rintro e w' ⟨rfl,o',a1,a2⟩
  refine ⟨rfl,o',?_,a2⟩
  rw [d_does hO (wOp_ok b cc (by simp)),put_hO] at a1
  have e3:put (put O i (setSlot (O i) k (some ⟨0,0,visOf 2 (H i),[]⟩))) i (setSlot (put O i (setSlot (O i) k (some ⟨0,0,visOf 2 (H i),[]⟩)) i) k (some ⟨0,0,visOf 2 (H i),[] ++ [wOp b cc]⟩))=put O i (setSlot (O i) k (some ⟨0,0,visOf 2 (H i),[wOp b cc]⟩)):=by
   rw [put_two,put_same,set_set];rfl
  rw [e3] at a1
  exact a1
 have hend:∀ w1 o1 w2 o2,TouchT (grp 2 tg2) w o w1 o1→Nk 2 w2 o2 tg2 B ts (fun j=>dD 2 (H j) (put O i (setSlot (O i) k (some ⟨0,0,visOf 2 (H i),[wOp b cc]⟩)) j)) X→TouchT (grp 2 tg2) w1 o1 w2 o2→∃ o',Hw w0 B ts H (put O i (setSlot (O i) k (some ⟨0,0,visOf 2 (H i),[wOp b cc]⟩))) X w2 o':=fun w1 o1 w2 o2 t1 h2 t2=>⟨o2,h.out h2 (t1.trans t2)⟩
 have HB:=hide hcb
 have HW:=hide hcw
 have HE:=hide hend
 have hk':¬ (k:Int)<0:=by omega
 clear hcb hcw hend h hO e1 e2 hf
 go_enter Tryz.func56,Tryz.ntmps56
 go_wp2_with first
  | (go_at_call 27;refine HB.out.mono ?_;rintro e w1 ⟨rfl,o1,hn1,t1⟩;have G1:=hide (⟨hn1,t1⟩:_∧_);clear hn1 t1)
  | (go_at_call 101;refine (HW.out _ _ G1.out.1).mono ?_;rintro e w2 ⟨rfl,o2,hn2,t2⟩;have G2:=hide (⟨hn2,t2⟩:_∧_);clear hn2 t2)
 go_ret
 exact ⟨rfl,HE.out _ _ _ _ G1.out.2 G2.out.1 G2.out.2⟩
theorem Hw.commit (h:Hw w0 B ts H O X w o) (hi:i<2) {k:Nat} {t:RTx} (hO:O i k=some t) (ho:0<t.ops.length) (hf:ts.length+1≤1100000):Calls Tryz.prog 32 #[bptr (B i),.int .i64 k] w fun e w'=>e=.returned (.tuple #[.agg #[.int .i64 i,.int .i64 ((cntR (H i) i:Int)+1)],.int .i64 0])∧∃ o',Hw w0 B (ts ++ [comT 2 i (H i) t]) (put H i (H i ++ [comT 2 i (H i) t])) (put O i (setSlot (O i) k none)) X w' o':=by
 obtain ⟨e1,e2,e3⟩:=d_commit (n:=2) (hs:=H i) (op:=O i) hi hO ho
 refine (h.nk.commit hi k hf).mono ?_
 rw [e1,e2,e3,put_d]
 rintro e w' ⟨rfl,o',h1,h2⟩
 exact ⟨rfl,o',h.out h1 h2⟩
theorem Hw.tells (h:Hw w0 B ts H O X w o) {a b:Nat} (ha:a<2) (hb:b<2):Calls Tryz.prog 39 #[bptr (B a),bptr (B b)] w fun e w'=>e=.returned (.bool true)∧∃ o' hs,Hw w0 B ts (put H b hs) O (tellX 2 (fun i=>dD 2 (H i) (O i)) X a b) w' o'∧(∀ r,r<2→cntR (H a) r≤cntR hs r∧cntR (H b) r≤cntR hs r)∧∀ r,cntR hs r≤cntR ts r:=by
 refine (h.nk.tells ha hb).mono ?_
 rintro e w' ⟨rfl,o',d',h1,h2,h3⟩
 have hA:=(h.nk.net.pr a ha).hist.1
 have hb':beyondL (H a) (X a) (vecOf (visOf 2 (H b)))=beyondL (H a) newX (vecOf (visOf 2 (H b))):=bey_low (by omega) (fun r=>h.nk.net.gone a b r ha hb) fun _ hr=>hA.high hr
 have hp:=(h1.net.pr b hb).hist.2.1
 rw [put_same] at hp
 have hd:=rec_d h3 hp
 generalize d'.hs=hs at hd
 subst hd
 have hsub:=h1.net.sub b hb
 have hH:=(h1.net.pr b hb).hist.1
 simp only [put_same] at hsub hH
 rw [put_d,put_O] at h1
 refine ⟨rfl,o',hs,h.out h1 h2,fun r hr=>⟨?_,h3.cnt r⟩,fun r=>cnt_sub h.nk.net.hist hH hsub r⟩
 have h3':RecD (dD 2 (H b) (O b)) (beyondL (H a) newX (vecOf (visOf 2 (H b)))) (dD 2 hs (O b)):=by rw [← hb'];exact h3
 have:=RecD.full h.nk.net.hist hA (h.nk.net.sub a ha) (d:=dD 2 (H b) (O b)) rfl (x:=newX) (v:=vecOf (visOf 2 (H b))) (fun j hj=>by
  rw [vecOf_get (by rw [visOf_len];omega),Int.toNat_natCast,visOf_get hj]
  exact Int.le_refl _) (fun j _=>Nat.zero_le _) h3' r hr
 have e:(dD 2 hs (O b)).vis.getD r 0=(cntR hs r:Int):=visOf_get hr
 rw [e] at this
 exact Int.ofNat_le.1 this
theorem Hw.prune (h:Hw w0 B ts H O X w o) (hi:i<2):Calls Tryz.prog 47 #[bptr (B i)] w fun e w'=>e=.returned (.int .i64 (goN (H i) (X i) (evTo (X i) i (vecOf (visOf 2 (H i))) 2) 5))∧∃ o',Hw w0 B ts H O (put X i (pruneX 2 (fun i=>dD 2 (H i) (O i)) X i)) w' o':=by
 refine (h.nk.prune hi).mono ?_
 rintro e w' ⟨rfl,o',h1,h2⟩
 exact ⟨rfl,o',h.out h1 h2⟩
theorem Hw.held (h:Hw w0 B ts H O X w o) (hi:i<2):Calls Tryz.prog 46 #[bptr (B i)] w fun e w'=>e=.returned (.int .i64 (heldN (H i) (X i) 5))∧w'=w:=h.nk.held hi
end
theorem tell_told {n:Nat} {D:Nat→DRep} {X:Nat→DX} {a b r:Nat} (hn:n≤5) (hr:r<n):(cntR (D a).hs r:Int)≤((tellX n D X a b b).kn a).get r:=by
 unfold tellX
 rw [put_same]
 show _≤((latUpd _ a (Vec.join _ (vecOf (visOf n (D a).hs)))) a).get r
 unfold latUpd
 rw [if_pos rfl]
 refine Int.le_trans ?_ (join_ge _ _ (by omega)).2
 rw [vecOf_get (by rw [visOf_len];exact hn),Int.toNat_natCast,visOf_get hr]
 exact Int.le_refl _
end Go.Proofs.YtiplgdkpnhamaaaGreatDoor.Tv
namespace Go.Proofs.YtiplgdkpnhamaaaGreatDoor.Tv
open Go.RowKit
def OneH (hs:List RTx):Prop:=∀ r,cntR hs r=if r=0 then 1 else 0
theorem OneH.sum {hs:List RTx} (h:OneH hs):sumC hs 5=1:=by simp [sumC,h 0,h 1,h 2,h 3,h 4]
theorem OneH.of {ts hs:List RTx} (hT:OneH ts) (h1:1≤cntR hs 0) (h2:∀ r,cntR hs r≤cntR ts r):OneH hs:=fun r=>by
 have a:=h2 r
 rw [hT r] at a
 by_cases c:r=0
 ·subst c;rw [if_pos rfl] at a ⊢;omega
 ·rw [if_neg c] at a ⊢;omega
theorem go_none {hs:List RTx} {x:DX} {v:Vec}:∀ m,(∀ r:Nat,r<m→(v.get r).toNat=0)→goN hs x v m=0
 | 0,_=>rfl
 | m+1,h=>by
  have a:=go_none (hs:=hs) (x:=x) m fun r hr=>h r (by omega)
  have b:=h m (by omega)
  unfold goN covK
  rw [a,b]
  omega
theorem noVec_get (r:Nat):noVec.get r=0:=by
 unfold Vec.get noVec Vec.list
 match r with
 | 0 | 1 | 2 | 3 | 4=>rfl
 | r+5=>rfl
set_option maxRecDepth 100000 in
set_option maxHeartbeats 8000000 in
theorem holds_any {w:World} (ht:Tabs w):Calls Tryz.prog 45 #[] w fun e w'=>e=.returned (.bool true)∧Below w.heap.size w w':=by
 have hM0:MadeAt 2 0 w (fun _=>(0,0,0)) tg2 (fun _=>0):=⟨fun i k e=>by simpa [tg2] using e,fun i hi=>absurd hi (Nat.not_lt_zero _),ht,fun q _ i=>by simp [tg2]⟩
 have HM0:=hide hM0
 clear hM0 ht
 go_enter Tryz.func45,Tryz.ntmps45
 go_wp2_with fail
 refine (new_ok w 0 2 (fits_in (by omega) (by omega))).mono ?_
 rintro e w1 ⟨b0,rfl,hB,hnew⟩
 have HM1:=hide (HM0.out.next hB (hnew _ (tg2 0)))
 have HB1:=hide hB
 have HZ1:Hid (∀ q,q<w.heap.size→own2 (fun _=>((0,0,0):Tag)) w.heap.size (fun _=>tg2 0) q=(0,0,0)):=fun q hq=>own2_low hq
 clear HM0 hB hnew
 generalize own2 (fun _=>((0,0,0):Tag)) w.heap.size (fun _=>tg2 0)=o1 at *
 go_wp2_with fail
 refine (new_ok w1 1 2 (fits_in (by omega) (by omega))).mono ?_
 rintro e w2 ⟨b1,rfl,hB,hnew⟩
 have HM2:=hide (HM1.out.next hB (hnew o1 (tg2 1)))
 have hBw:Below w.heap.size w w2:=HB1.out.trans (hB.mono HB1.out.size)
 have HZ2:Hid (∀ q,q<w.heap.size→own2 o1 w1.heap.size (fun _=>tg2 1) q=(0,0,0)):=fun q hq=>by
  rw [own2_low (by have:=HB1.out.size;omega)]
  exact HZ1.out q hq
 clear hB hnew HM1 HB1 HZ1
 generalize own2 o1 w1.heap.size (fun _=>tg2 1)=o2 at *
 obtain ⟨B2,hB2⟩:∃ B2,put (put (fun _=>0) 0 b0) 1 b1=B2:=⟨_,rfl⟩
 rw [hB2] at HM2
 have e0:b0=B2 0:=by rw [← hB2];rfl
 have e1:b1=B2 1:=by rw [← hB2];rfl
 clear hB2
 subst e0 e1
 have hN:=HM2.out.net (by omega)
 rw [newD_d] at hN
 have H2:Hid (Hw w B2 [] (fun _=>[]) (fun _ _=>none) (fun _=>newX) w2 o2):=⟨⟨hN,fun i k r _ _=>by
  show noVec.get r≤_
  rw [noVec_get];omega⟩,⟨Touch.ofBelow hBw,HZ2.out⟩⟩
 clear hN hBw HM2 HZ2
 go_wp2_with fail
 refine (H2.out.begins (i:=0) (by omega) (k:=0) free_new (by omega) 0 5 (by omega) (by omega) (by omega) (by omega)).mono ?_
 rintro e w3 ⟨rfl,o3,h3⟩
 have H3:=hide h3
 clear h3 H2
 go_wp2_with fail
 refine (H3.out.commit (i:=0) (by omega) (k:=0) (t:=⟨0,0,visOf 2 [],[wOp 0 5]⟩) (by rw [put_same,setSlot_same]) (by simp) (by simp)).mono ?_
 rintro e w4 ⟨rfl,o4,h4⟩
 obtain ⟨u,eu⟩:∃ u,comT 2 0 ([]:List RTx) ⟨0,0,visOf 2 [],[wOp 0 5]⟩=u:=⟨_,rfl⟩
 have hone:OneH [u]:=fun r=>by
  have h1:=cntR_snoc [] u r
  have h2:u.rep=((0:Nat):Int):=by rw [← eu];rfl
  rw [List.nil_append] at h1
  rw [h1,h2]
  by_cases c:r=0
  ·subst c;rfl
  ·rw [if_neg c,if_neg (by omega)];rfl
 rw [eu,List.nil_append,O_back rfl] at h4
 have e4:put (fun _=>([]:List RTx)) 0 ((fun _=>([]:List RTx)) 0 ++ [u])=put (fun _=>[]) 0 [u]:=rfl
 have H4:Hid (Hw w B2 [u] (put (fun _=>[]) 0 [u]) (fun _ _=>none) (fun _=>newX) w4 o4):=h4
 have HO:=hide hone
 clear h4 H3 eu hone e4
 have hsq:((cntR ((fun _=>([]:List RTx)) 0) 0:Nat):Int)+1=1:=by simp [cntR]
 go_upto_region 7 with (fail)
 generalize hwd:World.alloc w4 _=w5
 have H5:=hide (H4.out.below (w':=w5) (by rw [← hwd];exact (Below.refl _ _).alloc (Nat.le_refl _) _) (5,0,0))
 clear H4 hwd
 generalize (own2 o4 w4.heap.size fun _=>(5,0,0))=o5 at *
 generalize w4.heap.size=db at *
 have hheld:heldN (put (fun _=>[]) 0 [u] 0) newX 5=1:=by rw [put_same,heldN_all _ (fun _=>rfl),HO.out.sum]
 have hc5:=H5.out.held (i:=0) (by omega)
 rw [hheld] at hc5
 have HC5:=hide hc5
 clear hc5 hheld
 go_wp2_with fail
 refine HC5.out.mono ?_
 rintro e w6 ⟨rfl,hw⟩
 have hw':=hw.symm
 subst hw'
 clear hw HC5
 have hgo:goN (put (fun _=>[]) 0 [u] 0) newX (evTo newX 0 (vecOf (visOf 2 (put (fun _=>[]) 0 [u] 0))) 2) 5=0:=go_none 5 fun r _=>by
  have:=(ev_le newX 0 (vecOf (visOf 2 (put (fun _=>[]) 0 [u] 0))) r 2).2 1 (by omega) (by omega)
  have e:(newX.kn 1).get r=0:=noVec_get r
  omega
 have hc6:=H5.out.prune (i:=0) (by omega)
 rw [hgo] at hc6
 have HC6:=hide hc6
 have HGo:Hid (∀ r,(pruneX 2 (fun i=>dD 2 (put (fun _=>[]) 0 [u] i) ((fun _ _=>none) i)) (fun _=>newX) 0).gone r=0):=fun r=>by
  have:=(ev_le newX 0 (vecOf (visOf 2 (put (fun _=>[]) 0 [u] 0))) r 2).2 1 (by omega) (by omega)
  have e:(newX.kn 1).get r=0:=noVec_get r
  show (if r<5 then max (newX.gone r) ((evTo newX 0 (vecOf (visOf 2 (put (fun _=>[]) 0 [u] 0))) 2).get r).toNat else newX.gone r)=0
  have e2:newX.gone r=0:=rfl
  rw [e2]
  split <;> omega
 clear hc6 hgo
 go_wp2_with fail
 refine HC6.out.mono ?_
 rintro e w7 ⟨rfl,o7,h7⟩
 have HG7:Hid (∀ k r,(put (fun _=>newX) 0 (pruneX 2 (fun i=>dD 2 (put (fun _=>[]) 0 [u] i) ((fun _ _=>none) i)) (fun _=>newX) 0) k).gone r=0):=fun k r=>by
  by_cases c:k=0
  ·subst c;rw [put_same];exact HGo.out r
  ·rw [put_other c];rfl
 have H7:=hide h7
 clear h7 H5 HC6 HGo
 generalize put (fun _=>newX) 0 _=X7 at *
 generalize hH:put (fun _=>([]:List RTx)) 0 [u]=H at *
 have HH0:Hid (OneH (H 0)):=by
  show OneH (H 0)
  rw [← hH,put_same];exact HO.out
 clear hH
 as_aux_lemma=>
  go_wp2_with fail
  refine (H7.out.tells (a:=0) (b:=1) (by omega) (by omega)).mono ?_
  rintro e w8 ⟨rfl,o8,hs,h8,f8,g8⟩
  have HS8:Hid (OneH hs):=HO.out.of (by have h1:=(f8 0 (by omega)).1;have h2:=HH0.out 0;rw [if_pos rfl] at h2;omega) g8
  have HG8:Hid (∀ k r,(tellX 2 (fun i=>dD 2 (H i) ((fun _ _=>none) i)) X7 0 1 k).gone r=0):=fun k r=>by rw [tell_gone];exact HG7.out k r
  have H8:=hide h8
  clear h8 H7 f8 g8 HG7
  generalize tellX 2 _ X7 0 1=X8 at *
  have hheld:heldN (put H 1 hs 1) (X8 1) 5=1:=by rw [put_same,heldN_all _ (HG8.out 1),HS8.out.sum]
  have hc8:=H8.out.held (i:=1) (by omega)
  rw [hheld] at hc8
  have HC8:=hide hc8
  clear hc8 hheld
  go_wp2_with fail
  refine HC8.out.mono ?_
  rintro e w9 ⟨rfl,hw⟩
  have hw':=hw.symm
  subst hw'
  clear hw HC8
  go_wp2_with fail
  refine (H8.out.tells (a:=1) (b:=0) (by omega) (by omega)).mono ?_
  rintro e wa ⟨rfl,oa,hs2,ha,fa,ga⟩
  have HSa:Hid (OneH hs2):=HO.out.of (by have h1:=(fa 0 (by omega)).1;rw [put_same] at h1;have h2:=HS8.out 0;rw [if_pos rfl] at h2;omega) ga
  have HGa:Hid (∀ k r,(tellX 2 (fun i=>dD 2 (put H 1 hs i) ((fun _ _=>none) i)) X8 1 0 k).gone r=0):=fun k r=>by rw [tell_gone];exact HG8.out k r
  have HKn:Hid ((1:Int)≤((tellX 2 (fun i=>dD 2 (put H 1 hs i) ((fun _ _=>none) i)) X8 1 0 0).kn 1).get (0:Nat)):=by
   have h1:=tell_told (n:=2) (D:=fun i=>dD 2 (put H 1 hs i) ((fun _ _=>none) i)) (X:=X8) (a:=1) (b:=0) (r:=0) (by omega) (by omega)
   have h2:=HS8.out 0
   rw [if_pos rfl] at h2
   have h3:cntR ((fun i=>dD 2 (put H 1 hs i) ((fun _ _=>none) i)) 1).hs 0=1:=by
    show cntR (put H 1 hs 1) 0=1
    rw [put_same,h2]
   rw [h3] at h1
   exact h1
  have Ha:=hide ha
  clear ha H8 fa ga HG8 HS8 HH0
  generalize tellX 2 _ X8 1 0=Xa at *
  generalize hH:put (put H 1 hs) 0 hs2=Ha2 at *
  have HH0:Hid (OneH (Ha2 0)):=by
   show OneH (Ha2 0)
   rw [← hH,put_same];exact HSa.out
  clear hH HSa
  have hev:∀ r:Nat,r<5→((evTo (Xa 0) 0 (vecOf (visOf 2 (Ha2 0))) 2).get r).toNat=cntR (Ha2 0) r:=fun r _=>by
   have h1:=ev_cnt (n:=2) (by omega) (Xa 0) 0 (Ha2 0) 2 r
   have h2:=HH0.out r
   by_cases c:r=0
   ·subst c
    rw [if_pos rfl] at h2
    have h3:(1:Int)≤(evTo (Xa 0) 0 (vecOf (visOf 2 (Ha2 0))) 2).get (0:Nat):=ev_ge _ _ _ _ (by
     rw [vecOf_get (by rw [visOf_len];omega),Int.toNat_natCast,visOf_get (by omega),h2];omega) 2 (fun k hk hne=>by
     have e:k=1:=by omega
     subst e
     exact HKn.out)
    omega
   ·rw [if_neg c] at h2;omega
  have hgo:goN (Ha2 0) (Xa 0) (evTo (Xa 0) 0 (vecOf (visOf 2 (Ha2 0))) 2) 5=1:=by rw [go_all 5 hev,heldN_all _ (HGa.out 0),HH0.out.sum]
  have hlf:heldN (Ha2 0) (put Xa 0 (pruneX 2 (fun i=>dD 2 (Ha2 i) ((fun _ _=>none) i)) Xa 0) 0) 5=0:=by
   rw [put_same]
   exact left_none (fun r=>by rw [HGa.out];exact Nat.zero_le _) 5 (by omega) hev
  have hcb:=Ha.out.prune (i:=0) (by omega)
  rw [hgo] at hcb
  have HCb:=hide hcb
  have HLf:=hide hlf
  clear hcb hgo hlf hev
  go_wp2_with fail
  refine HCb.out.mono ?_
  rintro e wb ⟨rfl,ob,hb⟩
  have Hb:=hide hb
  clear hb Ha HCb
  generalize put Xa 0 _=Xb at *
  have hcc:=Hb.out.held (i:=0) (by omega)
  rw [HLf.out] at hcc
  have HCc:=hide hcc
  clear hcc
  go_wp2_with fail
  refine HCc.out.mono ?_
  rintro e wc ⟨rfl,hw⟩
  have hw':=hw.symm
  subst hw'
  clear hw HCc
  go_wp2_with fail
  go_ret
  exact ⟨rfl,at0_below Hb.out.at0⟩
end Go.Proofs.YtiplgdkpnhamaaaGreatDoor.Tv
namespace Go.Proofs.YtiplgdkpnhamaaaGreatDoor.Tv
open Go.RowKit
theorem KIn.later {w w':World} {sv:Value} {ps:List KOp} (h:KIn w sv ps) (hB:Below w.heap.size w w'):KIn w' sv ps:=by
 obtain ⟨ao,cp,e,hc⟩:=h.ex
 refine ⟨⟨ao,cp,e,fun k hk=>?_⟩,h.ok,h.most⟩
 obtain ⟨g,off,e1,hg,hcell⟩:=hc k hk
 refine ⟨g,off,e1,Nat.lt_of_lt_of_le hg hB.size,fun j hj=>?_⟩
 rw [← hcell j hj]
 exact hB.cell hg
section
variable {n c:Nat} {w0 w:World} {gb g cap:Nat} {B:Nat→Nat} {ts:List RTx} {H H0:Nat→List RTx} {O:Nat→Nat→Option RTx} {X X0:Nat→DX} {L:List Let} {o:Nat→Tag} {j:Nat}
theorem RdAt.full (h:RdAt n ts H0 X0 H X n 0):Full n ts H:=fun k r hk hr=>h.one r k (Or.inl hr) hr hk
theorem Full.vis (h:Full n ts H) (hj:j<n) (h0:0<n):visOf n (H j)=visOf n (H 0):=vis_eq.2 fun r hr=>by rw [h j r hj hr,h 0 r h0 hr]
theorem Full.all (h:Full n ts H) (hK:Ks n c w0 gb g cap B ts H O X L w o) (hj:j<n) (h0:0<n):allV n (H j)=allV n (H 0):=
 all_same hK.hist (hK.histAt hj).1 (hK.histAt h0).1 (hK.histAt hj).2 (hK.histAt h0).2 (h.vis hj h0)
theorem sumC_le {hs hs':List RTx}:∀ m,(∀ r,r<m→cntR hs r=cntR hs' r)→sumC hs m=sumC hs' m
 | 0,_=>rfl
 | m+1,h=>by
  unfold sumC
  rw [sumC_le m (fun r hr=>h r (by omega)),h m (by omega)]
theorem sumC_few {hs:List RTx} (h:hs.length≤1100000):∀ m,sumC hs m≤m * 1100000
 | 0=>Nat.zero_le _
 | m+1=>by
  have a:=sumC_few h m
  have b:=cntR_le hs m
  unfold sumC
  omega
theorem RdAt.ev (h:RdAt n ts H0 X0 H X n 0) (hf:Full n ts H0) (hK:Ks n c w0 gb g cap B ts H O X L w o) (hj:j<n):∀ r:Nat,r<5→((evTo (X j) j (vecOf (visOf n (H j))) n).get r).toNat=cntR (H j) r:=fun r _=>by
 have h1:=ev_cnt hK.n5 (X j) j (H j) n r
 by_cases c:r<n
 ·have h2:(cntR (H j) r:Int)≤(evTo (X j) j (vecOf (visOf n (H j))) n).get r:=ev_ge _ _ _ _ (by
   rw [vecOf_get (by rw [visOf_len];exact hK.n5),Int.toNat_natCast,visOf_get c]
   exact Int.le_refl _) n (fun k hk hne=>by
   have:=h.kn hf j k r (Or.inl hj) hj hk hne c
   rw [h.full j r hj c]
   exact this)
  omega
 ·have:=(hK.histAt hj).1.high (r:=r) (by omega)
  omega
end
structure SpAt (n:Nat) (w0:World) (gb g cap:Nat) (B:Nat→Nat) (ts:List RTx) (H:Nat→List RTx) (X:Nat→DX) (L:List Let) (fv lv:Value) (vs:List (Int × List ByteArray)) (xs:List (Int × Value)) (vl:List Int) (w:World) (o:Nat→Tag):Prop where
 ks:Ks n 0 w0 gb g cap B ts H (fun _ _=>none) X L w o
 fv:ValsX w o (8,0,0) (9,0,0) fv vs xs
 lv:Pc w o (5,0,0) 3 1 lv n (ints vl)
section
variable {n:Nat} {w0 w w':World} {gb g cap:Nat} {B:Nat→Nat} {ts ts':List RTx} {H H':Nat→List RTx} {X X':Nat→DX} {L L':List Let} {fv lv:Value} {vs:List (Int × List ByteArray)} {xs:List (Int × Value)} {vl:List Int} {o o':Nat→Tag}
theorem SpAt.next (h:SpAt n w0 gb g cap B ts H X L fv lv vs xs vl w o) (k:Ks n 0 w0 gb g cap B ts' H' (fun _ _=>none) X' L' w' o') (t:TouchT (kg 0) w o w' o'):SpAt n w0 gb g cap B ts' H' X' L' fv lv vs xs vl w' o':=
 ⟨k,h.fv.touch t (free_kg (by simp [free1]) _) (free_kg (by simp [free1]) _),h.lv.touch t (free_kg (by simp [free1]) _)⟩
theorem SpAt.below (h:SpAt n w0 gb g cap B ts H X L fv lv vs xs vl w o) (hB:Below w.heap.size w w'):SpAt n w0 gb g cap B ts H X L fv lv vs xs vl w' (own2 o w.heap.size fun _=>(14,0,0)):=by
 obtain ⟨a,b⟩:=h.ks.below hB (14,0,0)
 exact h.next a b
end
set_option maxRecDepth 100000 in
set_option maxHeartbeats 16000000 in
theorem spread_any {w:World} (ht:Tabs w) (m:Int) (hm:-9223372036854775808≤m) (hm':m≤9223372036854775807) (sv:Value) (ps:List KOp) (hps:KIn w sv ps) :
  Calls Tryz.prog 12 #[.int .i64 m,sv] w fun e w'=>e=.returned (.bool true)∧Below w.heap.size w w':=by
 have HH:=hide (holds_any ht)
 have HPl:Hid (∀ W,Below w.heap.size w W→Calls Tryz.prog 42 #[.int .i64 m,sv] W (PlayEnd (2+pickOf m 4) ps.length W)):=fun W hB=>played_any (ht.later hB) m hm hm' sv ps (hps.later hB)
 have hlt:=pickOf_lt m 4 (by omega)
 generalize hn:2+pickOf m 4=n at HPl
 have hn2:2≤n:=by omega
 have hn5:n≤5:=by omega
 obtain ⟨ao,cp,esv,-⟩:=hps.ex
 subst esv
 clear ht hm hm' hlt hn hps
 go_enter Tryz.func12,Tryz.ntmps12
 go_wp2_with fail
 refine HH.out.mono ?_
 rintro e w1 ⟨rfl,hB1⟩
 have HB1:=hide hB1
 clear HH hB1
 go_wp2_with fail
 refine (HPl.out w1 HB1.out).mono ?_
 rintro e w2 ⟨gb,g,cap,B,rfl,hE⟩
 obtain ⟨s,X,o,hK,-,-⟩:=hE.ex
 have HK:=hide hK
 clear hK hE HPl
 generalize s.ts=ts at HK
 generalize s.H=H at HK
 generalize s.L=L at HK
 go_wp2_with fail
 refine (round_any HK.out).mono ?_
 rintro e w3 ⟨rfl,o3,H1,X1,hK,-,hR⟩
 have HK1:=hide (⟨hK,hR.full⟩:_∧_)
 clear HK hK hR
 go_wp2_with fail
 refine (round_any HK1.out.1).mono ?_
 rintro e w4 ⟨rfl,o4,H2,X2,hK,-,hR⟩
 have HK2:=hide (⟨hK,hR.full⟩:_∧_)
 clear HK1 hK hR
 obtain ⟨c0,hck,hgl⟩:=HK2.out.1.cells
 have ca:=hck 0 (by omega)
 clear hck
 go_wp2_with fail
 refine (HK2.out.1.all (i:=0) (by omega) (by show freeSlot (fun _=>none)<6;rw [free_new];omega) (8,0,0) (9,0,0) (by simp [free1]) (by simp [free1]) (by simp)).mono ?_
 rintro e w5 ⟨fv,o5,xs,rfl,K5,T5,V5⟩
 obtain ⟨g5,cp5,el,-⟩:=V5.cells (allV_len _ _)
 subst el
 have HK5:=hide (⟨K5,V5,HK2.out.2⟩:_∧_∧_)
 clear K5 T5 V5 HK2 c0 ca hgl
 obtain ⟨c0,hck,hgl⟩:=HK5.out.1.cells
 have ca:=hck 0 (by omega)
 clear hck
 go_wp2_with fail
 refine (HK5.out.1.visible (i:=0) (by omega) (5,0,0) (by simp [free1])).mono ?_
 rintro e w6 ⟨lv,o6,rfl,K6,T6,P6⟩
 obtain ⟨lg,lcap,el,-,-,hlg,hlc,-⟩:=Row.pos P6.row (by omega)
 subst el
 have HLc:Hid (∀ q,q<n→w6.cell? ⟨lg,q,none⟩=some (.int .i64 (cntR (H2 0) q))):=fun q hq=>by
  rw [hlc q (by omega),ints_get _ _ (by rw [visOf_len];exact hq)]
  have:=visOf_get (hs:=H2 0) hq
  rw [List.getD_eq_getElem?_getD,List.getElem?_eq_getElem (by rw [visOf_len];exact hq)] at this
  exact congrArg (fun z=>some (Value.int .i64 z)) this
 have HSp:Hid (SpAt n w1 gb g cap B ts H2 X2 L _ _ (allV n (H2 0)) xs (visOf n (H2 0)) w6 o6):=⟨K6,HK5.out.2.1.touch T6 (free_kg (by simp [free1]) _) (free_kg (by simp [free1]) _),P6⟩
 have HFu:=hide HK5.out.2.2
 have HLe:Hid ((H2 0).length≤1100000):=K6.len (by omega)
 clear K6 T6 P6 HK5 c0 ca hgl hlc
 as_aux_lemma=>
  go_wp2_with fail
  go_loopw [12,13] (fun sm jv wz=>∃ j:Nat,j≤n∧jv=.int .i64 j∧sm=.int .i64 (sumC (H2 0) j)∧wz=w6) (fun _ jv _=>n - (intOf jv).toNat)
  case atStart=>exact ⟨0,Nat.zero_le _,rfl,rfl,rfl⟩
  case round=>
   obtain ⟨j,hj,rfl,rfl,rfl⟩:=hrel
   by_cases hjn:j<n
   ·as_aux_lemma=>
     have hcq:=HLc.out j hjn
     have hS:Hid (sumC (H2 0) (j+1)=sumC (H2 0) j+cntR (H2 0) j):=rfl
     have hb1:=sumC_few HLe.out j
     have hb2:=cntR_le (H2 0) j
     have hb3:=HLe.out
     generalize sumC (H2 0) j=a at *
     generalize cntR (H2 0) j=b at *
     clear HSp HFu HLc HB1
     go_wp2_with fail
     exact ⟨⟨j+1,by omega,by go_num,by rw [hS.out];go_num,trivial⟩,by simp [intOf];omega⟩
   ·have hje:j=n:=by omega
    subst hje
    as_aux_lemma=>
     clear HLc
     obtain ⟨sm,esm⟩:∃ sm,sumC (H2 0) j=sm:=⟨_,rfl⟩
     have HSm:=hide esm
     rw [esm]
     clear esm
     have h0n:0<j:=by omega
     go_wp2_with fail
     go_loopw [10,14,15,16,17,18,19] (fun okv iv _ _ _ _ _ wz=>∃ (i:Nat) (oz:Nat→Tag),i≤j∧okv=.bool true∧iv=.int .i64 i∧Hid (SpAt j w1 gb g cap B ts H2 X2 L (.slice (some ⟨g5,0,none⟩) 6 cp5) (.slice (some ⟨lg,0,none⟩) j lcap) (allV j (H2 0)) xs (visOf j (H2 0)) wz oz)) (fun _ iv _ _ _ _ _ _=>j - (intOf iv).toNat)
     case atStart=>exact ⟨0,o6,Nat.zero_le _,rfl,rfl,HSp.out⟩
     case round=>
      clear HSp
      obtain ⟨i,oz,hij,rfl,rfl,HS⟩:=hrel
      obtain ⟨c0,hck,hgl⟩:=HS.out.ks.cells
      by_cases hin:i<j
      ·as_aux_lemma=>
        have ca:=hck i hin
        clear hck
        go_wp2_with fail
        refine (HS.out.ks.all hin (by show freeSlot (fun _=>none)<6;rw [free_new];omega) (10,0,0) (11,0,0) (by simp [free1]) (by simp [free1]) (by simp)).mono ?_
        rintro e w8 ⟨lv,o8,ys,rfl,K8,T8,V8⟩
        obtain ⟨g8,cp8,el,-⟩:=V8.cells (allV_len _ _)
        subst el
        have HS8:=hide (⟨HS.out.next K8 T8,V8⟩:_∧_)
        clear K8 T8 V8 HS c0 ca hgl
        obtain ⟨c0,hck,hgl⟩:=HS8.out.1.ks.cells
        have ca:=hck i hin
        clear hck
        go_wp2_with fail
        refine (HS8.out.1.ks.visible hin (6,0,0) (by simp [free1])).mono ?_
        rintro e w9 ⟨mv,o9,rfl,K9,T9,P9⟩
        obtain ⟨mo,mcap,em,-⟩:=P9.row.shape
        subst em
        have HS9:=hide (⟨HS8.out.1.next K9 T9,HS8.out.2.touch T9 (free_kg (by simp [free1]) _) (free_kg (by simp [free1]) _),P9⟩:_∧_∧_)
        clear K9 T9 P9 HS8 c0 ca hgl
        go_wp2_with fail
        refine (alike_any w9 HS9.out.2.1 HS9.out.1.fv (allV_len _ _) (allV_len _ _) (all_len (HS9.out.1.ks.histAt hin).1 (HS9.out.1.ks.len hin)) (all_len (HS9.out.1.ks.histAt h0n).1 (HS9.out.1.ks.len h0n))).mono ?_
        rintro e wa ⟨rfl,hBa⟩
        rw [decide_eq_true (HFu.out.all HS9.out.1.ks hin h0n)]
        have HSa:=hide (⟨HS9.out.1.below hBa,HS9.out.2.2.move2 (w':=wa) (o':=own2 o9 w9.heap.size fun _=>(14,0,0)) (fun q hq e=>⟨hBa.block q hq,(own2_low hq).trans e⟩)⟩:_∧_)
        clear HS9 hBa
        generalize own2 o9 _ (fun _=>(14,0,0))=oa at *
        go_wp2_with fail
        refine (sameInts_any wa _ _ (visOf j (H2 0)) (visOf j (H2 i)) (by rw [visOf_len];exact HSa.out.1.lv.row) (by rw [visOf_len];exact HSa.out.2.row) (by rw [visOf_len,visOf_len]) (by rw [visOf_len];omega)).mono ?_
        rintro e wb ⟨rfl,hBb⟩
        rw [decide_eq_true (HFu.out.vis hin h0n).symm]
        have HSb:=hide (HSa.out.1.below hBb)
        clear HSa hBb
        go_wp2_with fail
        exact ⟨⟨i+1,_,by omega,rfl,by go_num,HSb.out⟩,by simp [intOf];omega⟩
      ·have hie:i=j:=by omega
       subst hie
       as_aux_lemma=>
        clear hck
        go_wp2_with fail
        refine (round_any HS.out.ks).mono ?_
        rintro e w8 ⟨rfl,o8,H3,X3,hK3,hT3,hR3⟩
        have HS3:=hide (HS.out.next hK3 hT3)
        have HR3:=hide hR3
        have HH0:=hide (HS.out.ks.histAt h0n)
        clear HS hK3 hT3 hR3 c0 hgl
        go_wp2_with fail
        go_loopw [21,22,23,24,25,26,27] (fun qv _ _ _ _ _ _ wz=>∃ (q:Nat) (oz:Nat→Tag) (Xz:Nat→DX),q≤i∧qv=.int .i64 q∧Hid (SpAt i w1 gb g cap B ts H3 Xz L (.slice (some ⟨g5,0,none⟩) 6 cp5) (.slice (some ⟨lg,0,none⟩) i lcap) (allV i (H2 0)) xs (visOf i (H2 0)) wz oz∧∀ k,q≤k→Xz k=X3 k)) (fun qv _ _ _ _ _ _ _=>i - (intOf qv).toNat)
        case atStart=>exact ⟨0,o8,X3,Nat.zero_le _,rfl,HS3.out,fun _ _=>rfl⟩
        case round=>
         obtain ⟨q,oz,Xz,hqi,rfl,HQ⟩:=hrel
         obtain ⟨c0,hck,hgl⟩:=HQ.out.1.ks.cells
         by_cases hqn:q<i
         ·as_aux_lemma=>
           have hXq:=HQ.out.2 q (Nat.le_refl _)
           have hev:=HR3.out.ev HFu.out HS3.out.ks hqn
           have hfu:=HR3.out.full
           have hgle:∀ r,(X3 q).gone r≤cntR (H3 q) r:=HS3.out.ks.gone hqn hqn
           have hgo:goN (H3 q) (Xz q) (evTo (Xz q) q (vecOf (visOf i (H3 q))) i) 5=heldN (H3 q) (X3 q) 5:=by rw [hXq];exact go_all 5 hev
           have hlf:heldN (H3 q) (put Xz q (pruneX i (fun k=>dD i (H3 k) ((fun _ _=>none) k)) Xz q) q) 5=0:=by
            rw [put_same]
            unfold pruneX
            rw [hXq]
            exact left_none hgle 5 (by omega) hev
           have hsum:heldN (H3 q) (X3 q) 5≤sm:=by
            refine Nat.le_trans (heldN_le _ _ 5) ?_
            rw [sumC_high (HS3.out.ks.histAt hqn).1 5 (by omega),← HSm.out]
            refine Nat.le_of_eq (sumC_le i fun r hr=>?_)
            rw [hfu q r hqn hr,HFu.out 0 r h0n hr]
           have hh1:=HQ.out.1.ks.nk.held hqn
           have e1:heldN ((fun k=>dD i (H3 k) ((fun _ _=>none) k)) q).hs (Xz q) 5=heldN (H3 q) (X3 q) 5:=by rw [hXq];rfl
           have hh1':Calls Tryz.prog 46 #[bptr (B q)] wr fun e w'=>e=.returned (.int .i64 (heldN (H3 q) (X3 q) 5))∧w'=wr:=by rw [← e1];exact hh1
           have hpr:=HQ.out.1.ks.prune hqn
           rw [hgo] at hpr
           have HLf:=hide hlf
           have HAl:Hid (allV i (H3 q)=allV i (H2 0)):=by
            show allV i (H3 q)=allV i (H2 0)
            exact all_same HS3.out.ks.hist (HS3.out.ks.histAt hqn).1 HH0.out.1 (HS3.out.ks.histAt hqn).2 HH0.out.2 (vis_eq.2 fun r hr=>by rw [hfu q r hqn hr,HFu.out 0 r h0n hr])
           generalize heldN (H3 q) (X3 q) 5=hd at *
           have HPr:=hide hpr
           have HH1:=hide hh1'
           have hsum':¬ (sm:Int)<hd:=by omega
           have ca:=hck q hqn
           clear hh1 hh1' hpr hgo hlf hev hgle e1 hsum hXq hfu hck
           go_wp2_with fail
           refine HH1.out.mono ?_
           rintro e w9 ⟨rfl,hw⟩
           have hw':=hw.symm
           subst hw'
           clear hw HH1
           go_wp2_with fail
           refine HPr.out.mono ?_
           rintro e wa ⟨rfl,oa,Ka,Ta⟩
           have HSa:=hide (HQ.out.1.next Ka Ta)
           have hh2:=Ka.nk.held hqn
           have hh2':Calls Tryz.prog 46 #[bptr (B q)] wa fun e w'=>e=.returned (.int .i64 0)∧w'=wa:=by
            have e:heldN ((fun k=>dD i (H3 k) ((fun _ _=>none) k)) q).hs (put Xz q (pruneX i (fun k=>dD i (H3 k) ((fun _ _=>none) k)) Xz q) q) 5=0:=HLf.out
            rw [e] at hh2
            exact hh2
           have HH2:=hide hh2'
           have HX:Hid (∀ k,q+1≤k→put Xz q (pruneX i (fun k=>dD i (H3 k) ((fun _ _=>none) k)) Xz q) k=X3 k):=fun k hk=>by
            rw [put_other (by omega)]
            exact HQ.out.2 k (by omega)
           clear Ka Ta hh2 hh2' HPr HQ HLf c0 ca hgl
           generalize put Xz q _=Xa at *
           obtain ⟨c0,hck,hgl⟩:=HSa.out.ks.cells
           have ca:=hck q hqn
           clear hck
           go_wp2_with fail
           refine HH2.out.mono ?_
           rintro e wb ⟨rfl,hw⟩
           have hw':=hw.symm
           subst hw'
           clear hw HH2
           go_wp2_with fail
           refine (HSa.out.ks.all hqn (by show freeSlot (fun _=>none)<6;rw [free_new];omega) (10,0,0) (11,0,0) (by simp [free1]) (by simp [free1]) (by simp)).mono ?_
           rintro e wc ⟨lv,oc,ys,rfl,Kc,Tc,Vc⟩
           obtain ⟨gc,cpc,el,-⟩:=Vc.cells (allV_len _ _)
           subst el
           have HSc:=hide (⟨HSa.out.next Kc Tc,Vc⟩:_∧_)
           clear Kc Tc Vc HSa c0 ca hgl
           go_wp2_with fail
           refine (alike_any wc HSc.out.2 HSc.out.1.fv (allV_len _ _) (allV_len _ _) (all_len (HSc.out.1.ks.histAt hqn).1 (HSc.out.1.ks.len hqn)) (by rw [← HAl.out];exact all_len (HSc.out.1.ks.histAt hqn).1 (HSc.out.1.ks.len hqn))).mono ?_
           rintro e wd ⟨rfl,hBd⟩
           rw [decide_eq_true HAl.out]
           have HSd:=hide (HSc.out.1.below hBd)
           clear HSc hBd
           go_wp2_with fail
           exact ⟨⟨q+1,_,_,by omega,by go_num,HSd.out,HX.out⟩,by simp [intOf];omega⟩
         ·as_aux_lemma=>
           have hqn':¬ (q:Int)<i:=by omega
           clear hck
           go_wp2_with fail
           go_ret
           exact ⟨rfl,HB1.out.trans ((at0_below HQ.out.1.ks.at0).mono HB1.out.size)⟩
end Go.Proofs.YtiplgdkpnhamaaaGreatDoor.Tv
