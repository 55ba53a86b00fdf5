/- The texts QU3, joined. -/
import Derived.Test.YtiplgdkpnhamaaaGreatDoorE53
namespace Go.Proofs.YtiplgdkpnhamaaaGreatDoor.Tv
open Go.RowKit
structure WIn (w:World) (sv:Value) (os:List Int):Prop where
 ex:∃ ao cp,sv=.slice ao os.length cp∧∀ k (h:k<os.length),∃ g off,ao=some ⟨g,off,none⟩∧g<w.heap.size∧w.cell? ⟨g,off+k,none⟩=some (.int .i64 os[k])
 fits:∀ k (h:k<os.length),-9223372036854775808≤os[k]∧os[k]≤9223372036854775807
 most:os.length≤maxLen
structure Tq (n:Nat) (w0:World) (gb g cap:Nat) (B:Nat→Nat) (gb' g' cap':Nat) (B':Nat→Nat) (s s':PS) (X X':Nat→DX) (w:World) (o:Nat→Tag):Prop where
 a:Ks n 0 w0 gb g cap B s.ts s.H (fun _ _=>none) X s.L w o
 b:Ks n 1 w0 gb' g' cap' B' s'.ts s'.H (fun _ _=>none) X' s'.L w o
section
variable {n:Nat} {w0 w w':World} {gb g cap:Nat} {B:Nat→Nat} {gb' g' cap':Nat} {B':Nat→Nat} {s s' t:PS} {X X' Y:Nat→DX} {o o':Nat→Tag}
theorem Tq.below (h:Tq n w0 gb g cap B gb' g' cap' B' s s' X X' w o) (hB:Below w.heap.size w w') (u:Tag):Tq n w0 gb g cap B gb' g' cap' B' s s' X X' w' (own2 o w.heap.size fun _=>u):=
 ⟨(h.a.below hB u).1,(h.b.below hB u).1⟩
theorem Tq.left (h:Tq n w0 gb g cap B gb' g' cap' B' s s' X X' w o) (hr:6≤w0.heap.size) (k:Ks n 0 w0 gb g cap B t.ts t.H (fun _ _=>none) Y t.L w' o') (ht:TouchT (kg 0) w o w' o'):Tq n w0 gb g cap B gb' g' cap' B' t s' Y X' w' o':=⟨k,h.b.beside hr (by omega) ht⟩
theorem Tq.right (h:Tq n w0 gb g cap B gb' g' cap' B' s s' X X' w o) (hr:6≤w0.heap.size) (k:Ks n 1 w0 gb' g' cap' B' t.ts t.H (fun _ _=>none) Y t.L w' o') (ht:TouchT (kg 1) w o w' o'):Tq n w0 gb g cap B gb' g' cap' B' s t X Y w' o':=⟨h.a.beside hr (by omega) ht,k⟩
end
structure TwAt (n:Nat) (w0:World) (gb g cap:Nat) (B:Nat→Nat) (gb' g' cap':Nat) (B':Nat→Nat) (k:Nat) (w:World):Prop where
 ex:∃ (s s':PS) (X X':Nat→DX) (o:Nat→Tag),Tq n w0 gb g cap B gb' g' cap' B' s s' X X' w o∧Rel n s s'∧(∀ q r,(X q).gone r=0)∧s.ts.length≤2 * k∧s.L.length≤k
set_option maxRecDepth 100000 in
set_option maxHeartbeats 16000000 in
theorem unpruned_any {w:World} (ht:Tabs w) (m:Int) (hm:-9223372036854775808≤m) (hm':m≤9223372036854775807) (sv:Value) (ps:List KOp) (hps:KIn w sv ps) (wv:Value) (ws:List Int) (hws:WIn w wv ws) :
  Calls Tryz.prog 13 #[.int .i64 m,sv,wv] w fun e w'=>e=.returned (.bool true)∧Below w.heap.size w w':=by
 have HRm:Hid (6≤w.heap.size):=ht.room
 have HMd:=hide (made_any ht m hm hm')
 have HMm:Hid (∀ W,Tabs W→Calls Tryz.prog 20 #[.int .i64 m] W (MadeEnd (2+pickOf m 4) W)):=fun W h=>made_any h m hm hm'
 have hlt:=pickOf_lt m 4 (by omega)
 generalize hn:2+pickOf m 4=n at HMd HMm
 have hn2:2≤n:=by omega
 have hn5:n≤5:=by omega
 obtain ⟨ao,cp,esv,hcell⟩:=hps.ex
 obtain ⟨bo,bp,ewv,hwcell⟩:=hws.ex
 have HPS:=hide (⟨hcell,hps.ok,hps.most⟩:_∧_∧_)
 have HWS:=hide (⟨hwcell,hws.fits,hws.most⟩:_∧_∧_)
 subst esv ewv
 have hpm:ps.length≤262144:=hps.most
 have hwm:ws.length≤9223372036854775807:=by have:=hws.most;unfold maxLen at this;omega
 clear ht hm hm' hlt hn hps hcell hws hwcell
 go_enter Tryz.func13,Tryz.ntmps13
 go_wp2_with fail
 refine HMd.out.mono ?_
 rintro e w1 ⟨gb,rv,B,o,rfl,-,h2,h3,h4⟩
 obtain ⟨g,cap,-,hK⟩:=Ks.start h4 h2 h3 (by omega)
 have HK:=hide (⟨hK,h3,h4.tabs⟩:_∧_∧_)
 clear hK h2 h3 h4 HMd
 go_wp2_with fail
 refine (HMm.out w1 HK.out.2.2).mono ?_
 rintro e w2 ⟨gb',rv',B',o2,rfl,-,h2,h3,h4⟩
 obtain ⟨g',cap',-,hK2⟩:=Ks.second HRm.out HK.out.2.1 h4 h2 h3 (by omega)
 have hA:=HK.out.1.grow (o':=sh1 o w1.heap.size o2) (at0_below h3) (fun q hq=>by unfold sh1;rw [if_pos hq])
 have HT:Hid (TwAt n w gb g cap B gb' g' cap' B' 0 w2):=⟨⟨⟨[],fun _=>[],[]⟩,⟨[],fun _=>[],[]⟩,_,_,_,⟨hA,hK2⟩,Rel.first n,fun _ _=>rfl,Nat.zero_le _,Nat.zero_le _⟩⟩
 clear hA hK2 h2 h3 h4 HK HMm
 go_wp2_with fail
 go_loopw [9,10,11,12,13,14,15,16,17,18,19,20,21,22] (fun iv _ _ _ _ _ _ _ _ _ _ _ _ _ wr=>∃ k:Nat,k≤ps.length∧iv=.int .i64 k∧Hid (TwAt n w gb g cap B gb' g' cap' B' k wr)) (fun iv _ _ _ _ _ _ _ _ _ _ _ _ _ _=>ps.length - (intOf iv).toNat)
 case atStart=>exact ⟨0,Nat.zero_le _,rfl,HT.out⟩
 case round=>
  clear HT
  obtain ⟨k,hk,rfl,HE⟩:=hrel
  obtain ⟨s,s',X,X',o,hT,hR,hg,hts,hL⟩:=HE.out.ex
  have HBr:Hid (Below w.heap.size w wr):=at0_below hT.a.at0
  by_cases hlt:k<ps.length
  ·as_aux_lemma=>
    obtain ⟨sg,off,rfl,hsb,hcell⟩:=HPS.out.1 k hlt
    have x0:=hcell 0 (by omega)
    have x1:=hcell 1 (by omega)
    have x2:=hcell 2 (by omega)
    have x3:=hcell 3 (by omega)
    simp only [KOp.cells,List.getElem?_cons_zero,List.getElem?_cons_succ,Nat.add_zero] at x0 x1 x2 x3
    have y0:=cell_later HBr.out x0
    have y1:=cell_later HBr.out x1
    have y2:=cell_later HBr.out x2
    have y3:=cell_later HBr.out x3
    have hsl:sg<wr.heap.size:=by have:=HBr.out.size;omega
    have HO:=hide (HPS.out.2.1 k hlt)
    obtain ⟨p,hp⟩:∃ p,ps[k]=p:=⟨_,rfl⟩
    rw [hp] at y0 y1 y2 y3 HO
    have HKs:=hide (⟨hT,hR,hg,hts,hL⟩:_∧_∧_∧_∧_)
    clear x0 x1 x2 x3 hcell hsb hp HE hT hR hg hts hL HBr HPS
    go_upto_region 9 with (fail)
    generalize hwb:World.alloc wr _=W1
    have hB1:Below wr.heap.size wr W1:=by rw [← hwb];exact (Below.refl _ _).alloc (Nat.le_refl _) _
    have HT1:=hide (HKs.out.1.below hB1 (13,0,0))
    have HBx:Hid (Bl W1 (own2 o wr.heap.size fun _=>(13,0,0)) (13,0,0) wr.heap.size p.cells 39):=⟨by rw [← hwb];exact heap_alloc_new wr _,own2_high (Nat.le_refl _)⟩
    have HP:=hide HKs.out.2
    clear hwb hB1 y0 y1 y2 y3 hsl HKs
    generalize (own2 o wr.heap.size fun _=>(13,0,0))=o1 at *
    generalize wr.heap.size=bb at *
    have z0:W1.cell? ⟨bb,0,none⟩=some (.int .i64 p.kind):=HBx.out.blk.cell 0
    have z1:W1.cell? ⟨bb,1,none⟩=some (.int .i64 p.a):=HBx.out.blk.cell 1
    have z2:W1.cell? ⟨bb,2,none⟩=some (.int .i64 p.b):=HBx.out.blk.cell 2
    have z3:W1.cell? ⟨bb,3,none⟩=some (.int .i64 p.c):=HBx.out.blk.cell 3
    have zl:=HBx.out.blk.lt
    by_cases h6:p.kind=6
    ·as_aux_lemma=>
      go_wp2_with fail
      exact ⟨⟨k+1,by omega,by go_num,⟨s,s',X,X',_,HT1.out,HP.out.1,HP.out.2.1,by have:=HP.out.2.2.1;omega,by have:=HP.out.2.2.2;omega⟩⟩,by simp [intOf];omega⟩
    ·as_aux_lemma=>
      go_wp2_with fail
      refine (step_any HT1.out.a (by omega) HRm.out (fun i _=>⟨0,1,room_none⟩) p HO.out (by have:=HP.out.2.2.1;omega) (by have:=HP.out.2.2.2;omega)).mono ?_
      rintro e w2 ⟨rfl,o2,s2,X2,hst,hK2,hT2,hg2⟩
      have HT2:=hide (HT1.out.left HRm.out (t:=s2) hK2 hT2)
      have HB2:=hide (HBx.out.touch hT2 (fun e=>by obtain ⟨e,-⟩:=e;simp at e))
      have HS2:=hide (⟨hst,hg2 h6⟩:_∧_)
      clear HBx hK2 hT2 hst hg2 z0 z1 z2 z3 zl
      have z0:w2.cell? ⟨bb,0,none⟩=some (.int .i64 p.kind):=HB2.out.blk.cell 0
      have z1:w2.cell? ⟨bb,1,none⟩=some (.int .i64 p.a):=HB2.out.blk.cell 1
      have z2:w2.cell? ⟨bb,2,none⟩=some (.int .i64 p.b):=HB2.out.blk.cell 2
      have z3:w2.cell? ⟨bb,3,none⟩=some (.int .i64 p.c):=HB2.out.blk.cell 3
      have zl:=HB2.out.blk.lt
      go_wp2_with fail
      refine (step_any HT2.out.b (by omega) HRm.out (fun i _=>⟨0,1,room_none⟩) p HO.out (by have:=HP.out.2.2.1;rw [← HP.out.1.ts];omega) (by have:=HP.out.2.2.2;rw [← HP.out.1.len];omega)).mono ?_
      rintro e w3 ⟨rfl,o3,s3,X3,hst,hK3,hT3,-⟩
      have HT3:=hide (HT2.out.right HRm.out (t:=s3) hK3 hT3)
      have hfew:=step_few HS2.out.1
      have HN:Hid (Rel n s2 s3∧(∀ q r,(X2 q).gone r=0)∧s2.ts.length≤2 * (k+1)∧s2.L.length≤k+1):=⟨HP.out.1.step (by omega) HT1.out.a.good HT1.out.b.good HS2.out.1 hst HT3.out.a.good HT3.out.b.good,fun q r=>by rw [HS2.out.2 q];exact HP.out.2.1 q r,by have:=HP.out.2.2.1;omega,by have:=HP.out.2.2.2;omega⟩
      clear HT1 HT2 HB2 HS2 HP hst hK3 hT3 hfew z0 z1 z2 z3 zl HO
      as_aux_lemma=>
       go_upto_if 62 with (fail)
       go_cut [13] (fun tv wz=>∃ z:Int,tv=.int .i64 z∧-9223372036854775808≤z∧z≤9223372036854775807∧wz=w3)
       case first=>
        have HB3:Hid (Below w.heap.size w w3):=at0_below HT3.out.a.at0
        by_cases hkw:k<ws.length
        ·as_aux_lemma=>
          have hkw':(k:Int)<ws.length:=by omega
          obtain ⟨vg,vo,e,hvl,hvc⟩:=HWS.out.1 k hkw
          subst e
          have v0:=cell_later HB3.out hvc
          have hvl':vg<w3.heap.size:=by have:=HB3.out.size;omega
          obtain ⟨f1,f2⟩:=HWS.out.2.1 k hkw
          generalize ws[k]=z at *
          clear HT3 HN HB3 HWS hvc hvl HRm
          go_wp2_with fail
          all_goals go_meet
          all_goals exact ⟨z,rfl,f1,f2,rfl⟩
        ·as_aux_lemma=>
          have hkw':¬ (k:Int)<ws.length:=by omega
          clear HT3 HN HB3 HWS HRm
          go_wp2_with fail
          all_goals go_meet
          all_goals exact ⟨k,rfl,by omega,by omega,rfl⟩
       case rest=>
        obtain ⟨z,rfl,f1,f2,hwz⟩:=hcut
        have hw':=hwz.symm
        subst hw'
        clear hwz HWS
        as_aux_lemma=>
         go_wp2_with fail
         refine (of_any HT3.out.b (by omega) z f1 f2).mono ?_
         rintro e w4 ⟨rfl,hB4⟩
         have HT4:=hide (HT3.out.below hB4 (14,0,0))
         clear HT3 hB4
         generalize own2 o3 _ (fun _=>(14,0,0))=o4 at *
         go_wp2_with fail
         refine (HT4.out.b.prune (pickOf_lt z n (by omega))).mono ?_
         rintro e w5 ⟨rfl,o5,hK5,hT5⟩
         have HT5:=hide (HT4.out.right HRm.out (t:=s3) hK5 hT5)
         clear HT4 hK5 hT5
         generalize put X3 (pickOf z n) _=X5 at *
         go_wp2_with fail
         go_loopw [14,15,16,17,18,19,20,21,22] (fun jv _ _ _ _ _ _ _ _ wz=>∃ (j:Nat) (oz:Nat→Tag),j≤n∧jv=.int .i64 j∧Hid (Tq n w gb g cap B gb' g' cap' B' s2 s3 X2 X5 wz oz)) (fun jv _ _ _ _ _ _ _ _ _=>n - (intOf jv).toNat)
         case atStart=>exact ⟨0,o5,Nat.zero_le _,rfl,HT5.out⟩
         case round=>
          clear HT5
          obtain ⟨j,oz,hj,rfl,HT⟩:=hrel
          obtain ⟨c0,hck,hgl⟩:=HT.out.a.cells
          by_cases hjn:j<n
          ·as_aux_lemma=>
            have ca:=hck j hjn
            clear hck
            go_wp2_with fail
            refine (HT.out.a.visible hjn (5,0,0) (by simp [free1])).mono ?_
            rintro e w6 ⟨lv,o6,rfl,K6,T6,P6⟩
            obtain ⟨lo,lcap,el,-⟩:=P6.row.shape
            subst el
            have HT6:=hide (HT.out.left HRm.out (t:=s2) K6 T6)
            have HP6:=hide P6
            obtain ⟨c0',hck,hgl'⟩:=HT6.out.b.cells
            have cb:=hck j hjn
            clear K6 T6 P6 HT hck c0 ca hgl
            go_wp2_with fail
            refine (HT6.out.b.visible hjn (6,0,0) (by simp [free1])).mono ?_
            rintro e w7 ⟨mv,o7,rfl,K7,T7,P7⟩
            obtain ⟨mo,mcap,em,-⟩:=P7.row.shape
            subst em
            have P6:=HP6.out.touch T7 (free_kg (by simp [free1]) _)
            have HT7:=hide (HT6.out.right HRm.out (t:=s3) K7 T7)
            have HP7:=hide (⟨P6,P7⟩:_∧_)
            obtain ⟨c0,hck,hgl⟩:=HT7.out.a.cells
            have ca:=hck j hjn
            clear K7 T7 P6 P7 HT6 HP6 hck c0' cb hgl'
            as_aux_lemma=>
             go_wp2_with fail
             refine (HT7.out.a.all hjn (by show freeSlot (fun _=>none)<6;rw [free_new];omega) (8,0,0) (9,0,0) (by simp [free1]) (by simp [free1]) (by simp)).mono ?_
             rintro e w8 ⟨lv,o8,xs,rfl,K8,T8,V8⟩
             obtain ⟨g8,cp8,el,-⟩:=V8.cells (allV_len _ _)
             subst el
             have HT8:=hide (HT7.out.left HRm.out (t:=s2) K8 T8)
             have HP8:=hide (⟨HP7.out.1.touch T8 (free_kg (by simp [free1]) _),HP7.out.2.touch T8 (free_kg (by simp [free1]) _),V8⟩:_∧_∧_)
             obtain ⟨c0',hck,hgl'⟩:=HT8.out.b.cells
             have cb:=hck j hjn
             clear K8 T8 V8 HT7 HP7 hck c0 ca hgl
             go_wp2_with fail
             refine (HT8.out.b.all hjn (by show freeSlot (fun _=>none)<6;rw [free_new];omega) (10,0,0) (11,0,0) (by simp [free1]) (by simp [free1]) (by simp)).mono ?_
             rintro e w9 ⟨mv,o9,ys,rfl,K9,T9,V9⟩
             obtain ⟨g9,cp9,el,-⟩:=V9.cells (allV_len _ _)
             subst el
             have HT9:=hide (HT8.out.right HRm.out (t:=s3) K9 T9)
             have HP9:=hide (⟨HP8.out.1.touch T9 (free_kg (by simp [free1]) _),HP8.out.2.1.touch T9 (free_kg (by simp [free1]) _),HP8.out.2.2.touch T9 (free_kg (by simp [free1]) _) (free_kg (by simp [free1]) _),V9⟩:_∧_∧_∧_)
             clear K9 T9 V9 HT8 HP8 c0' cb hgl'
             go_wp2_with fail
             refine (sameInts_any w9 _ _ (visOf n (s2.H j)) (visOf n (s3.H j)) (by rw [visOf_len];exact HP9.out.1.row) (by rw [visOf_len];exact HP9.out.2.1.row) (by rw [visOf_len,visOf_len]) (by rw [visOf_len];omega)).mono ?_
             rintro e wa ⟨rfl,hBa⟩
             rw [decide_eq_true (HN.out.1.vis hjn)]
             have HTa:=hide (HT9.out.below hBa (14,0,0))
             have HVa:Hid (ValsX wa (own2 o9 w9.heap.size fun _=>(14,0,0)) (8,0,0) (9,0,0) _ (allV n (s2.H j)) xs∧ValsX wa (own2 o9 w9.heap.size fun _=>(14,0,0)) (10,0,0) (11,0,0) _ (allV n (s3.H j)) ys):=⟨HP9.out.2.2.1.below hBa _,HP9.out.2.2.2.below hBa _⟩
             clear HT9 HP9 hBa
             generalize own2 o9 _ (fun _=>(14,0,0))=oa at *
             go_wp2_with fail
             refine (alike_any wa HVa.out.1 HVa.out.2 (allV_len _ _) (allV_len _ _) (all_len (HTa.out.a.histAt hjn).1 (HTa.out.a.len hjn)) (all_len (HTa.out.b.histAt hjn).1 (HTa.out.b.len hjn))).mono ?_
             rintro e wb ⟨rfl,hBb⟩
             rw [decide_eq_true (HN.out.1.all HTa.out.a.good HTa.out.b.good hjn)]
             have HTb:=hide (HTa.out.below hBb (14,0,0))
             clear HTa HVa hBb
             generalize own2 oa _ (fun _=>(14,0,0))=ob at *
             as_aux_lemma=>
              have hle:=HN.out.1.held (x:=X2 j) (x':=X5 j) (HN.out.2.1 j) hjn
              have HHa:Hid (∀ f:Fam (Bel wb),Calls Tryz.prog 46 #[bptr (B j)] f.w fun e w''=>e=.returned (.int .i64 (heldN (s2.H j) (X2 j) 5))∧∃ g:Fam (Bel wb),w''=g.w):=fun f=>Bel.call f (((HTb.out.below f.ok (14,0,0)).a.nk.held hjn).mono fun e w' ⟨h1,h2⟩=>⟨h1,by rw [h2];exact Below.refl _ _⟩)
              have HHb:Hid (∀ f:Fam (Bel wb),Calls Tryz.prog 46 #[bptr (B' j)] f.w fun e w''=>e=.returned (.int .i64 (heldN (s3.H j) (X5 j) 5))∧∃ g:Fam (Bel wb),w''=g.w):=fun f=>Bel.call f (((HTb.out.below f.ok (14,0,0)).b.nk.held hjn).mono fun e w' ⟨h1,h2⟩=>⟨h1,by rw [h2];exact Below.refl _ _⟩)
              generalize heldN (s2.H j) (X2 j) 5=ha at *
              generalize heldN (s3.H j) (X5 j) 5=hb at *
              have hle':¬ (ha:Int)<hb:=by omega
              obtain ⟨c0,hck,hgl⟩:=HTb.out.a.cells
              obtain ⟨c1,hck',hgl'⟩:=HTb.out.b.cells
              have m0:=Bel.cell c0
              have m1:=Bel.cell (hck j hjn)
              have m2:=Bel.cell c1
              have m3:=Bel.cell (hck' j hjn)
              clear hck hck' c0 c1
              go_upto_region 27 with (fail)
              refine region_fam (Bel wb) (by kernel_rfl) (by kernel_rfl) (Below.refl _ _).drew ?_
              repeat (go_big_quiet_step (first | (go_at_call 46;first | exact HHb.out _ | exact HHa.out _)))
              refine wpQuiet_nil ?_
              intro _ hw'
              obtain ⟨fq,rfl⟩:=hw'
              obtain ⟨wc,hBc⟩:=fq
              try dsimp only
              have HTc:=hide (HTb.out.below hBc (14,0,0))
              clear HTb HHa HHb m0 m1 m2 m3 hBc hgl hgl'
              go_wp2_with fail
              exact ⟨⟨j+1,_,by omega,by go_num,HTc.out⟩,by simp [intOf];omega⟩
          ·as_aux_lemma=>
            have hjn':¬ (j:Int)<n:=by omega
            clear hck
            go_wp2_with fail
            exact ⟨⟨k+1,by omega,by go_num,⟨s2,s3,X2,X5,_,HT.out,HN.out⟩⟩,by simp [intOf];omega⟩
  ·as_aux_lemma=>
    have hlt':¬ (k:Int)<ps.length:=by omega
    go_wp2_with fail
    go_ret
    exact ⟨rfl,HBr.out⟩
end Go.Proofs.YtiplgdkpnhamaaaGreatDoor.Tv
