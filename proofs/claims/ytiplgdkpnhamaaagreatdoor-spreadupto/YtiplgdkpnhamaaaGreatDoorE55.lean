/- The text QS6. -/
import Derived.Test.YtiplgdkpnhamaaaGreatDoorE47
namespace Go.Proofs.YtiplgdkpnhamaaaGreatDoor.Tv
open Go.RowKit
def PlayEnd (n:Nat) (len:Nat) (w:World) (e:Ending) (w':World):Prop:=∃ gb g cap B,e=.returned (bptr gb)∧EqAt n w gb g cap B len w'
set_option maxRecDepth 100000 in
set_option maxHeartbeats 16000000 in
theorem played_any {w:World} (ht:Tabs w) (m:Int) (hm:-9223372036854775808≤m) (hm':m≤9223372036854775807) (sv:Value) (ps:List KOp) (hps:KIn w sv ps) :
  Calls Tryz.prog 42 #[.int .i64 m,sv] w (PlayEnd (2+pickOf m 4) ps.length w):=by
 have HRm:Hid (6≤w.heap.size):=ht.room
 have HMd:=hide (made_any ht m hm hm')
 have hlt:=pickOf_lt m 4 (by omega)
 generalize hn:2+pickOf m 4=n at HMd ⊢
 have hn2:2≤n:=by omega
 have hn5:n≤5:=by omega
 obtain ⟨ao,cp,esv,hcell⟩:=hps.ex
 have HPS:=hide (⟨hcell,hps.ok,hps.most⟩:_∧_∧_)
 subst esv
 have hpm:ps.length≤262144:=hps.most
 clear ht hm hm' hlt hn hps hcell
 go_enter Tryz.func42,Tryz.ntmps42
 go_wp2_with fail
 refine HMd.out.mono ?_
 rintro e w1 ⟨gb,rv,B,o,rfl,-,h2,h3,h4⟩
 obtain ⟨g,cap,-,hK⟩:=Ks.start h4 h2 h3 (by omega)
 have HK:Hid (EqAt n w gb g cap B 0 w1):=⟨⟨⟨[],fun _=>[],[]⟩,_,o,hK,Nat.zero_le _,Nat.zero_le _⟩⟩
 clear hK h2 h3 h4 HMd
 go_wp2_with fail
 go_loopw [6,7] (fun iv _ wr=>∃ k:Nat,k≤ps.length∧iv=.int .i64 k∧Hid (EqAt n w gb g cap B k wr)) (fun iv _ _=>ps.length - (intOf iv).toNat)
 case atStart=>exact ⟨0,Nat.zero_le _,rfl,HK.out⟩
 case round=>
  clear HK
  obtain ⟨k,hk,rfl,HE⟩:=hrel
  obtain ⟨s,X,o,hK,hts,hL⟩:=HE.out.ex
  have HBr:Hid (Below w.heap.size w wr):=at0_below hK.at0
  by_cases hlt:k<ps.length
  ·as_aux_lemma=>
    obtain ⟨sg,off,rfl,hsb,hcell⟩:=HPS.out.1 k hlt
    have x0:=hcell 0 (by omega)
    have x1:=hcell 1 (by omega)
    have x2:=hcell 2 (by omega)
    have x3:=hcell 3 (by omega)
    simp only [KOp.cells,List.getElem?_cons_zero,List.getElem?_cons_succ,Nat.add_zero] at x0 x1 x2 x3
    have y0:=cell_later HBr.out x0
    have y1:=cell_later HBr.out x1
    have y2:=cell_later HBr.out x2
    have y3:=cell_later HBr.out x3
    have hsl:sg<wr.heap.size:=by have:=HBr.out.size;omega
    have HO:=hide (HPS.out.2.1 k hlt)
    obtain ⟨p,hp⟩:∃ p,ps[k]=p:=⟨_,rfl⟩
    rw [hp] at y0 y1 y2 y3 HO
    have HKs:=hide (⟨hK,hts,hL⟩:_∧_∧_)
    clear x0 x1 x2 x3 hcell hsb hp HE hK hts hL HBr
    go_wp2_with fail
    refine (step_any HKs.out.1 (by omega) HRm.out (fun i _=>⟨0,1,room_none⟩) p HO.out (by have:=HKs.out.2.1;omega) (by have:=HKs.out.2.2;omega)).mono ?_
    rintro e w2 ⟨rfl,o2,s2,X2,hst,hK2,-,-⟩
    have hfew:=step_few hst
    have HE2:Hid (EqAt n w gb g cap B (k+1) w2):=⟨s2,X2,o2,hK2,by have:=HKs.out.2.1;omega,by have:=HKs.out.2.2;omega⟩
    clear hst hK2 hfew HKs y0 y1 y2 y3 HO
    go_wp2_with fail
    exact ⟨⟨k+1,by omega,by go_num,HE2.out⟩,by simp [intOf];omega⟩
  ·as_aux_lemma=>
    have hkl:k=ps.length:=by omega
    subst hkl
    go_wp2_with fail
    go_ret
    exact ⟨gb,g,cap,B,rfl,HE.out⟩
def Full (n:Nat) (ts:List RTx) (H:Nat→List RTx):Prop:=∀ k r,k<n→r<n→cntR (H k) r=cntR ts r
structure RdAt (n:Nat) (ts:List RTx) (H0:Nat→List RTx) (X0:Nat→DX) (H:Nat→List RTx) (X:Nat→DX) (i k:Nat):Prop where
 one:∀ a b,(a<i∨(a=i∧b<k))→a<n→b<n→cntR (H b) a=cntR ts a
 mono:∀ k r,cntR (H0 k) r≤cntR (H k) r
 kn:Full n ts H0→∀ a b r,(a<i∨(a=i∧b<k))→a<n→b<n→b≠a→r<n→(cntR ts r:Int)≤((X a).kn b).get r
 gone:∀ k,(X k).gone=(X0 k).gone
theorem join_ge (v u:Vec) {r:Nat} (hr:r<5):v.get r≤(v.join u).get r∧u.get r≤(v.join u).get r:=by
 rw [join_get _ _ hr];omega
theorem learn_ge {x:DX} {b k r:Nat} {v:Vec} (hr:r<5):(x.kn k).get r≤((learnX x b v).kn k).get r:=by
 show _≤((latUpd x.kn b ((x.kn b).join v)) k).get r
 unfold latUpd
 by_cases c:k=b
 ·subst c;rw [if_pos rfl];exact (join_ge _ _ hr).1
 ·rw [if_neg c];exact Int.le_refl _
theorem tell_kn {n:Nat} {D:Nat→DRep} {X:Nat→DX} {a b r:Nat} (hr:r<5) (i k:Nat):((X i).kn k).get r≤((tellX n D X a b i).kn k).get r:=by
 have h1:∀ i,((X i).kn k).get r≤((put X a (learnX (X a) b (vecOf (visOf n (D b).hs))) i).kn k).get r:=fun i=>by
  by_cases c:i=a
  ·subst c;rw [put_same];exact learn_ge hr
  ·rw [put_other c];exact Int.le_refl _
 unfold tellX
 by_cases c:i=b
 ·subst c;rw [put_same];exact Int.le_trans (h1 i) (learn_ge hr)
 ·rw [put_other c];exact h1 i
theorem tell_learns {n:Nat} {D:Nat→DRep} {X:Nat→DX} {a b r:Nat} (hn:n≤5) (hab:a≠b) (hr:r<n):(cntR (D b).hs r:Int)≤((tellX n D X a b a).kn b).get r:=by
 unfold tellX
 rw [put_other hab,put_same]
 show _≤((latUpd (X a).kn b (((X a).kn b).join (vecOf (visOf n (D b).hs)))) b).get r
 unfold latUpd
 rw [if_pos rfl]
 refine Int.le_trans ?_ (join_ge _ _ (by omega)).2
 rw [vecOf_get (by rw [visOf_len];exact hn),Int.toNat_natCast,visOf_get hr]
 exact Int.le_refl _
section
variable {n c:Nat} {w0 w w':World} {gb g cap:Nat} {B:Nat→Nat} {ts:List RTx} {H0 H:Nat→List RTx} {O:Nat→Nat→Option RTx} {X0 X:Nat→DX} {L:List Let} {o:Nat→Tag} {i k:Nat}
theorem rec_full {hs:List RTx} (h:Ks n c w0 gb g cap B ts H O X L w o) {a b:Nat} (ha:a<n) (hr:RecH n (H b) (beyondL (H a) newX (vecOf (visOf n (H b)))) hs):∀ r,r<n→cntR (H a) r≤cntR hs r:=fun r hrn=>by
 obtain ⟨op,hr⟩:=hr
 obtain ⟨a1,a2⟩:=h.histAt ha
 have:=RecD.full h.hist a1 a2 (d:=dD n (H b) op) rfl (x:=newX) (v:=vecOf (visOf n (H b))) (fun j hj=>by
  rw [vecOf_get (by rw [visOf_len];exact h.n5),Int.toNat_natCast,visOf_get hj]
  exact Int.le_refl _) (fun j _=>Nat.zero_le _) hr r hrn
 have e:(dD n hs op).vis.getD r 0=(cntR hs r:Int):=visOf_get hrn
 rw [e] at this
 omega
theorem Ks.cnt_le (h:Ks n c w0 gb g cap B ts H O X L w o) {a:Nat} (ha:a<n) (r:Nat):cntR (H a) r≤cntR ts r:=cnt_sub h.hist (h.histAt ha).1 (h.histAt ha).2 r
theorem RdAt.first:RdAt n ts H X H X 0 0:=⟨fun a b h=>by omega,fun _ _=>Nat.le_refl _,fun _ a b r h=>by omega,fun _=>rfl⟩
theorem RdAt.row (h:RdAt n ts H0 X0 H X i n):RdAt n ts H0 X0 H X (i+1) 0:=by
 refine ⟨fun a b c ha hb=>h.one a b ?_ ha hb,h.mono,fun hf a b r c ha hb=>h.kn hf a b r ?_ ha hb,h.gone⟩
 ·rcases c with c | c
  ·by_cases e:a=i
   ·exact Or.inr ⟨e,hb⟩
   ·exact Or.inl (by omega)
  ·omega
 ·rcases c with c | c
  ·by_cases e:a=i
   ·exact Or.inr ⟨e,hb⟩
   ·exact Or.inl (by omega)
  ·omega
theorem RdAt.skip (h:RdAt n ts H0 X0 H X i i) (hK:Ks n c w0 gb g cap B ts H O X L w o) (hi:i<n):RdAt n ts H0 X0 H X i (i+1):=by
 refine ⟨fun a b c ha hb=>?_,h.mono,fun hf a b r c ha hb hne hr=>h.kn hf a b r ?_ ha hb hne hr,h.gone⟩
 ·by_cases e:a=i∧b=i
  ·obtain ⟨rfl,rfl⟩:=e
   exact (hK.own hi).symm
  ·exact h.one a b (by omega) ha hb
 ·omega
theorem RdAt.next {hs:List RTx} (h:RdAt n ts H0 X0 H X i k) (hK:Ks n c w0 gb g cap B ts H O X L w o) (hi:i<n) (hk:k<n) (hne:i≠k) (hr:RecH n (H k) (beyondL (H i) newX (vecOf (visOf n (H k)))) hs) (hle:∀ r,cntR hs r≤cntR ts r):RdAt n ts H0 X0 (put H k hs) (tellX n (fun i=>dD n (H i) (O i)) X i k) i (k+1):=by
 have hfull:=rec_full hK hi hr
 have hmono:=rec_cnt hr
 have hn5:=hK.n5
 refine ⟨fun a b c ha hb=>?_,fun q r=>?_,fun hf a b r c ha hb hab hrn=>?_,fun q=>(tell_gone _ _ _ _ _ _).trans (h.gone q)⟩
 ·by_cases e:b=k
  ·subst e
   rw [put_same]
   have h1:=hle a
   by_cases e2:a=i
   ·subst e2
    have h2:=hfull a ha
    have h3:=hK.own hi
    omega
   ·have h2:=h.one a b (by omega) ha hb
    have h3:=hmono a
    omega
  ·rw [put_other e]
   exact h.one a b (by omega) ha hb
 ·exact Nat.le_trans (h.mono q r) (put_cnt hmono q r)
 ·by_cases e:a=i∧b=k
  ·obtain ⟨rfl,rfl⟩:=e
   refine Int.le_trans ?_ (tell_learns hn5 hne hrn)
   show (cntR ts r:Int)≤(cntR (H b) r:Int)
   have h1:=hf b r hb hrn
   have h2:=h.mono b r
   omega
  ·exact Int.le_trans (h.kn hf a b r (by omega) ha hb hab hrn) (tell_kn (by omega) a b)
end
def RoundEnd (n c:Nat) (w0:World) (gb g cap:Nat) (B:Nat→Nat) (ts:List RTx) (H:Nat→List RTx) (O:Nat→Nat→Option RTx) (X:Nat→DX) (L:List Let) (w:World) (o:Nat→Tag) (e:Ending) (w':World):Prop:=
 e=.returned (.bool true)∧∃ o' H' X',Ks n c w0 gb g cap B ts H' O X' L w' o'∧TouchT (kg c) w o w' o'∧RdAt n ts H X H' X' n 0
set_option maxRecDepth 100000 in
set_option maxHeartbeats 16000000 in
theorem round_any {n c:Nat} {w0 w:World} {gb g cap:Nat} {B:Nat→Nat} {ts:List RTx} {H:Nat→List RTx} {O:Nat→Nat→Option RTx} {X:Nat→DX} {L:List Let} {o:Nat→Tag} (h:Ks n c w0 gb g cap B ts H O X L w o) :
  Calls Tryz.prog 36 #[bptr gb] w (RoundEnd n c w0 gb g cap B ts H O X L w o):=by
 have hn5:=h.n5
 have HK:Hid (Ks n c w0 gb g cap B ts H O X L w o∧TouchT (kg c) w o w o∧RdAt n ts H X H X 0 0):=⟨h,TouchT.refl _ _ _,RdAt.first⟩
 clear h
 go_enter Tryz.func36,Tryz.ntmps36
 go_wp2_with fail
 go_loopw [3,4,5] (fun iv _ _ wr=>∃ (i:Nat) (o':Nat→Tag) (H':Nat→List RTx) (X':Nat→DX),i≤n∧iv=.int .i64 i∧Hid (Ks n c w0 gb g cap B ts H' O X' L wr o'∧TouchT (kg c) w o wr o'∧RdAt n ts H X H' X' i 0)) (fun iv _ _ _=>n - (intOf iv).toNat)
 case atStart=>exact ⟨0,o,H,X,Nat.zero_le _,rfl,HK.out⟩
 case round=>
  clear HK
  obtain ⟨i,o',H',X',hi,rfl,HA⟩:=hrel
  obtain ⟨c0,-,hgl⟩:=HA.out.1.cells
  by_cases hin:i<n
  ·as_aux_lemma=>
    go_wp2_with fail
    clear c0 hgl
    go_loopw [4,5] (fun kv _ wz=>∃ (k:Nat) (o':Nat→Tag) (H':Nat→List RTx) (X':Nat→DX),k≤n∧kv=.int .i64 k∧Hid (Ks n c w0 gb g cap B ts H' O X' L wz o'∧TouchT (kg c) w o wz o'∧RdAt n ts H X H' X' i k)) (fun kv _ _=>n - (intOf kv).toNat)
    case atStart=>exact ⟨0,o',H',X',Nat.zero_le _,rfl,HA.out⟩
    case round=>
     clear HA
     obtain ⟨k,o',H',X',hk,rfl,HA⟩:=hrel
     obtain ⟨c0,hck,hgl⟩:=HA.out.1.cells
     by_cases hkn:k<n
     ·by_cases hne:i=k
      ·as_aux_lemma=>
        subst hne
        have HN:=hide (HA.out.2.2.skip HA.out.1 hin)
        clear hck
        go_wp2_with fail
        exact ⟨⟨i+1,o',H',X',by omega,by go_num,HA.out.1,HA.out.2.1,HN.out⟩,by simp [intOf];omega⟩
      ·as_aux_lemma=>
        have hne':¬ (i:Int)=k:=by omega
        have m0:=Bel.cell c0
        have m1:=Bel.cell (hck i hin)
        have m2:=Bel.cell (hck k hkn)
        clear hck
        go_upto_region 8 with (fail)
        clear c0
        refine region_fam_tail (Bel _) 14 (by kernel_rfl) (by kernel_rfl) (Below.refl _ _).drew ?_
        simp only [List.take_succ_cons,List.take_zero,List.drop_succ_cons,List.drop_zero]
        repeat (go_big_quiet_step (fail))
        refine wpQuiet_nil ?_
        intro _ hw'
        obtain ⟨fq,rfl⟩:=hw'
        obtain ⟨w5,hB5⟩:=fq
        try dsimp only
        obtain ⟨K5,T5⟩:=HA.out.1.below hB5 (14,0,0)
        have H5:=hide (⟨K5,HA.out.2.1.trans T5,HA.out.2.2⟩:_∧_∧_)
        clear HA m0 m1 m2 hB5 K5 T5
        generalize own2 o' _ (fun _=>(14,0,0))=o5 at *
        go_wp2_with fail
        refine (H5.out.1.tells hin hkn).mono ?_
        rintro e w6 ⟨rfl,o6,hs,K6,T6,R6⟩
        have hN:=H5.out.2.2.next H5.out.1 hin hkn hne R6 (fun r=>by have:=K6.cnt_le hkn r;rwa [put_same] at this)
        have H6:=hide (⟨K6,H5.out.2.1.trans T6,hN⟩:_∧_∧_)
        clear H5 K6 T6 R6 hN
        go_wp2_with fail
        exact ⟨⟨k+1,o6,_,_,by omega,by go_num,H6.out⟩,by simp [intOf];omega⟩
     ·as_aux_lemma=>
       have hke:k=n:=by omega
       subst hke
       clear hck
       go_wp2_with fail
       exact ⟨⟨i+1,o',H',X',by omega,by go_num,HA.out.1,HA.out.2.1,HA.out.2.2.row⟩,by simp [intOf];omega⟩
  ·as_aux_lemma=>
    have hie:i=n:=by omega
    subst hie
    go_wp2_with fail
    go_ret
    exact ⟨rfl,o',H',X',HA.out⟩
end Go.Proofs.YtiplgdkpnhamaaaGreatDoor.Tv
