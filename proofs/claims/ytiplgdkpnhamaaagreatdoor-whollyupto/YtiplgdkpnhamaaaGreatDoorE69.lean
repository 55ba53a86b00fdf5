/- The text QS6. -/
import Derived.Test.YtiplgdkpnhamaaaGreatDoorE68
namespace Go.Proofs.YtiplgdkpnhamaaaGreatDoor.Tv
open Go.RowKit
def Full (n:Nat) (ts:List RTx) (H:Nat→List RTx):Prop:=∀ k r,k<n→r<n→cntR (H k) r=cntR ts r
structure RdAt (n:Nat) (ts:List RTx) (H0:Nat→List RTx) (X0:Nat→DX) (H:Nat→List RTx) (X:Nat→DX) (i k:Nat):Prop where
 one:∀ a b,(a<i∨(a=i∧b<k))→a<n→b<n→cntR (H b) a=cntR ts a
 mono:∀ k r,cntR (H0 k) r≤cntR (H k) r
 kn:Full n ts H0→∀ a b r,(a<i∨(a=i∧b<k))→a<n→b<n→b≠a→r<n→(cntR ts r:Int)≤((X a).kn b).get r
 gone:∀ k,(X k).gone=(X0 k).gone
theorem join_ge (v u:Vec) {r:Nat} (hr:r<5):v.get r≤(v.join u).get r∧u.get r≤(v.join u).get r:=by
 rw [join_get _ _ hr];omega
theorem learn_ge {x:DX} {b k r:Nat} {v:Vec} (hr:r<5):(x.kn k).get r≤((learnX x b v).kn k).get r:=by
 show _≤((latUpd x.kn b ((x.kn b).join v)) k).get r
 unfold latUpd
 by_cases c:k=b
 ·subst c;rw [if_pos rfl];exact (join_ge _ _ hr).1
 ·rw [if_neg c];exact Int.le_refl _
theorem tell_kn {n:Nat} {D:Nat→DRep} {X:Nat→DX} {a b r:Nat} (hr:r<5) (i k:Nat):((X i).kn k).get r≤((tellX n D X a b i).kn k).get r:=by
 have h1:∀ i,((X i).kn k).get r≤((put X a (learnX (X a) b (vecOf (visOf n (D b).hs))) i).kn k).get r:=fun i=>by
  by_cases c:i=a
  ·subst c;rw [put_same];exact learn_ge hr
  ·rw [put_other c];exact Int.le_refl _
 unfold tellX
 by_cases c:i=b
 ·subst c;rw [put_same];exact Int.le_trans (h1 i) (learn_ge hr)
 ·rw [put_other c];exact h1 i
theorem tell_learns {n:Nat} {D:Nat→DRep} {X:Nat→DX} {a b r:Nat} (hn:n≤5) (hab:a≠b) (hr:r<n):(cntR (D b).hs r:Int)≤((tellX n D X a b a).kn b).get r:=by
 unfold tellX
 rw [put_other hab,put_same]
 show _≤((latUpd (X a).kn b (((X a).kn b).join (vecOf (visOf n (D b).hs)))) b).get r
 unfold latUpd
 rw [if_pos rfl]
 refine Int.le_trans ?_ (join_ge _ _ (by omega)).2
 rw [vecOf_get (by rw [visOf_len];exact hn),Int.toNat_natCast,visOf_get hr]
 exact Int.le_refl _
section
variable {n c:Nat} {w0 w w':World} {gb g cap:Nat} {B:Nat→Nat} {ts:List RTx} {H0 H:Nat→List RTx} {O:Nat→Nat→Option RTx} {X0 X:Nat→DX} {L:List Let} {o:Nat→Tag} {i k:Nat}
theorem rec_full {hs:List RTx} (h:Ks n c w0 gb g cap B ts H O X L w o) {a b:Nat} (ha:a<n) (hr:RecH n (H b) (beyondL (H a) newX (vecOf (visOf n (H b)))) hs):∀ r,r<n→cntR (H a) r≤cntR hs r:=fun r hrn=>by
 obtain ⟨op,hr⟩:=hr
 obtain ⟨a1,a2⟩:=h.histAt ha
 have:=RecD.full h.hist a1 a2 (d:=dD n (H b) op) rfl (x:=newX) (v:=vecOf (visOf n (H b))) (fun j hj=>by
  rw [vecOf_get (by rw [visOf_len];exact h.n5),Int.toNat_natCast,visOf_get hj]
  exact Int.le_refl _) (fun j _=>Nat.zero_le _) hr r hrn
 have e:(dD n hs op).vis.getD r 0=(cntR hs r:Int):=visOf_get hrn
 rw [e] at this
 omega
theorem Ks.cnt_le (h:Ks n c w0 gb g cap B ts H O X L w o) {a:Nat} (ha:a<n) (r:Nat):cntR (H a) r≤cntR ts r:=cnt_sub h.hist (h.histAt ha).1 (h.histAt ha).2 r
theorem RdAt.first:RdAt n ts H X H X 0 0:=⟨fun a b h=>by omega,fun _ _=>Nat.le_refl _,fun _ a b r h=>by omega,fun _=>rfl⟩
theorem RdAt.row (h:RdAt n ts H0 X0 H X i n):RdAt n ts H0 X0 H X (i+1) 0:=by
 refine ⟨fun a b c ha hb=>h.one a b ?_ ha hb,h.mono,fun hf a b r c ha hb=>h.kn hf a b r ?_ ha hb,h.gone⟩
 ·rcases c with c | c
  ·by_cases e:a=i
   ·exact Or.inr ⟨e,hb⟩
   ·exact Or.inl (by omega)
  ·omega
 ·rcases c with c | c
  ·by_cases e:a=i
   ·exact Or.inr ⟨e,hb⟩
   ·exact Or.inl (by omega)
  ·omega
theorem RdAt.skip (h:RdAt n ts H0 X0 H X i i) (hK:Ks n c w0 gb g cap B ts H O X L w o) (hi:i<n):RdAt n ts H0 X0 H X i (i+1):=by
 refine ⟨fun a b c ha hb=>?_,h.mono,fun hf a b r c ha hb hne hr=>h.kn hf a b r ?_ ha hb hne hr,h.gone⟩
 ·by_cases e:a=i∧b=i
  ·obtain ⟨rfl,rfl⟩:=e
   exact (hK.own hi).symm
  ·exact h.one a b (by omega) ha hb
 ·omega
theorem RdAt.next {hs:List RTx} (h:RdAt n ts H0 X0 H X i k) (hK:Ks n c w0 gb g cap B ts H O X L w o) (hi:i<n) (hk:k<n) (hne:i≠k) (hr:RecH n (H k) (beyondL (H i) newX (vecOf (visOf n (H k)))) hs) (hle:∀ r,cntR hs r≤cntR ts r):RdAt n ts H0 X0 (put H k hs) (tellX n (fun i=>dD n (H i) (O i)) X i k) i (k+1):=by
 have hfull:=rec_full hK hi hr
 have hmono:=rec_cnt hr
 have hn5:=hK.n5
 refine ⟨fun a b c ha hb=>?_,fun q r=>?_,fun hf a b r c ha hb hab hrn=>?_,fun q=>(tell_gone _ _ _ _ _ _).trans (h.gone q)⟩
 ·by_cases e:b=k
  ·subst e
   rw [put_same]
   have h1:=hle a
   by_cases e2:a=i
   ·subst e2
    have h2:=hfull a ha
    have h3:=hK.own hi
    omega
   ·have h2:=h.one a b (by omega) ha hb
    have h3:=hmono a
    omega
  ·rw [put_other e]
   exact h.one a b (by omega) ha hb
 ·exact Nat.le_trans (h.mono q r) (put_cnt hmono q r)
 ·by_cases e:a=i∧b=k
  ·obtain ⟨rfl,rfl⟩:=e
   refine Int.le_trans ?_ (tell_learns hn5 hne hrn)
   show (cntR ts r:Int)≤(cntR (H b) r:Int)
   have h1:=hf b r hb hrn
   have h2:=h.mono b r
   omega
  ·exact Int.le_trans (h.kn hf a b r (by omega) ha hb hab hrn) (tell_kn (by omega) a b)
end
def RoundEnd (n c:Nat) (w0:World) (gb g cap:Nat) (B:Nat→Nat) (ts:List RTx) (H:Nat→List RTx) (O:Nat→Nat→Option RTx) (X:Nat→DX) (L:List Let) (w:World) (o:Nat→Tag) (e:Ending) (w':World):Prop:=
 e=.returned (.bool true)∧∃ o' H' X',Ks n c w0 gb g cap B ts H' O X' L w' o'∧TouchT (kg c) w o w' o'∧RdAt n ts H X H' X' n 0
set_option maxRecDepth 100000 in
set_option maxHeartbeats 16000000 in
theorem round_any {n c:Nat} {w0 w:World} {gb g cap:Nat} {B:Nat→Nat} {ts:List RTx} {H:Nat→List RTx} {O:Nat→Nat→Option RTx} {X:Nat→DX} {L:List Let} {o:Nat→Tag} (h:Ks n c w0 gb g cap B ts H O X L w o) :
  Calls Tryz.prog 36 #[bptr gb] w (RoundEnd n c w0 gb g cap B ts H O X L w o):=by
 have hn5:=h.n5
 have HK:Hid (Ks n c w0 gb g cap B ts H O X L w o∧TouchT (kg c) w o w o∧RdAt n ts H X H X 0 0):=⟨h,TouchT.refl _ _ _,RdAt.first⟩
 clear h
 go_enter Tryz.func36,Tryz.ntmps36
 go_wp2_with fail
 go_loopw [3,4,5] (fun iv _ _ wr=>∃ (i:Nat) (o':Nat→Tag) (H':Nat→List RTx) (X':Nat→DX),i≤n∧iv=.int .i64 i∧Hid (Ks n c w0 gb g cap B ts H' O X' L wr o'∧TouchT (kg c) w o wr o'∧RdAt n ts H X H' X' i 0)) (fun iv _ _ _=>n - (intOf iv).toNat)
 case atStart=>exact ⟨0,o,H,X,Nat.zero_le _,rfl,HK.out⟩
 case round=>
  clear HK
  obtain ⟨i,o',H',X',hi,rfl,HA⟩:=hrel
  obtain ⟨c0,-,hgl⟩:=HA.out.1.cells
  by_cases hin:i<n
  ·as_aux_lemma=>
    go_wp2_with fail
    clear c0 hgl
    go_loopw [4,5] (fun kv _ wz=>∃ (k:Nat) (o':Nat→Tag) (H':Nat→List RTx) (X':Nat→DX),k≤n∧kv=.int .i64 k∧Hid (Ks n c w0 gb g cap B ts H' O X' L wz o'∧TouchT (kg c) w o wz o'∧RdAt n ts H X H' X' i k)) (fun kv _ _=>n - (intOf kv).toNat)
    case atStart=>exact ⟨0,o',H',X',Nat.zero_le _,rfl,HA.out⟩
    case round=>
     clear HA
     obtain ⟨k,o',H',X',hk,rfl,HA⟩:=hrel
     obtain ⟨c0,hck,hgl⟩:=HA.out.1.cells
     by_cases hkn:k<n
     ·by_cases hne:i=k
      ·as_aux_lemma=>
        subst hne
        have HN:=hide (HA.out.2.2.skip HA.out.1 hin)
        clear hck
        go_wp2_with fail
        exact ⟨⟨i+1,o',H',X',by omega,by go_num,HA.out.1,HA.out.2.1,HN.out⟩,by simp [intOf];omega⟩
      ·as_aux_lemma=>
        have hne':¬ (i:Int)=k:=by omega
        have m0:=Bel.cell c0
        have m1:=Bel.cell (hck i hin)
        have m2:=Bel.cell (hck k hkn)
        clear hck
        go_upto_region 8 with (fail)
        clear c0
        refine region_fam_tail (Bel _) 14 (by kernel_rfl) (by kernel_rfl) (Below.refl _ _).drew ?_
        simp only [List.take_succ_cons,List.take_zero,List.drop_succ_cons,List.drop_zero]
        repeat (go_big_quiet_step (fail))
        refine wpQuiet_nil ?_
        intro _ hw'
        obtain ⟨fq,rfl⟩:=hw'
        obtain ⟨w5,hB5⟩:=fq
        try dsimp only
        obtain ⟨K5,T5⟩:=HA.out.1.below hB5 (14,0,0)
        have H5:=hide (⟨K5,HA.out.2.1.trans T5,HA.out.2.2⟩:_∧_∧_)
        clear HA m0 m1 m2 hB5 K5 T5
        generalize own2 o' _ (fun _=>(14,0,0))=o5 at *
        go_wp2_with fail
        refine (H5.out.1.tells hin hkn).mono ?_
        rintro e w6 ⟨rfl,o6,hs,K6,T6,R6⟩
        have hN:=H5.out.2.2.next H5.out.1 hin hkn hne R6 (fun r=>by have:=K6.cnt_le hkn r;rwa [put_same] at this)
        have H6:=hide (⟨K6,H5.out.2.1.trans T6,hN⟩:_∧_∧_)
        clear H5 K6 T6 R6 hN
        go_wp2_with fail
        exact ⟨⟨k+1,o6,_,_,by omega,by go_num,H6.out⟩,by simp [intOf];omega⟩
     ·as_aux_lemma=>
       have hke:k=n:=by omega
       subst hke
       clear hck
       go_wp2_with fail
       exact ⟨⟨i+1,o',H',X',by omega,by go_num,HA.out.1,HA.out.2.1,HA.out.2.2.row⟩,by simp [intOf];omega⟩
  ·as_aux_lemma=>
    have hie:i=n:=by omega
    subst hie
    go_wp2_with fail
    go_ret
    exact ⟨rfl,o',H',X',HA.out⟩
end Go.Proofs.YtiplgdkpnhamaaaGreatDoor.Tv
