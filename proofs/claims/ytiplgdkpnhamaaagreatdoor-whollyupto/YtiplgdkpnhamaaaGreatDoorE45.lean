/- The texts ZL3, ZN9, ZN10, QG1, QH1, ZL4, QG2, joined. -/
import Derived.Test.YtiplgdkpnhamaaaGreatDoorE44
import Derived.Test.YtiplgdkpnhamaaaGreatDoorE34
import Derived.Test.YtiplgdkpnhamaaaGreatDoorE38
import Derived.Test.YtiplgdkpnhamaaaGreatDoorE43
namespace Go.Proofs.YtiplgdkpnhamaaaGreatDoor.Tv
open Go.RowKit
def evTo (x:DX) (i:Nat) (v:Vec):Nat→Vec
 | 0=>v
 | k+1=>if k=i then evTo x i v k else (evTo x i v k).meet (x.kn k)
theorem meet_get (v o:Vec) (k:Nat):(v.meet o).get k=min (v.get k) (o.get k):=by
 match k with
 | 0 | 1 | 2 | 3 | 4=>rfl
 | k+5=>
  have e:∀ u:Vec,u.get ((k+5:Nat):Int)=0:=fun u=>by
   unfold Vec.get
   rw [Int.toNat_natCast]
   rfl
  rw [e,e,e];rfl
theorem ev_le (x:DX) (i:Nat) (v:Vec) (r:Nat):∀ n,(evTo x i v n).get r≤v.get r∧∀ k,k<n→k≠i→(evTo x i v n).get r≤(x.kn k).get r
 | 0=>⟨Int.le_refl _,fun k hk=>absurd hk (Nat.not_lt_zero _)⟩
 | n+1=>by
  obtain ⟨a,b⟩:=ev_le x i v r n
  unfold evTo
  by_cases c:n=i
  ·rw [if_pos c]
   refine ⟨a,fun k hk hne=>b k (by omega) hne⟩
  ·rw [if_neg c,meet_get]
   refine ⟨by omega,fun k hk hne=>?_⟩
   by_cases c2:k=n
   ·subst c2;omega
   ·have:=b k (by omega) hne
    omega
theorem ev_ge (x:DX) (i:Nat) (v:Vec) (r:Nat) {m:Int} (h0:m≤v.get r):∀ n,(∀ k,k<n→k≠i→m≤(x.kn k).get r)→m≤(evTo x i v n).get r
 | 0,_=>h0
 | n+1,h=>by
  have a:=ev_ge x i v r h0 n fun k hk hne=>h k (by omega) hne
  unfold evTo
  by_cases c:n=i
  ·rw [if_pos c];exact a
  ·rw [if_neg c,meet_get]
   have:=h n (by omega) c
   omega
structure EvAt (w:World) (vb:Nat) (v:Vec) (wr:World):Prop where
 bel:Below w.heap.size w wr
 box:Blk wr vb v.cells 104
 res:Blk wr w.heap.size [.int .i64 0,.int .i64 0,.int .i64 0,.int .i64 0,.int .i64 0] 104
set_option maxRecDepth 100000 in
set_option maxHeartbeats 8000000 in
theorem everywhere_any {xq:DX} {w:World} {p:Nat→Own} {b n i:Nat} {d:DRep} {sb:Nat} {st:St} {sl tbs mbs:Nat→Nat} {hv kn:List Value} (h:RepP xq w p b n i d sb st sl tbs mbs hv kn) :
  Calls Tryz.prog 85 #[bptr b] w fun e w'=>e=.returned (evTo xq i (vecOf d.vis) n).val∧Below w.heap.size w w':=by
 have hn5:=h.ok.hist.n5
 have hi:=h.ok.hi
 generalize hW0:w.alloc (.cells #[.int .i64 0,.int .i64 0,.int .i64 0,.int .i64 0,.int .i64 0] 104)=W0
 have hB0:Below w.heap.size w W0:=by rw [← hW0];exact (Below.refl _ _).alloc (Nat.le_refl _) _
 have bx:Blk W0 w.heap.size [.int .i64 0,.int .i64 0,.int .i64 0,.int .i64 0,.int .i64 0] 104:=by rw [← hW0];exact heap_alloc_new w _
 have h0:=h.below hB0
 obtain ⟨-,-,c2⟩:=h0.cellOf
 have hvc:=h0.visCall
 generalize vecOf d.vis=v at *
 have HV:=hide hvc
 have HW0:=hide hW0
 have HH:=hide (⟨h,hB0,bx⟩:_∧_∧_)
 have hlb:=h0.blk.blk.lt
 clear h hB0 bx h0 hvc hW0
 go_enter Tryz.func85,Tryz.ntmps85
 go_upto_region 1 with (fail)
 rw [HW0.out]
 clear HW0
 go_upto_region 2 with (go_at_call 57;refine HV.out.mono ?_;rintro e w1 ⟨rfl,hB1⟩;have HB1:=hide hB1;clear hB1)
 generalize hW2:World.alloc w1 _=W2
 have hB2:Below w1.heap.size w1 W2:=by rw [← hW2];exact (Below.refl _ _).alloc (Nat.le_refl _) _
 have hBw:Below w.heap.size w W2:=(HH.out.2.1.trans (HB1.out.mono HH.out.2.1.size)).trans (hB2.mono (by have:=HH.out.2.1.size;have:=HB1.out.size;omega))
 have HA:Hid (EvAt w w1.heap.size (evTo xq i v 0) W2):=⟨hBw,by rw [← hW2];exact heap_alloc_new w1 _,(HH.out.2.2.below HB1.out).below hB2⟩
 have hvb:w.heap.size<w1.heap.size:=(HH.out.2.2.below HB1.out).lt
 obtain ⟨-,d1,-⟩:=(HH.out.1.below hBw).cellOf
 have y1:=Bel.cell d1
 have hlb2:=(HH.out.1.below hBw).blk.blk.lt
 generalize w1.heap.size=vb at *
 clear hW2 hB2 hBw d1 HB1 HV c2 hlb
 have g1:¬ (n:Int)<0:=by omega
 have g2:(n:Int)≤5:=by omega
 have g3:¬ (5:Int)<n:=by omega
 refine region_fam (Bel W2) (by kernel_rfl) (by kernel_rfl) (Below.refl _ _).drew ?_
 repeat (go_big_quiet_step (fail))
 refine wpQuiet_nil ?_
 intro _ hw'
 obtain ⟨fq,rfl⟩:=hw'
 obtain ⟨w3,hB3⟩:=fq
 try dsimp only
 have HA3:Hid (EvAt w vb (evTo xq i v 0) w3):=⟨HA.out.bel.trans (hB3.mono HA.out.bel.size),HA.out.box.below hB3,HA.out.res.below hB3⟩
 clear HA hB3 y1 hlb2
 go_wp2_with fail
 go_loopw [4,5,20] (fun _ _ kv wr=>∃ k:Nat,k≤n∧kv=.int .i64 k∧Hid (EvAt w vb (evTo xq i v k) wr)) (fun _ _ kv _=>n - (intOf kv).toNat)
 case atStart=>exact ⟨0,Nat.zero_le _,rfl,HA3.out⟩
 case round=>
  clear HA3
  obtain ⟨k,hk,rfl,HR⟩:=hrel
  by_cases hkn:k<n
  ·as_aux_lemma=>
    have h1:=HH.out.1.below HR.out.bel
    obtain ⟨u,hu⟩:∃ u,xq.kn k=u:=⟨_,rfl⟩
    have ck:∀ m,m<5→wr.cell? ⟨b,8+k * 5+m,none⟩=some (.int .i64 (u.get m)):=fun m hm=>by
     rw [h1.blk.blk.cell,show 8+k * 5+m=8+(k * 5+m) by omega,repCells_kn h1.hlen h1.klen (by omega),h1.known,lat_cell _ (by omega) hm,hu]
    have k0:wr.cell? ⟨b,8+k * 5,none⟩=some (.int .i64 u.a):=ck 0 (by omega)
    have k1:wr.cell? ⟨b,8+k * 5+1,none⟩=some (.int .i64 u.b):=ck 1 (by omega)
    have k2:wr.cell? ⟨b,8+k * 5+2,none⟩=some (.int .i64 u.c):=ck 2 (by omega)
    have k3:wr.cell? ⟨b,8+k * 5+3,none⟩=some (.int .i64 u.d):=ck 3 (by omega)
    have k4:wr.cell? ⟨b,8+k * 5+4,none⟩=some (.int .i64 u.e):=ck 4 (by omega)
    obtain ⟨c0,-,-⟩:=h1.cellOf
    have hlb:=h1.blk.blk.lt
    have hkn':(k:Int)<n:=by omega
    obtain ⟨v1,hv1⟩:∃ v1,evTo xq i v k=v1:=⟨_,rfl⟩
    have HS:Hid (evTo xq i v (k+1)=if k=i then v1 else v1.meet u):=by
     show (if k=i then evTo xq i v k else (evTo xq i v k).meet (xq.kn k))=_
     rw [hv1,hu]
    rw [hv1] at HR
    clear ck h1 hu hv1
    by_cases hki:k=i
    ·as_aux_lemma=>
      subst hki
      go_wp2_with fail
      refine ⟨⟨k+1,by omega,by go_num,?_⟩,by simp [intOf];omega⟩
      have hB4:Below wr.heap.size wr (wr.alloc (.cells #[.int .i64 u.a,.int .i64 u.b,.int .i64 u.c,.int .i64 u.d,.int .i64 u.e] 104)):=(Below.refl _ _).alloc (Nat.le_refl _) _
      have e:=HS.out
      rw [if_pos rfl] at e
      rw [e]
      exact ⟨HR.out.bel.trans (hB4.mono HR.out.bel.size),HR.out.box.below hB4,HR.out.res.below hB4⟩
    ·as_aux_lemma=>
      have hki':¬ (k:Int)=i:=by omega
      go_upto_region 6 with (fail)
      generalize hW4:World.alloc wr _=W4
      have hB4:Below wr.heap.size wr W4:=by rw [← hW4];exact (Below.refl _ _).alloc (Nat.le_refl _) _
      have b4:Blk W4 wr.heap.size u.cells 104:=by rw [← hW4];exact heap_alloc_new wr _
      have H4:Hid (EvAt w vb v1 W4):=⟨HR.out.bel.trans (hB4.mono HR.out.bel.size),HR.out.box.below hB4,HR.out.res.below hB4⟩
      have x0:W4.cell? ⟨vb,0,none⟩=some (.int .i64 v1.a):=H4.out.box.cell 0
      have x1:W4.cell? ⟨vb,1,none⟩=some (.int .i64 v1.b):=H4.out.box.cell 1
      have x2:W4.cell? ⟨vb,2,none⟩=some (.int .i64 v1.c):=H4.out.box.cell 2
      have x3:W4.cell? ⟨vb,3,none⟩=some (.int .i64 v1.d):=H4.out.box.cell 3
      have x4:W4.cell? ⟨vb,4,none⟩=some (.int .i64 v1.e):=H4.out.box.cell 4
      have y0:W4.cell? ⟨wr.heap.size,0,none⟩=some (.int .i64 u.a):=b4.cell 0
      have y1:W4.cell? ⟨wr.heap.size,1,none⟩=some (.int .i64 u.b):=b4.cell 1
      have y2:W4.cell? ⟨wr.heap.size,2,none⟩=some (.int .i64 u.c):=b4.cell 2
      have y3:W4.cell? ⟨wr.heap.size,3,none⟩=some (.int .i64 u.d):=b4.cell 3
      have y4:W4.cell? ⟨wr.heap.size,4,none⟩=some (.int .i64 u.e):=b4.cell 4
      have lx:=H4.out.box.lt
      have ly:=b4.lt
      clear HR hW4 hB4 b4 k0 k1 k2 k3 k4 c0 hlb
      generalize wr.heap.size=tb at *
      go_wp2_with fail
      refine (meet_any W4 v1 u).mono ?_
      rintro e w5 ⟨rfl,hB5⟩
      have H5:Hid (EvAt w vb v1 w5):=⟨H4.out.bel.trans (hB5.mono H4.out.bel.size),H4.out.box.below hB5,H4.out.res.below hB5⟩
      have HM:Hid (evTo xq i v (k+1)=v1.meet u):=by
       have e:=HS.out
       rw [if_neg hki] at e
       exact e
      generalize v1.meet u=v2 at *
      have z0:w5.cell? ⟨vb,0,none⟩=some (.int .i64 v1.a):=H5.out.box.cell 0
      have z1:w5.cell? ⟨vb,1,none⟩=some (.int .i64 v1.b):=H5.out.box.cell 1
      have z2:w5.cell? ⟨vb,2,none⟩=some (.int .i64 v1.c):=H5.out.box.cell 2
      have z3:w5.cell? ⟨vb,3,none⟩=some (.int .i64 v1.d):=H5.out.box.cell 3
      have z4:w5.cell? ⟨vb,4,none⟩=some (.int .i64 v1.e):=H5.out.box.cell 4
      have f0:w5.frozen? ⟨vb,0,none⟩=false:=H5.out.box.frozen 0
      have f1:w5.frozen? ⟨vb,1,none⟩=false:=H5.out.box.frozen 1
      have f2:w5.frozen? ⟨vb,2,none⟩=false:=H5.out.box.frozen 2
      have f3:w5.frozen? ⟨vb,3,none⟩=false:=H5.out.box.frozen 3
      have f4:w5.frozen? ⟨vb,4,none⟩=false:=H5.out.box.frozen 4
      have lz:=H5.out.box.lt
      clear H4 hB5 x0 x1 x2 x3 x4 y0 y1 y2 y3 y4 lx ly HS
      go_wp2_with fail
      refine ⟨⟨k+1,by omega,by go_num,?_⟩,by simp [intOf];omega⟩
      have hb5:=put5_blk v2 H5.out.box
      have hT5:=put5_touch w5 vb v2
      unfold put5 at hb5 hT5
      rw [HM.out]
      exact ⟨below_tch H5.out.bel hT5 (by omega) H5.out.bel.size,hb5,H5.out.res.touch hT5 (by show w.heap.size≠vb;omega)⟩
  ·as_aux_lemma=>
    have hke:k=n:=by omega
    subst hke
    obtain ⟨v1,hv1⟩:∃ v1,evTo xq i v k=v1:=⟨_,rfl⟩
    rw [hv1] at HR
    have HV1:=hide hv1
    clear hv1
    have d0:wr.cell? ⟨vb,0,none⟩=some (.int .i64 v1.a):=HR.out.box.cell 0
    have d1:wr.cell? ⟨vb,1,none⟩=some (.int .i64 v1.b):=HR.out.box.cell 1
    have d2:wr.cell? ⟨vb,2,none⟩=some (.int .i64 v1.c):=HR.out.box.cell 2
    have d3:wr.cell? ⟨vb,3,none⟩=some (.int .i64 v1.d):=HR.out.box.cell 3
    have d4:wr.cell? ⟨vb,4,none⟩=some (.int .i64 v1.e):=HR.out.box.cell 4
    have r0:wr.cell? ⟨w.heap.size,0,none⟩=some (.int .i64 0):=HR.out.res.cell 0
    have r1:wr.cell? ⟨w.heap.size,1,none⟩=some (.int .i64 0):=HR.out.res.cell 1
    have r2:wr.cell? ⟨w.heap.size,2,none⟩=some (.int .i64 0):=HR.out.res.cell 2
    have r3:wr.cell? ⟨w.heap.size,3,none⟩=some (.int .i64 0):=HR.out.res.cell 3
    have r4:wr.cell? ⟨w.heap.size,4,none⟩=some (.int .i64 0):=HR.out.res.cell 4
    have q0:wr.frozen? ⟨w.heap.size,0,none⟩=false:=HR.out.res.frozen 0
    have q1:wr.frozen? ⟨w.heap.size,1,none⟩=false:=HR.out.res.frozen 1
    have q2:wr.frozen? ⟨w.heap.size,2,none⟩=false:=HR.out.res.frozen 2
    have q3:wr.frozen? ⟨w.heap.size,3,none⟩=false:=HR.out.res.frozen 3
    have q4:wr.frozen? ⟨w.heap.size,4,none⟩=false:=HR.out.res.frozen 4
    have hlr:=HR.out.res.lt
    have hlv:=HR.out.box.lt
    go_wp2_with fail
    have hb5:=put5_blk v1 HR.out.res
    have hT5:=put5_touch wr w.heap.size v1
    unfold put5 at hb5 hT5
    generalize World.setCell _ _ _=W5 at *
    have s0:W5.cell? ⟨w.heap.size,0,none⟩=some (.int .i64 v1.a):=hb5.cell 0
    have s1:W5.cell? ⟨w.heap.size,1,none⟩=some (.int .i64 v1.b):=hb5.cell 1
    have s2:W5.cell? ⟨w.heap.size,2,none⟩=some (.int .i64 v1.c):=hb5.cell 2
    have s3:W5.cell? ⟨w.heap.size,3,none⟩=some (.int .i64 v1.d):=hb5.cell 3
    have s4:W5.cell? ⟨w.heap.size,4,none⟩=some (.int .i64 v1.e):=hb5.cell 4
    exact bodyPost_ret (v:=v1.val) (by simp [results,Tryz.results85,go_sem,s0,s1,s2,s3,s4]) rfl ⟨by rw [HV1.out],below_tch HR.out.bel hT5 (Nat.le_refl _) HR.out.bel.size⟩
end Go.Proofs.YtiplgdkpnhamaaaGreatDoor.Tv
namespace Go.Proofs.YtiplgdkpnhamaaaGreatDoor.Tv
open Go.RowKit
theorem put_self {α:Type} (f:Nat→α) (i:Nat):put f i (f i)=f:=by funext k;by_cases c:k=i <;> simp [put,c]
theorem begin_hs (d:DRep):(beginD d).hs=d.hs:=by unfold beginD;split <;> rfl
theorem does_hs (d:DRep) (tx:Int) (p:ROp):(doesD d tx p).hs=d.hs:=by
 unfold doesD
 split
 ·rfl
 ·split <;> rfl
def commitT (ts:List RTx) (i:Nat) (d:DRep) (tx:Int):List RTx:=
 match opnAt d tx with
 | none=>ts
 | some t=>if t.ops.length=0 then ts else ts ++ [done i d t]
section
variable {n:Nat} {w:World} {o:Nat→Tag} {T:Nat→Tag} {B:Nat→Nat} {ts:List RTx} {D:Nat→DRep} {X:Nat→DX} {i:Nat}
theorem Net.room (h:Net n w o T B ts D X) (hi:i<n):Room (D i):=by
 refine ⟨h.len hi,fun j hj=>?_⟩
 have hv:=(h.pr i hi).hist.2.1
 have hj':j<(visOf n (D i).hs).length:=by rw [← hv];exact hj
 have hjn:j<n:=by rwa [visOf_len] at hj'
 have e:(D i).vis[j]=(visOf n (D i).hs)[j]:=by simp only [hv]
 have h1:=visOf_get (hs:=(D i).hs) hjn
 rw [List.getD_eq_getElem?_getD,List.getElem?_eq_getElem hj'] at h1
 have h2:(visOf n (D i).hs)[j]=cntR (D i).hs j:=h1
 have:=cntR_le (D i).hs j
 have:=h.len hi
 rw [e,h2];omega
theorem Net.calm (h:Net n w o T B ts D X) (hi:i<n) {d':DRep} {w':World} {o':Nat→Tag} (hp:PR (X i) w' o' (T i) (B i) n i d') (ht:TouchT (·=T i) w o w' o') (he:d'.hs=(D i).hs):Net n w' o' T B ts (put D i d') X∧TouchT (grp n T) w o w' o':=by
 have:=h.still hi hp ht he rfl
 rw [put_self] at this
 exact ⟨this,touch_grp ht hi⟩
theorem Net.begins (h:Net n w o T B ts D X) (hi:i<n):Calls Tryz.prog 27 #[ptr (B i)] w fun e w'=>e=.returned (beginAns (D i))∧∃ o',Net n w' o' T B ts (put D i (beginD (D i))) X∧TouchT (grp n T) w o w' o':=by
 refine ((papi X).begins w o (T i) (B i) n i (D i) (h.pr i hi) (h.room hi)).mono ?_
 rintro e w' ⟨rfl,o',a,c⟩
 exact ⟨rfl,o',h.calm hi a c (begin_hs _)⟩
theorem Net.add (h:Net n w o T B ts D X) (hi:i<n) (tx:Int) (p:ROp) (hk:p.kind=1) (hs:p.key.size≤maxLen):Calls Tryz.prog 28 #[ptr (B i),.int .i64 tx,.string p.key,.int .i64 p.amount] w fun e w'=>e=.returned (.int .i64 (doesErr (opnAt (D i) tx) p))∧∃ o',Net n w' o' T B ts (put D i (doesD (D i) tx p)) X∧TouchT (grp n T) w o w' o':=by
 refine ((papi X).add w o (T i) (B i) n i (D i) tx p (h.pr i hi) (h.room hi) hk hs).mono ?_
 rintro e w' ⟨rfl,o',a,c⟩
 exact ⟨rfl,o',h.calm hi a c (does_hs _ _ _)⟩
theorem Net.write (h:Net n w o T B ts D X) (hi:i<n) (tx:Int) (p:ROp) (hk:p.kind=2) (hs:p.key.size≤maxLen) (hv:p.value.size≤maxLen):Calls Tryz.prog 30 #[ptr (B i),.int .i64 tx,.string p.key,.string p.value] w fun e w'=>e=.returned (.int .i64 (doesErr (opnAt (D i) tx) p))∧∃ o',Net n w' o' T B ts (put D i (doesD (D i) tx p)) X∧TouchT (grp n T) w o w' o':=by
 refine ((papi X).write w o (T i) (B i) n i (D i) tx p (h.pr i hi) (h.room hi) hk hs hv).mono ?_
 rintro e w' ⟨rfl,o',a,c⟩
 exact ⟨rfl,o',h.calm hi a c (does_hs _ _ _)⟩
theorem Net.insert (h:Net n w o T B ts D X) (hi:i<n) (tx:Int) (p:ROp) (hk:p.kind=3) (hs:p.key.size≤maxLen) (hv:p.value.size≤maxLen):Calls Tryz.prog 38 #[ptr (B i),.int .i64 tx,.string p.key,.string p.value] w fun e w'=>e=.returned (.int .i64 (doesErr (opnAt (D i) tx) p))∧∃ o',Net n w' o' T B ts (put D i (doesD (D i) tx p)) X∧TouchT (grp n T) w o w' o':=by
 refine ((papi X).insert w o (T i) (B i) n i (D i) tx p (h.pr i hi) (h.room hi) hk hs hv).mono ?_
 rintro e w' ⟨rfl,o',a,c⟩
 exact ⟨rfl,o',h.calm hi a c (does_hs _ _ _)⟩
theorem Net.remove (h:Net n w o T B ts D X) (hi:i<n) (tx:Int) (p:ROp) (hk:p.kind=4) (hs:p.key.size≤maxLen) (hv:p.value.size≤maxLen):Calls Tryz.prog 44 #[ptr (B i),.int .i64 tx,.string p.key,.string p.value] w fun e w'=>e=.returned (.int .i64 (doesErr (opnAt (D i) tx) p))∧∃ o',Net n w' o' T B ts (put D i (doesD (D i) tx p)) X∧TouchT (grp n T) w o w' o':=by
 refine ((papi X).remove w o (T i) (B i) n i (D i) tx p (h.pr i hi) (h.room hi) hk hs hv).mono ?_
 rintro e w' ⟨rfl,o',a,c⟩
 exact ⟨rfl,o',h.calm hi a c (does_hs _ _ _)⟩
theorem Net.commit (h:Net n w o T B ts D X) (hi:i<n) (tx:Int) (hf:ts.length+1≤1100000):Calls Tryz.prog 32 #[ptr (B i),.int .i64 tx] w fun e w'=>e=.returned (commitAns i (D i) tx)∧∃ o',Net n w' o' T B (commitT ts i (D i) tx) (put D i (commitD i (D i) tx)) X∧TouchT (grp n T) w o w' o':=by
 refine ((papi X).commit w o (T i) (B i) n i (D i) tx (h.pr i hi) (h.room hi)).mono ?_
 rintro e w' ⟨rfl,o',a,c⟩
 refine ⟨rfl,o',?_⟩
 unfold commitT
 unfold commitD at a ⊢
 cases e:opnAt (D i) tx with
 | none=>
  simp only [e] at a ⊢
  exact h.calm hi a c rfl
 | some t=>
  simp only [e] at a ⊢
  by_cases c0:t.ops.length=0
  ·rw [if_pos c0] at a ⊢
   rw [if_pos c0]
   exact h.calm hi a c rfl
  ·rw [if_neg c0] at a ⊢
   rw [if_neg c0]
   have:=h.more hi a c rfl rfl rfl hf
   rw [put_self] at this
   exact ⟨this,touch_grp c hi⟩
end
end Go.Proofs.YtiplgdkpnhamaaaGreatDoor.Tv
namespace Go.Proofs.YtiplgdkpnhamaaaGreatDoor.Tv
open Go.RowKit
section
variable {n:Nat} {w:World} {o:Nat→Tag} {T:Nat→Tag} {B:Nat→Nat} {ts:List RTx} {D:Nat→DRep} {X:Nat→DX} {i:Nat}
theorem Net.read (h:Net n w o T B ts D X) (hi:i<n) (tl:Tag) (htl:tl≠T i) (tx:Int) (key:ByteArray) (hs:key.size≤maxLen):Calls Tryz.prog 33 #[ptr (B i),.int .i64 tx,.string key] w fun e w'=>∃ lv o',e=.returned (valAgg (readAns (opnAt (D i) tx) key (D i).hs n).1 lv (readAns (opnAt (D i) tx) key (D i).hs n).2.2) ∧
  Net n w' o' T B ts D X∧TouchT (grp n T) w o w' o'∧Pc w' o' tl 9 1 lv (readAns (opnAt (D i) tx) key (D i).hs n).2.1.length (strs (readAns (opnAt (D i) tx) key (D i).hs n).2.1):=by
 refine ((papi X).read w o (T i) tl (B i) n i (D i) tx key (h.pr i hi) (h.room hi) htl hs).mono ?_
 rintro e w' ⟨lv,o',rfl,a,c,p⟩
 obtain ⟨h1,h2⟩:=h.calm hi a c rfl
 rw [put_self] at h1
 exact ⟨lv,o',rfl,h1,h2,p⟩
theorem Net.all (h:Net n w o T B ts D X) (hi:i<n) (tl tm:Tag) (h1:tl≠T i) (h2:tm≠T i) (h3:tm≠tl) (hf:freeSlot (D i).opn<6):Calls Tryz.prog 24 #[bptr (B i)] w fun e w'=>∃ lv o' xs,e=.returned (.tuple #[lv,.bool true])∧Net n w' o' T B ts D X∧TouchT (grp n T) w o w' o'∧ValsX w' o' tl tm lv (allV n (D i).hs) xs:=by
 refine (all_any tl tm (h.pr i hi) (h.room hi) hf h1 h2 h3).mono ?_
 rintro e w' ⟨lv,o',rfl,a,c,xs,v⟩
 obtain ⟨k1,k2⟩:=h.calm hi a c rfl
 rw [put_self] at k1
 exact ⟨lv,o',xs,rfl,k1,k2,v⟩
end
end Go.Proofs.YtiplgdkpnhamaaaGreatDoor.Tv
namespace Go.Proofs.YtiplgdkpnhamaaaGreatDoor.Tv
open Go.RowKit
def stD (n:Nat) (hs:List RTx):Option (List ROp)→DRep
 | none=>⟨hs,visOf n hs,fun _=>none⟩
 | some ops=>⟨hs,visOf n hs,fun j=>if j=0 then some ⟨0,0,visOf n hs,ops⟩ else none⟩
def mkT (n i:Nat) (hs:List RTx) (ops:List ROp):RTx:=⟨i,(cntR hs i:Int)+1,visOf n hs,ops⟩
theorem stD_hs (n:Nat) (hs:List RTx) (x:Option (List ROp)):(stD n hs x).hs=hs:=by cases x <;> rfl
theorem stD_vis (n:Nat) (hs:List RTx) (x:Option (List ROp)):(stD n hs x).vis=visOf n hs:=by cases x <;> rfl
theorem stD_new (n:Nat):newD n=stD n [] none:=by
 unfold newD stD
 congr 1
 refine List.ext_getElem (by simp [visOf]) fun j h1 h2=>?_
 simp [visOf,cntR]
theorem free_new:freeSlot (fun _=>none)=0:=by kernel_rfl
theorem stD_begin (n:Nat) (hs:List RTx):beginD (stD n hs none)=stD n hs (some [])∧beginAns (stD n hs none)=.tuple #[.int .i64 0,.int .i64 0]:=by
 constructor
 ·show beginD ⟨hs,visOf n hs,fun _=>none⟩=_
  unfold beginD
  simp only [free_new]
  rfl
 ·show beginAns ⟨hs,visOf n hs,fun _=>none⟩=_
  unfold beginAns
  simp only [free_new]
  rfl
theorem stD_opn (n:Nat) (hs:List RTx) (ops:List ROp):opnAt (stD n hs (some ops)) 0=some ⟨0,0,visOf n hs,ops⟩:=rfl
theorem stD_does {n:Nat} {hs:List RTx} {ops:List ROp} {p:ROp} (h:doesErr (some ⟨0,0,visOf n hs,ops⟩) p=0):doesD (stD n hs (some ops)) 0 p=stD n hs (some (ops ++ [p])):=by
 unfold doesD
 rw [stD_opn]
 simp only [h,if_true]
 unfold stD
 congr 1
 funext j
 by_cases c:j=0 <;> simp [setSlot,c]
theorem stD_commit {n i:Nat} {hs:List RTx} {ops:List ROp} (hi:i<n) (ho:0<ops.length):commitD i (stD n hs (some ops)) 0=stD n (hs ++ [mkT n i hs ops]) none∧commitAns i (stD n hs (some ops)) 0=.tuple #[.agg #[.int .i64 i,.int .i64 ((cntR hs i:Int)+1)],.int .i64 0]∧∀ ts,commitT ts i (stD n hs (some ops)) 0=ts ++ [mkT n i hs ops]:=by
 have e1:done i (stD n hs (some ops)) ⟨0,0,visOf n hs,ops⟩=mkT n i hs ops:=by
  unfold done mkT
  rw [stD_vis,visOf_get hi]
 have e2:(visOf n hs).set i ((visOf n hs).getD i 0+1)=visOf n (hs ++ [mkT n i hs ops]):=by
  rw [visOf_snoc (u:=mkT n i hs ops) (Int.natCast_nonneg i) (Int.ofNat_lt.2 hi)];rfl
 refine ⟨?_,?_,fun ts=>?_⟩
 ·unfold commitD
  rw [stD_opn]
  simp only [if_neg (Nat.ne_of_gt ho),e1,stD_hs,stD_vis]
  rw [e2]
  show _=(⟨_,_,_⟩:DRep)
  congr 1
  funext j
  by_cases c:j=0 <;> simp [setSlot,stD,c]
 ·unfold commitAns
  rw [stD_opn]
  simp only [if_neg (Nat.ne_of_gt ho),stD_vis]
  rw [visOf_get hi]
 ·unfold commitT
  rw [stD_opn]
  simp only [if_neg (Nat.ne_of_gt ho),e1]
theorem stD_show {n:Nat} {hs:List RTx} {u:RTx} (h0:0≤u.rep) (h1:u.rep<n):showD (stD n hs none) u=stD n (hs ++ [u]) none:=by
 unfold showD
 rw [stD_hs,stD_vis,← visOf_snoc h0 h1];rfl
structure Gn (n:Nat) (w:World) (o:Nat→Tag) (T:Nat→Tag) (B:Nat→Nat) (ts:List RTx) (H:Nat→List RTx) (O:Nat→Option (List ROp)):Prop where
 ex:∃ X,Net n w o T B ts (fun i=>stD n (H i) (O i)) X∧∀ k,(X k).gone=newX.gone
theorem put_st (n:Nat) (H:Nat→List RTx) (O:Nat→Option (List ROp)) (i:Nat) (hs:List RTx) (x:Option (List ROp)):put (fun i=>stD n (H i) (O i)) i (stD n hs x)=fun j=>stD n (put H i hs j) (put O i x j):=by
 funext j
 by_cases c:j=i
 ·subst c;rw [put_same,put_same,put_same]
 ·rw [put_other c,put_other c,put_other c]
section
variable {n:Nat} {w w':World} {o o':Nat→Tag} {T:Nat→Tag} {B:Nat→Nat} {ts:List RTx} {H:Nat→List RTx} {O:Nat→Option (List ROp)} {i:Nat}
theorem Gn.move (h:Gn n w o T B ts H O) (hm:∀ q,q<w.heap.size→(q<6∨grp n T (o q))→w'.heap[q]? = w.heap[q]?∧o' q=o q):Gn n w' o' T B ts H O:=by
 obtain ⟨X,h1,h2⟩:=h.ex
 exact ⟨X,h1.move hm,h2⟩
theorem Gn.beside {A:Tag→Prop} (h:Gn n w o T B ts H O) (k:TouchT A w o w' o') (h1:∀ i,i<n→¬ A (T i)) (h2:∀ q,q<6→¬ A (o q)):Gn n w' o' T B ts H O:=by
 obtain ⟨X,a,b⟩:=h.ex
 exact ⟨X,a.beside k h1 h2,b⟩
theorem Gn.histAt (h:Gn n w o T B ts H O) (hi:i<n):HistG n (H i)∧∀ u,u ∈ H i→u ∈ ts:=by
 obtain ⟨X,a,b⟩:=h.ex
 have h1:=(a.pr i hi).hist.1
 have h2:=a.sub i hi
 simp only [stD_hs] at h1 h2
 exact ⟨h1,h2⟩
theorem MadeAt.gn (h:MadeAt n n w o T B) (hn:n≤5):Gn n w o T B [] (fun _=>[]) (fun _=>none):=by
 have:=h.net hn
 refine ⟨_,?_,fun k=>rfl⟩
 rw [stD_new] at this
 exact this
theorem Gn.begins (h:Gn n w o T B ts H O) (hi:i<n) (hO:O i=none):Calls Tryz.prog 27 #[bptr (B i)] w fun e w'=>e=.returned (.tuple #[.int .i64 0,.int .i64 0])∧∃ o',Gn n w' o' T B ts H (put O i (some []))∧TouchT (grp n T) w o w' o':=by
 obtain ⟨X,a,b⟩:=h.ex
 refine (a.begins hi).mono ?_
 rintro e w' ⟨rfl,o',h1,h2⟩
 simp only [hO] at h1
 rw [(stD_begin n (H i)).1,put_st,put_self] at h1
 simp only [hO]
 exact ⟨by rw [(stD_begin n (H i)).2],o',⟨X,h1,b⟩,h2⟩
theorem gn_does {ops:List ROp} (hO:O i=some ops) {p:ROp} (he:doesErr (some ⟨0,0,visOf n (H i),ops⟩) p=0) {e:Ending} {X:Nat→DX} (b:∀ k,(X k).gone=newX.gone) (h1:e=.returned (.int .i64 (doesErr (opnAt (stD n (H i) (O i)) 0) p))∧∃ o',Net n w' o' T B ts (put (fun i=>stD n (H i) (O i)) i (doesD (stD n (H i) (O i)) 0 p)) X∧TouchT (grp n T) w o w' o'):e=.returned (.int .i64 0)∧∃ o',Gn n w' o' T B ts H (put O i (some (ops ++ [p])))∧TouchT (grp n T) w o w' o':=by
 obtain ⟨rfl,o',h1,h2⟩:=h1
 rw [hO] at h1 ⊢
 rw [stD_does he,put_st,put_self] at h1
 rw [stD_opn,he]
 exact ⟨rfl,o',⟨X,h1,b⟩,h2⟩
theorem Gn.insert (h:Gn n w o T B ts H O) (hi:i<n) {ops:List ROp} (hO:O i=some ops) (p:ROp) (hk:p.kind=3) (hs:p.key.size≤maxLen) (hv:p.value.size≤maxLen) (he:doesErr (some ⟨0,0,visOf n (H i),ops⟩) p=0):Calls Tryz.prog 38 #[bptr (B i),.int .i64 0,.string p.key,.string p.value] w fun e w'=>e=.returned (.int .i64 0)∧∃ o',Gn n w' o' T B ts H (put O i (some (ops ++ [p])))∧TouchT (grp n T) w o w' o':=by
 obtain ⟨X,a,b⟩:=h.ex
 exact (a.insert hi 0 p hk hs hv).mono fun e w' h1=>gn_does hO he b h1
theorem Gn.commit (h:Gn n w o T B ts H O) (hi:i<n) {ops:List ROp} (hO:O i=some ops) (ho:0<ops.length) (hf:ts.length+1≤1100000):Calls Tryz.prog 32 #[bptr (B i),.int .i64 0] w fun e w'=>e=.returned (.tuple #[.agg #[.int .i64 i,.int .i64 ((cntR (H i) i:Int)+1)],.int .i64 0])∧∃ o',Gn n w' o' T B (ts ++ [mkT n i (H i) ops]) (put H i (H i ++ [mkT n i (H i) ops])) (put O i none)∧TouchT (grp n T) w o w' o':=by
 obtain ⟨X,a,b⟩:=h.ex
 refine (a.commit hi 0 hf).mono ?_
 rintro e w' ⟨rfl,o',h1,h2⟩
 simp only [hO] at h1
 obtain ⟨e1,e2,e3⟩:=stD_commit (hs:=H i) hi ho
 rw [e1,e3,put_st] at h1
 simp only [hO]
 exact ⟨by rw [e2],o',⟨X,h1,b⟩,h2⟩
theorem Gn.read (h:Gn n w o T B ts H O) (hi:i<n) {ops:List ROp} (hO:O i=some ops) (tl:Tag) (htl:tl≠T i) (key:ByteArray) (hs:key.size≤maxLen) {s:Int} {l:List ByteArray} {er:Int} (he:readAns (some ⟨0,0,visOf n (H i),ops⟩) key (H i) n=(s,l,er)):Calls Tryz.prog 33 #[bptr (B i),.int .i64 0,.string key] w fun e w'=>∃ lv o',e=.returned (valAgg s lv er)∧Gn n w' o' T B ts H O∧TouchT (grp n T) w o w' o'∧Pc w' o' tl 9 1 lv l.length (strs l):=by
 obtain ⟨X,a,b⟩:=h.ex
 refine (a.read hi tl htl 0 key hs).mono ?_
 rintro e w' ⟨lv,o',rfl,h1,h2,h3⟩
 simp only [hO,stD_hs,stD_opn,he] at h3 ⊢
 exact ⟨lv,o',rfl,⟨X,h1,b⟩,h2,h3⟩
theorem RecD.st {n:Nat} {hs us:List RTx} {d':DRep} (h:RecD (stD n hs none) us d') (hv:d'.vis=visOf n d'.hs):d'=stD n d'.hs none:=by
 have:=h.more.2.1
 cases d' with
 | mk a b c=>
  simp only at this hv
  subst hv this
  rfl
theorem Gn.tells (h:Gn n w o T B ts H O) {a b:Nat} (ha:a<n) (hb:b<n) (hO:O b=none):Calls Tryz.prog 39 #[bptr (B a),bptr (B b)] w fun e w'=>e=.returned (.bool true)∧∃ o' hs,Gn n w' o' T B ts (put H b hs) O∧TouchT (grp n T) w o w' o'∧RecD (stD n (H b) none) (beyondL (H a) newX (vecOf (visOf n (H b)))) (stD n hs none):=by
 obtain ⟨X,k1,k2⟩:=h.ex
 refine (tells_any k1 ha hb).mono ?_
 rintro e w' ⟨rfl,o',d',X',h1,h2,h3,h4,-⟩
 simp only [stD_hs,hO] at h3
 have hp:=(h1.pr b hb).hist.2.1
 rw [put_same] at hp
 have hd:=h3.st hp
 rw [bey_gone (k2 a)] at h3
 rw [hd,put_st] at h1
 rw [hd] at h3
 have e:put O b none=O:=by rw [← hO,put_self]
 rw [e] at h1
 exact ⟨rfl,o',d'.hs,⟨X',h1,fun k=>(h4 k).trans (k2 k)⟩,h2,h3⟩
theorem Gn.tells1 (h:Gn n w o T B ts H O) {a b:Nat} (ha:a<n) (hb:b<n) (hO:O b=none) {u:RTx} (hu:u ∈ H a) (hg:wGo n (H a) (H b) u=true):Calls Tryz.prog 39 #[bptr (B a),bptr (B b)] w fun e w'=>e=.returned (.bool true)∧∃ o',Gn n w' o' T B ts (put H b (H b ++ [u])) O∧TouchT (grp n T) w o w' o':=by
 refine (h.tells ha hb hO).mono ?_
 rintro e w' ⟨rfl,o',hs,h1,h2,h3⟩
 have hH:=(h.histAt ha).1
 have:=wGo_show hg hH hu (x:=newX) rfl (stD_vis n (H b) none) h3
 obtain ⟨j,hj,e⟩:=List.getElem_of_mem hu
 have hn:=hH.tx j hj
 rw [e] at hn
 rw [stD_show hn.r0 hn.rn] at this
 have e2:hs=H b ++ [u]:=by
  have:=congrArg DRep.hs this
  rwa [stD_hs,stD_hs] at this
 rw [e2] at h1
 exact ⟨rfl,o',h1,h2⟩
end
end Go.Proofs.YtiplgdkpnhamaaaGreatDoor.Tv
namespace Go.Proofs.YtiplgdkpnhamaaaGreatDoor.Tv
open Go.RowKit
def heldN (hs:List RTx) (x:DX):Nat→Nat
 | 0=>0
 | r+1=>heldN hs x r+(heldOf hs r (x.gone r)).length
theorem heldN_few (hs:List RTx) (x:DX):∀ r,heldN hs x r≤r * hs.length
 | 0=>by simp [heldN]
 | r+1=>by
  have h1:=heldN_few hs x r
  have h2:=held_few hs r (x.gone r)
  unfold heldN
  rw [Nat.add_mul]
  omega
set_option maxRecDepth 100000 in
set_option maxHeartbeats 4000000 in
theorem count_any {xq:DX} {w:World} {p:Nat→Own} {b n i:Nat} {d:DRep} {sb:Nat} {st:St} {sl tbs mbs:Nat→Nat} {hv kn:List Value} (h:RepP xq w p b n i d sb st sl tbs mbs hv kn) (hR:d.hs.length≤1100000) :
  Calls Tryz.prog 83 #[.pointer (some ⟨b,3,none⟩)] w fun e w'=>e=.returned (.int .i64 (heldN d.hs xq 5))∧w'=w:=by
 obtain ⟨v0,v1,v2,v3,v4,hve⟩:∃ v0 v1 v2 v3 v4,hv=[v0,v1,v2,v3,v4]:=by
  have:=h.hlen
  match hv,this with
  | [a,b,c,d,e],_=>exact ⟨a,b,c,d,e,rfl⟩
 have ch:∀ k (hk:k<5),w.cell? ⟨b,3+k,none⟩=hv[k]?:=fun k hk=>by rw [h.blk.blk.cell (3+k),repCells_hv h.hlen k hk]
 rw [hve] at ch
 have c0:w.cell? ⟨b,3,none⟩=some v0:=ch 0 (by omega)
 have c1:w.cell? ⟨b,4,none⟩=some v1:=ch 1 (by omega)
 have c2:w.cell? ⟨b,5,none⟩=some v2:=ch 2 (by omega)
 have c3:w.cell? ⟨b,6,none⟩=some v3:=ch 3 (by omega)
 have c4:w.cell? ⟨b,7,none⟩=some v4:=ch 4 (by omega)
 have hlb:=h.blk.blk.lt
 have HX:=hide (idxH hv v0 v1 v2 v3 v4 hve)
 have HL:Hid (∀ r (hr:r<hv.length),∃ ao cp,hv[r]=.slice ao (heldOf d.hs r (xq.gone r)).length cp):=fun r hr=>by
  obtain ⟨ys,y1,y2,y3⟩:=(h.held r hr).ex
  have hyl:ys.length=(heldOf d.hs r (xq.gone r)).length:=by have:=congrArg List.length y1;simpa using this
  obtain ⟨ao,cp,e,-⟩:=Row.shape y2.row
  exact ⟨ao,cp,by rw [e,hyl]⟩
 have HLn:Hid (hv.length=5):=h.hlen
 have HF:Hid (∀ r,r≤5→heldN d.hs xq r≤5500000):=fun r hr=>by
  have h1:=heldN_few d.hs xq r
  have h2:=Nat.mul_le_mul hr hR
  omega
 have HG:Hid (∀ r,(heldOf d.hs r (xq.gone r)).length≤1100000):=fun r=>Nat.le_trans (held_few _ _ _) hR
 clear h hR ch
 go_enter Tryz.func83,Tryz.ntmps83
 go_wp2_with fail
 clear c0 c1 c2 c3 c4 hlb
 go_loopw [3,10] (fun cv rv wr=>∃ r:Nat,r≤5∧rv=.int .i64 r∧cv=.int .i64 (heldN d.hs xq r)∧wr=w) (fun _ rv _=>5 - (intOf rv).toNat)
 case atStart=>exact ⟨0,Nat.zero_le _,rfl,rfl,rfl⟩
 case round=>
  obtain ⟨r,hr5,rfl,rfl,rfl⟩:=hrel
  by_cases hr:r<5
  ·have hrl:r<hv.length:=by rw [HLn.out];exact hr
   have hix:=HX.out r hrl
   obtain ⟨ao,cp,e⟩:=HL.out r hrl
   rw [e] at hix
   have HN:Hid (heldN d.hs xq (r+1)=heldN d.hs xq r+(heldOf d.hs r (xq.gone r)).length):=rfl
   have hb1:=HF.out r hr5
   have hb2:=HG.out r
   generalize (heldOf d.hs r (xq.gone r)).length=m at hix HN hb2
   generalize heldN d.hs xq r=k at HN hb1
   go_wp2_with fail
   exact ⟨⟨r+1,by omega,by go_num,by rw [HN.out];go_num,trivial⟩,by simp [intOf];omega⟩
  ·have hr':r=5:=by omega
   subst hr'
   go_wp2_with fail
   go_ret
   exact ⟨rfl,rfl⟩
set_option maxRecDepth 100000 in
set_option maxHeartbeats 4000000 in
theorem held_any {xq:DX} {w:World} {p:Nat→Own} {b n i:Nat} {d:DRep} (h:RepIn xq w p b n i d) (hR:d.hs.length≤1100000) :
  Calls Tryz.prog 46 #[bptr b] w fun e w'=>e=.returned (.int .i64 (heldN d.hs xq 5))∧w'=w:=by
 obtain ⟨sb,st,sl,tbs,mbs,hv,kn,h⟩:=h
 have hlb:=h.blk.blk.lt
 have HC:=hide (count_any h hR)
 generalize heldN d.hs xq 5=k at HC
 clear h hR
 go_enter Tryz.func46,Tryz.ntmps46
 go_wp2_with (go_at_call 83;refine HC.out.mono ?_;rintro e w1 ⟨rfl,rfl⟩)
 go_ret
 exact ⟨rfl,rfl⟩
end Go.Proofs.YtiplgdkpnhamaaaGreatDoor.Tv
namespace Go.Proofs.YtiplgdkpnhamaaaGreatDoor.Tv
open Go.RowKit
structure Nk (n:Nat) (w:World) (o:Nat→Tag) (T:Nat→Tag) (B:Nat→Nat) (ts:List RTx) (D:Nat→DRep) (X:Nat→DX):Prop where
 net:Net n w o T B ts D X
 kn:∀ i k r:Nat,i<n→k<n→((X i).kn k).get r≤(cntR (D k).hs r:Int)
def Past (hs:List RTx) (d:DRep):Prop:=∀ r,cntR hs r≤cntR d.hs r
theorem Past.refl (d:DRep):Past d.hs d:=fun _=>Nat.le_refl _
theorem join_le {v u:Vec} {r:Nat} {m:Int} (h1:v.get r≤m) (h2:u.get r≤m):(v.join u).get r≤m:=by
 by_cases c:r<5
 ·rw [join_get _ _ c];omega
 ·have e:∀ u:Vec,u.get (r:Int)=0:=fun u=>by
   unfold Vec.get
   rw [Int.toNat_natCast]
   exact getD_out (by show 5≤r;omega)
  rw [e] at h1 ⊢
  exact h1
theorem vis_le {n:Nat} (hn:n≤5) (hs:List RTx) (r:Nat):(vecOf (visOf n hs)).get r≤(cntR hs r:Int):=by
 rw [vecOf_get (by rw [visOf_len];exact hn),Int.toNat_natCast]
 by_cases c:r<n
 ·rw [visOf_get c];omega
 ·rw [visOf_out (by omega)];omega
theorem learn_kn {x:DX} {b k r:Nat} {v:Vec} {m:Int} (h1:(x.kn k).get r≤m) (h2:k=b→v.get r≤m):((learnX x b v).kn k).get r≤m:=by
 show ((latUpd x.kn b ((x.kn b).join v)) k).get r≤m
 unfold latUpd
 by_cases c:k=b
 ·subst c
  rw [if_pos rfl]
  exact join_le h1 (h2 rfl)
 ·rw [if_neg c];exact h1
section
variable {n:Nat} {w w':World} {o o':Nat→Tag} {T:Nat→Tag} {B:Nat→Nat} {ts ts':List RTx} {D:Nat→DRep} {X:Nat→DX} {i:Nat}
theorem Nk.n5 (h:Nk n w o T B ts D X):n≤5:=h.net.hist.n5
theorem Nk.grown (h:Nk n w o T B ts D X) {d:DRep} (hm:Past (D i).hs d) (h1:Net n w' o' T B ts' (put D i d) X):Nk n w' o' T B ts' (put D i d) X:=by
 refine ⟨h1,fun a k r ha hk=>?_⟩
 have:=h.kn a k r ha hk
 by_cases c:k=i
 ·subst c;rw [put_same];have:=hm r;omega
 ·rw [put_other c];exact this
theorem Nk.stay (h:Nk n w o T B ts D X) {d:DRep} (he:d.hs=(D i).hs) (h1:Net n w' o' T B ts' (put D i d) X):Nk n w' o' T B ts' (put D i d) X:=h.grown (fun r=>by rw [he];exact Nat.le_refl _) h1
theorem Nk.below (h:Nk n w o T B ts D X) (hb:Below w.heap.size w w'):Nk n w' o T B ts D X:=⟨h.net.below hb,h.kn⟩
theorem Nk.move (h:Nk n w o T B ts D X) (hm:∀ q,q<w.heap.size→(q<6∨grp n T (o q))→w'.heap[q]? = w.heap[q]?∧o' q=o q):Nk n w' o' T B ts D X:=⟨h.net.move hm,h.kn⟩
theorem Nk.beside {A:Tag→Prop} (h:Nk n w o T B ts D X) (k:TouchT A w o w' o') (h1:∀ i,i<n→¬ A (T i)) (h2:∀ q,q<6→¬ A (o q)):Nk n w' o' T B ts D X:=⟨h.net.beside k h1 h2,h.kn⟩
theorem Nk.begins (h:Nk n w o T B ts D X) (hi:i<n):Calls Tryz.prog 27 #[ptr (B i)] w fun e w'=>e=.returned (beginAns (D i))∧∃ o',Nk n w' o' T B ts (put D i (beginD (D i))) X∧TouchT (grp n T) w o w' o':=
 (h.net.begins hi).mono fun _ _ ⟨e,o',h1,h2⟩=>⟨e,o',h.stay (begin_hs _) h1,h2⟩
theorem Nk.add (h:Nk n w o T B ts D X) (hi:i<n) (tx:Int) (p:ROp) (hk:p.kind=1) (hs:p.key.size≤maxLen):Calls Tryz.prog 28 #[ptr (B i),.int .i64 tx,.string p.key,.int .i64 p.amount] w fun e w'=>e=.returned (.int .i64 (doesErr (opnAt (D i) tx) p))∧∃ o',Nk n w' o' T B ts (put D i (doesD (D i) tx p)) X∧TouchT (grp n T) w o w' o':=
 (h.net.add hi tx p hk hs).mono fun _ _ ⟨e,o',h1,h2⟩=>⟨e,o',h.stay (does_hs _ _ _) h1,h2⟩
theorem Nk.write (h:Nk n w o T B ts D X) (hi:i<n) (tx:Int) (p:ROp) (hk:p.kind=2) (hs:p.key.size≤maxLen) (hv:p.value.size≤maxLen):Calls Tryz.prog 30 #[ptr (B i),.int .i64 tx,.string p.key,.string p.value] w fun e w'=>e=.returned (.int .i64 (doesErr (opnAt (D i) tx) p))∧∃ o',Nk n w' o' T B ts (put D i (doesD (D i) tx p)) X∧TouchT (grp n T) w o w' o':=
 (h.net.write hi tx p hk hs hv).mono fun _ _ ⟨e,o',h1,h2⟩=>⟨e,o',h.stay (does_hs _ _ _) h1,h2⟩
theorem Nk.insert (h:Nk n w o T B ts D X) (hi:i<n) (tx:Int) (p:ROp) (hk:p.kind=3) (hs:p.key.size≤maxLen) (hv:p.value.size≤maxLen):Calls Tryz.prog 38 #[ptr (B i),.int .i64 tx,.string p.key,.string p.value] w fun e w'=>e=.returned (.int .i64 (doesErr (opnAt (D i) tx) p))∧∃ o',Nk n w' o' T B ts (put D i (doesD (D i) tx p)) X∧TouchT (grp n T) w o w' o':=
 (h.net.insert hi tx p hk hs hv).mono fun _ _ ⟨e,o',h1,h2⟩=>⟨e,o',h.stay (does_hs _ _ _) h1,h2⟩
theorem Nk.remove (h:Nk n w o T B ts D X) (hi:i<n) (tx:Int) (p:ROp) (hk:p.kind=4) (hs:p.key.size≤maxLen) (hv:p.value.size≤maxLen):Calls Tryz.prog 44 #[ptr (B i),.int .i64 tx,.string p.key,.string p.value] w fun e w'=>e=.returned (.int .i64 (doesErr (opnAt (D i) tx) p))∧∃ o',Nk n w' o' T B ts (put D i (doesD (D i) tx p)) X∧TouchT (grp n T) w o w' o':=
 (h.net.remove hi tx p hk hs hv).mono fun _ _ ⟨e,o',h1,h2⟩=>⟨e,o',h.stay (does_hs _ _ _) h1,h2⟩
theorem commit_past (i:Nat) (d:DRep) (tx:Int):Past d.hs (commitD i d tx):=fun r=>by
 unfold commitD
 split
 ·exact Nat.le_refl _
 ·split
  ·exact Nat.le_refl _
  ·rw [cntR_snoc];omega
theorem Nk.commit (h:Nk n w o T B ts D X) (hi:i<n) (tx:Int) (hf:ts.length+1≤1100000):Calls Tryz.prog 32 #[ptr (B i),.int .i64 tx] w fun e w'=>e=.returned (commitAns i (D i) tx)∧∃ o',Nk n w' o' T B (commitT ts i (D i) tx) (put D i (commitD i (D i) tx)) X∧TouchT (grp n T) w o w' o':=
 (h.net.commit hi tx hf).mono fun _ _ ⟨e,o',h1,h2⟩=>⟨e,o',h.grown (commit_past _ _ _) h1,h2⟩
theorem Nk.all (h:Nk n w o T B ts D X) (hi:i<n) (tl tm:Tag) (h1:tl≠T i) (h2:tm≠T i) (h3:tm≠tl) (hf:freeSlot (D i).opn<6):Calls Tryz.prog 24 #[bptr (B i)] w fun e w'=>∃ lv o' xs,e=.returned (.tuple #[lv,.bool true])∧Nk n w' o' T B ts D X∧TouchT (grp n T) w o w' o'∧ValsX w' o' tl tm lv (allV n (D i).hs) xs:=
 (h.net.all hi tl tm h1 h2 h3 hf).mono fun _ _ ⟨lv,o',xs,e,h1,h2,h3⟩=>⟨lv,o',xs,e,⟨h1,h.kn⟩,h2,h3⟩
theorem Nk.summary (h:Nk n w o T B ts D X) {b:Nat} (hb:b<n):Calls Tryz.prog 37 #[bptr (B b)] w fun e w'=>e=.returned (.string ⟨(sumT n b (visOf n (D b).hs)).toArray⟩)∧Nk n w' o T B ts D X∧TouchT (grp n T) w o w' o:=
 (h.net.summary hb).mono fun _ _ ⟨e,h1,h2⟩=>⟨e,⟨h1,h.kn⟩,h2⟩
theorem Nk.learn (h:Nk n w o T B ts D X) {a b:Nat} {hs:List RTx} (hp:Past hs (D b)):∀ i k r:Nat,i<n→k<n→((put X a (learnX (X a) b (vecOf (visOf n hs))) i).kn k).get r≤(cntR (D k).hs r:Int):=fun i k r hi hk=>by
 have h1:=h.kn i k r hi hk
 by_cases c:i=a
 ·subst c
  rw [put_same]
  refine learn_kn h1 fun e=>?_
  subst e
  have:=vis_le h.n5 hs r
  have:=hp r
  omega
 ·rw [put_other c];exact h1
theorem Nk.answer (h:Nk n w o T B ts D X) {a:Nat} (ha:a<n) {hs:List RTx} (hH:HistG n hs) (hm:∀ u,u ∈ hs→u ∈ ts) {b:Nat} (hb:b<n) (hp:Past hs (D b)):Calls Tryz.prog 40 #[bptr (B a),.string ⟨(sumT n b (visOf n hs)).toArray⟩] w fun e w'=>e=.returned (.tuple #[.string ⟨(ansT n a (vecOf (visOf n (D a).hs)) ((beyondL (D a).hs (X a) (vecOf (visOf n hs))).map trOf)).toArray⟩,.int .i64 0])∧∃ o',Nk n w' o' T B ts D (put X a (learnX (X a) b (vecOf (visOf n hs))))∧TouchT (grp n T) w o w' o':=
 (h.net.answer ha hH hm hb).mono fun _ _ ⟨e,o',h1,h2⟩=>⟨e,o',⟨h1,h.learn hp⟩,h2⟩
theorem Nk.receive (h:Nk n w o T B ts D X) {b:Nat} (hb:b<n) {hs:List RTx} (hH:HistG n hs) (hm:∀ u,u ∈ hs→u ∈ ts) (x:DX) (v:Vec) {a:Nat} (ha:a<n) (hp:Past hs (D a)):Calls Tryz.prog 41 #[bptr (B b),.string ⟨(ansT n a (vecOf (visOf n hs)) ((beyondL hs x v).map trOf)).toArray⟩] w fun e w'=>e=.returned (.int .i64 0)∧∃ o' d',Nk n w' o' T B ts (put D b d') (put X b (learnX (X b) a (vecOf (visOf n hs))))∧TouchT (grp n T) w o w' o'∧RecD (D b) (beyondL hs x v) d':=
 (h.net.receive hb hH hm x v ha).mono fun _ _ ⟨e,o',d',h1,h2,h3⟩=>⟨e,o',d',⟨h1,fun i k r hi hk=>by
  have:=h.learn (a:=b) hp i k r hi hk
  by_cases c:k=b
  ·subst c;rw [put_same];have:=h3.cnt r;omega
  ·rw [put_other c];exact this⟩,h2,h3⟩
theorem Nk.tells (h:Nk n w o T B ts D X) {a b:Nat} (ha:a<n) (hb:b<n):Calls Tryz.prog 39 #[bptr (B a),bptr (B b)] w fun e w'=>e=.returned (.bool true)∧∃ o' d',Nk n w' o' T B ts (put D b d') (tellX n D X a b)∧TouchT (grp n T) w o w' o'∧RecD (D b) (beyondL (D a).hs (X a) (vecOf (visOf n (D b).hs))) d':=
 (tells_any h.net ha hb).mono fun _ _ ⟨e,o',d',X',h1,h2,h3,_,h5⟩=>by
  subst h5
  refine ⟨e,o',d',⟨h1,fun i k r hi hk=>?_⟩,h2,h3⟩
  have g1:=h.learn (a:=a) (b:=b) (Past.refl (D b))
  have g2:((tellX n D X a b i).kn k).get r≤(cntR (D k).hs r:Int):=by
   unfold tellX
   by_cases c:i=b
   ·subst c
    rw [put_same]
    refine learn_kn (g1 i k r hi hk) fun e=>?_
    subst e
    exact vis_le h.n5 _ r
   ·rw [put_other c];exact g1 i k r hi hk
  by_cases c:k=b
  ·subst c;rw [put_same];have:=h3.cnt r;omega
  ·rw [put_other c];exact g2
end
end Go.Proofs.YtiplgdkpnhamaaaGreatDoor.Tv
namespace Go.Proofs.YtiplgdkpnhamaaaGreatDoor.Tv
open Go.RowKit
theorem Tryz.infoPQ:(Tryz.prog.info? 45).map (fun i=>(i.zero,i.size,i.bytes))=some (some (.pointer none),1,8):=by kernel_rfl
def tg1:Nat→Tag:=fun i=>(1,i,0)
def tg2:Nat→Tag:=fun i=>(2,i,0)
def nz:Tag→Prop:=fun t=>t≠(0,0,0)
def rsL (B:Nat→Nat) (j:Nat):List Value:=(List.range j).map fun i=>bptr (B i)
structure GrpIn (w:World) (o:Nat→Tag) (gb:Nat) (rv lv:Value) (B:Nat→Nat) (j:Nat):Prop where
 blk:Bl w o (3,0,0) gb [rv,lv] 43
 row:Pc w o (4,0,0) 45 1 rv j (rsL B j)
section
variable {w w':World} {o o':Nat→Tag} {gb:Nat} {rv lv:Value} {B:Nat→Nat} {j n:Nat}
theorem GrpIn.touch {A:Tag→Prop} (h:GrpIn w o gb rv lv B j) (k:TouchT A w o w' o') (h1:¬ A (3,0,0)) (h2:¬ A (4,0,0)):GrpIn w' o' gb rv lv B j:=⟨h.blk.touch k h1,h.row.touch k h2⟩
theorem rsL_snoc (B:Nat→Nat) (j b:Nat):rsL (put B j b) (j+1)=rsL B j ++ [bptr b]:=by
 unfold rsL
 rw [List.range_succ,List.map_append]
 congr 1
 ·refine List.map_congr_left fun i hi=>?_
  have:=List.mem_range.1 hi
  rw [put_other (by omega)]
 ·simp [put_same]
theorem rsL_get {B:Nat→Nat} {j k:Nat} (h:k<j):(rsL B j)[k]? = some (bptr (B k)):=by simp [rsL,h]
structure MkAt (n j:Nat) (w0 w:World) (o:Nat→Tag) (gb:Nat) (rv:Value) (B:Nat→Nat):Prop where
 made:MadeAt n j w o tg1 B
 grp:GrpIn w o gb rv (.slice none 0 0) B j
 at0:TouchT nz w0 (fun _=>(0,0,0)) w o
 room:6≤w0.heap.size
theorem at0_low {w0:World} (h:TouchT nz w0 (fun _=>(0,0,0)) w o) (hr:6≤w0.heap.size) {q:Nat} (hq:q<6):o q=(0,0,0):=h.same q (by omega)
theorem at0_below {w0:World} (h:TouchT nz w0 (fun _=>(0,0,0)) w o):Below w0.heap.size w0 w:=(h.touch.mono fun _ _ e=>e rfl).below
theorem MkAt.first {w0:World} (ht:Tabs w0):MkAt n 0 w0 (w0.alloc (.cells #[.slice none 0 0,.slice none 0 0] 43)) (upd (fun _=>(0,0,0)) w0.heap.size (3,0,0)) w0.heap.size (.slice none 0 0) (fun _=>0):=by
 have hr:=ht.room
 have hb:Below w0.heap.size w0 (w0.alloc (.cells #[.slice none 0 0,.slice none 0 0] 43)):=(Below.refl _ _).alloc (Nat.le_refl _) _
 refine ⟨⟨fun i k e=>by simpa [tg1] using e,fun i hi=>absurd hi (Nat.not_lt_zero _),ht.later hb,fun q hq i=>?_⟩,⟨?_,⟨World.ownsRow_nil _ _ _ _,fun q hq=>by simp [Value.ownBlock] at hq⟩⟩,⟨Touch.ofBelow hb,fun q hq=>upd_other (by omega)⟩,hr⟩
 ·rw [upd_other (by omega)];simp [tg1]
 ·exact ⟨heap_alloc_new w0 _,upd_same _ _ _⟩
theorem MkAt.next {w0 wr W6 w7:World} {b:Nat} {v7:Value} (h:MkAt n j w0 wr o gb rv B) (hB:Below wr.heap.size wr W6) (hp:PR newX W6 (own2 o wr.heap.size fun _=>tg1 j) (tg1 j) b n j (newD n)) (hrow:w7.ownsRow 0 45 1 v7 (j+1) (rsL B j ++ [bptr b])) (hg:W6.grownBy w7 rv.ownBlock) (hat:v7.ownBlock=rv.ownBlock∨v7.ownBlock=some W6.heap.size):∃ o',MkAt n (j+1) w0 (w7.setCell ⟨gb,0,none⟩ v7) o' gb v7 (put B j b):=by
 have hr:=h.room
 have m6:=h.made.next hB hp
 have b6:Bl W6 (own2 o wr.heap.size fun _=>tg1 j) (3,0,0) gb [rv,.slice none 0 0] 43:=h.grp.blk.move2 fun q hq e=>⟨hB.block q hq,(own2_low hq).trans e⟩
 have r6:Pc W6 (own2 o wr.heap.size fun _=>tg1 j) (4,0,0) 45 1 rv j (rsL B j):=h.grp.row.move2 fun q hq e=>⟨hB.block q hq,(own2_low hq).trans e⟩
 have t6:=h.at0.belowNew hB fun _=>tg1 j
 generalize (own2 o wr.heap.size fun _=>tg1 j)=o6 at *
 have b7:=b6.grew hg r6.tag (by simp)
 have r7:=r6.app hrow hat
 have t7:=t6.grew hg r6.tag (by simp [nz])
 have m7:MadeAt n (j+1) w7 (upd o6 W6.heap.size (4,0,0)) tg1 (put B j b):=m6.move fun q hq e=>⟨hg.block q hq (fun c=>by
  have h1:=r6.tag q c.symm
  rcases e with e | ⟨i,e⟩
  ·rw [at0_low t6 hr e] at h1;simp at h1
  ·rw [e] at h1;simp [tg1] at h1),upd_other (by omega)⟩
 generalize (upd o6 W6.heap.size (4,0,0))=o7 at *
 have hgb:o7 gb=(3,0,0):=b7.tag
 have r8:=r7.set (p:=⟨gb,0,none⟩) hgb (by simp) v7
 rw [← rsL_snoc] at r8
 refine ⟨o7,m7.move fun q hq e=>⟨Below.heap_setCell _ _ _ _ (fun c=>?_),rfl⟩,⟨b7.set 0 v7,r8⟩,t7.set (p:=⟨gb,0,none⟩) (by rw [hgb];simp [nz]) v7,hr⟩
 have c':q=gb:=c
 subst c'
 rcases e with e | ⟨i,e⟩
 ·rw [at0_low t7 hr e] at hgb;simp at hgb
 ·rw [e] at hgb;simp [tg1] at hgb
structure Side (n:Nat) (w0:World) (gb:Nat) (rv:Value) (B:Nat→Nat) (w:World) (o:Nat→Tag):Prop where
 gn:Gn n w o tg1 B [] (fun _=>[]) (fun _=>none)
 grp:GrpIn w o gb rv (.slice none 0 0) B n
 at0:TouchT nz w0 (fun _=>(0,0,0)) w o
 room:6≤w0.heap.size
 tabs:Tabs w
 net:Net n w o tg1 B [] (fun _=>newD n) (fun _=>newX)
theorem MkAt.side {w0:World} (h:MkAt n n w0 w o gb rv B) (hn:n≤5):Side n w0 gb rv B w o:=⟨h.made.gn hn,h.grp,h.at0,h.room,h.made.tabs,h.made.net hn⟩
theorem Side.touch {w0:World} {A:Tag→Prop} (h:Side n w0 gb rv B w o) (k:TouchT A w o w' o') (hA:∀ t,A t→∃ i,t=tg2 i):Side n w0 gb rv B w' o':=by
 have hr:=h.room
 have n1:∀ i,¬ A (tg1 i):=fun i c=>by obtain ⟨x,e⟩:=hA _ c;simp [tg1,tg2] at e
 have n2:¬ A (3,0,0):=fun c=>by obtain ⟨x,e⟩:=hA _ c;simp [tg2] at e
 have n3:¬ A (4,0,0):=fun c=>by obtain ⟨x,e⟩:=hA _ c;simp [tg2] at e
 have n4:∀ q,q<6→¬ A (o q):=fun q hq c=>by rw [at0_low h.at0 hr hq] at c;obtain ⟨x,e⟩:=hA _ c;simp [tg2] at e
 exact ⟨h.gn.beside k (fun i _=>n1 i) n4,h.grp.touch k n2 n3,h.at0.trans (k.mono fun t ht=>by obtain ⟨x,e⟩:=hA _ ht;rw [e];simp [nz,tg2]),hr,h.tabs.kept fun q hq=>k.touch.block q (by have:=h.tabs.room;omega) (n4 q hq),h.net.beside k (fun i _=>n1 i) n4⟩
theorem Side.new {w0:World} (h:Side n w0 gb rv B w o) (hB:Below w.heap.size w w') (t:Tag):Side n w0 gb rv B w' (own2 o w.heap.size fun _=>t):=
 h.touch (A:=fun _=>False) ⟨Touch.ofBelow hB,fun _ hq=>own2_low hq⟩ fun _ c=>c.elim
theorem Side.two {w0:World} (h:Side n w0 gb rv B w o):MadeAt 2 0 w o tg2 (fun _=>0):=
 ⟨fun i k e=>by simpa [tg2] using e,fun i hi=>absurd hi (Nat.not_lt_zero _),h.tabs,fun q hq i=>by rw [at0_low h.at0 h.room hq];simp [tg2]⟩
structure Two (n:Nat) (w0:World) (gb:Nat) (rv:Value) (B B2:Nat→Nat) (ts:List RTx) (H:Nat→List RTx) (O:Nat→Option (List ROp)) (w:World) (o:Nat→Tag):Prop where
 gn:Gn 2 w o tg2 B2 ts H O
 side:Side n w0 gb rv B w o
theorem Two.out {w0:World} {B2:Nat→Nat} {ts ts':List RTx} {H H':Nat→List RTx} {O O':Nat→Option (List ROp)} (h:Two n w0 gb rv B B2 ts H O w o) (h1:Gn 2 w' o' tg2 B2 ts' H' O') (h2:TouchT (grp 2 tg2) w o w' o'):Two n w0 gb rv B B2 ts' H' O' w' o':=
 ⟨h1,h.side.touch h2 fun _ ⟨i,_,e⟩=>⟨i,e⟩⟩
theorem Two.below {w0:World} {B2:Nat→Nat} {ts:List RTx} {H:Nat→List RTx} {O:Nat→Option (List ROp)} (h:Two n w0 gb rv B B2 ts H O w o) (hB:Below w.heap.size w w') (t:Tag):Two n w0 gb rv B B2 ts H O w' (own2 o w.heap.size fun _=>t):=
 ⟨h.gn.move fun q hq _=>⟨hB.block q hq,own2_low hq⟩,h.side.new hB t⟩
end
def MadeEnd (n:Nat) (w:World) (e:Ending) (w':World):Prop:=
 ∃ gb rv B o,e=.returned (bptr gb)∧Gn n w' o tg1 B [] (fun _=>[]) (fun _=>none)∧GrpIn w' o gb rv (.slice none 0 0) B n∧TouchT nz w (fun _=>(0,0,0)) w' o∧Net n w' o tg1 B [] (fun _=>newD n) (fun _=>newX)
end Go.Proofs.YtiplgdkpnhamaaaGreatDoor.Tv
