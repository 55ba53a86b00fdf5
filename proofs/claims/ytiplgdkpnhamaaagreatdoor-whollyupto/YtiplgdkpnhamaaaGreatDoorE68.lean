/- The texts ZL5, QG3, QS1, QV1, QS2, QS3, QS4, QS5, QE1, QE2, QE3, QS6, QP1, QU1, QU2, joined. -/
import Derived.Test.YtiplgdkpnhamaaaGreatDoorE45
import Derived.Test.YtiplgdkpnhamaaaGreatDoorE08
namespace Go.Proofs.YtiplgdkpnhamaaaGreatDoor.Tv
open Go.RowKit
theorem ev_cnt {n:Nat} (hn:n≤5) (x:DX) (i:Nat) (hs:List RTx) (m r:Nat):((evTo x i (vecOf (visOf n hs)) m).get r).toNat≤cntR hs r:=by
 have h1:=(ev_le x i (vecOf (visOf n hs)) r m).1
 have h2:=vis_le hn hs r
 omega
set_option maxRecDepth 100000 in
set_option maxHeartbeats 4000000 in
theorem prune_any {xq:DX} {w:World} {p:Nat→Own} {b n i:Nat} {d:DRep} (h:RepIn xq w p b n i d) (hR:d.hs.length≤1100000) :
  Calls Tryz.prog 47 #[bptr b] w fun e w'=>e=.returned (.int .i64 (goN d.hs xq (evTo xq i (vecOf (visOf n d.hs)) n) 5))∧∃ p',RepIn (goX xq (evTo xq i (vecOf (visOf n d.hs)) n) 5) w' p' b n i d∧QT (fun t=>t=Own.rep) w p w' p':=by
 obtain ⟨sb,st,sl,tbs,mbs,hv,kn,h⟩:=h
 have hn5:=h.ok.hist.n5
 have hlb:=h.blk.blk.lt
 have hev':∀ W,Below w.heap.size w W→Calls Tryz.prog 85 #[bptr b] W fun e w'=>e=.returned (evTo xq i (vecOf (visOf n d.hs)) n).val∧Below w.heap.size w w':=fun W hB=>by
  have a:=everywhere_any (h.below hB)
  rw [h.ok.vis] at a
  exact a.mono fun e w' ⟨h1,h2⟩=>⟨h1,hB.trans (h2.mono hB.size)⟩
 have hlg:∀ w1,Below w.heap.size w w1→Calls Tryz.prog 84 #[.pointer (some ⟨b,3,none⟩),(evTo xq i (vecOf (visOf n d.hs)) n).val] w1 fun e w'=>e=.returned (.int .i64 (goN d.hs xq (evTo xq i (vecOf (visOf n d.hs)) n) 5))∧∃ p',RepIn (goX xq (evTo xq i (vecOf (visOf n d.hs)) n) 5) w' p' b n i d∧QT (fun t=>t=Own.rep) w p w' p':=fun w1 hB=>by
  refine (letgo_any (h.below hB) hR (evTo xq i (vecOf (visOf n d.hs)) n) fun s=>ev_cnt hn5 _ _ _ _ _).mono ?_
  rintro e w' ⟨rfl,p',hv',h1,h2⟩
  exact ⟨rfl,p',⟨sb,st,sl,tbs,mbs,hv',kn,h1⟩,(QT.ofBelow hB).trans h2⟩
 generalize evTo xq i (vecOf (visOf n d.hs)) n=v at *
 generalize goN d.hs xq v 5=gn at *
 have HE:=hide hev'
 have HL:=hide hlg
 clear hev' hlg h hR
 go_enter Tryz.func47,Tryz.ntmps47
 go_upto_region 1 with (fail)
 go_region_with (first | (go_at_call 85;refine (HE.out _ (Below.refl _ _).drew).mono ?_;rintro e w1 ⟨rfl,hB1⟩;have HB1:=hide hB1;clear hB1) | (go_at_call 84;refine (HL.out _ HB1.out).mono ?_;rintro e w2 ⟨rfl,hq2⟩;have HQ2:=hide hq2;clear hq2))
 all_goals go_wp2_with fail
 all_goals go_ret
 all_goals exact ⟨rfl,HQ2.out⟩
theorem prune_pr {x:DX} {w:World} {o:Nat→Tag} {t:Tag} {b n i:Nat} {d:DRep} (h:PR x w o t b n i d) (hR:d.hs.length≤1100000) :
  Calls Tryz.prog 47 #[bptr b] w fun e w'=>e=.returned (.int .i64 (goN d.hs x (evTo x i (vecOf (visOf n d.hs)) n) 5))∧∃ o',PR (goX x (evTo x i (vecOf (visOf n d.hs)) n) 5) w' o' t b n i d∧TouchT (·=t) w o w' o':=by
 obtain ⟨p,h1,h2⟩:=h
 refine (prune_any h2 hR).mono ?_
 rintro e w' ⟨rfl,p',a,c⟩
 exact ⟨rfl,PR.out h1 a (c.mono fun u hu=>by rw [hu];intro e;cases e)⟩
section
variable {n:Nat} {w w':World} {o o':Nat→Tag} {T:Nat→Tag} {B:Nat→Nat} {ts ts':List RTx} {D:Nat→DRep} {X:Nat→DX} {i:Nat}
def pruneX (n:Nat) (D:Nat→DRep) (X:Nat→DX) (i:Nat):DX:=goX (X i) (evTo (X i) i (vecOf (visOf n (D i).hs)) n) 5
theorem Nk.prune (h:Nk n w o T B ts D X) (hi:i<n):Calls Tryz.prog 47 #[bptr (B i)] w fun e w'=>e=.returned (.int .i64 (goN (D i).hs (X i) (evTo (X i) i (vecOf (visOf n (D i).hs)) n) 5))∧∃ o',Nk n w' o' T B ts D (put X i (pruneX n D X i))∧TouchT (grp n T) w o w' o':=by
 refine (prune_pr (h.net.pr i hi) (h.net.len hi)).mono ?_
 rintro e w' ⟨rfl,o',a,c⟩
 refine ⟨rfl,o',?_,touch_grp c hi⟩
 have hN:=h.net.turn hi a c h.net.hist h.net.few (fun _ hu=>hu) (h.net.sub i hi) (h.net.own i hi) (fun _ _ _=>rfl) (fun _=>Nat.le_refl _) (fun k r hk=>by
  rw [put_self]
  show (if r<5 then max ((X i).gone r) _ else (X i).gone r)≤_
  have h1:=h.net.gone i k r hi hk
  have h2:((evTo (X i) i (vecOf (visOf n (D i).hs)) n).get r).toNat≤cntR (D k).hs r:=by
   by_cases c:k=i
   ·subst c;exact ev_cnt h.n5 _ _ _ _ _
   ·have:=(ev_le (X i) i (vecOf (visOf n (D i).hs)) r n).2 k hk c
    have:=h.kn i k r hi hk
    omega
  split <;> omega)
 rw [put_self] at hN
 refine ⟨hN,fun a k r ha hk=>?_⟩
 have:=h.kn a k r ha hk
 by_cases c:a=i
 ·subst c;rw [put_same];exact this
 ·rw [put_other c];exact this
end
end Go.Proofs.YtiplgdkpnhamaaaGreatDoor.Tv
namespace Go.Proofs.YtiplgdkpnhamaaaGreatDoor.Tv
open Go.RowKit
def wHere:ByteArray:=⟨#[104,101,114,101]⟩
def mU:RTx:=mkT 2 0 [] [opIns wHere]
theorem made_does:doesErr (some ⟨0,0,visOf 2 [],[]⟩) (opIns wHere)=0:=by kernel_rfl
theorem made_goes:wGo 2 [mU] [] mU=true:=by kernel_rfl
theorem made_told:readAns (some ⟨0,0,visOf 2 [mU],[]⟩) wS [mU] 2=(0,[wHere],0):=of_decide_eq_true (by kernel_rfl)
theorem fits_in {k n:Nat} (h:k<n) (hn:n≤5):fitsB k n=true:=by simp only [fitsB,decide_eq_true_eq];omega
set_option maxRecDepth 100000 in
set_option maxHeartbeats 4000000 in
theorem made_any {w:World} (ht:Tabs w) (c:Int) (hc:-9223372036854775808≤c) (hc':c≤9223372036854775807) :
  Calls Tryz.prog 20 #[.int .i64 c] w (MadeEnd (2+pickOf c 4) w):=by
 obtain ⟨i0,hi,hz0,hz1,hz2⟩:=info_parts Tryz.infoPQ
 have HI:=hide (⟨hi,hz0,hz1,hz2⟩:_∧_∧_∧_)
 clear hi hz0 hz1 hz2
 have hp:=kpick_any c 4 w (by omega) (by omega) hc hc'
 have hlt:=pickOf_lt c 4 (by omega)
 generalize pickOf c 4=k at hp hlt ⊢
 have H0:=hide (MkAt.first (n:=2+k) ht)
 have HP:=hide hp
 clear hp ht hc hc'
 go_enter Tryz.func20,Tryz.ntmps20
 go_wp2_with (go_at_call 29;refine HP.out.mono ?_;rintro e w1 ⟨rfl,rfl⟩)
 have e2:(2:Int)+(k:Int)=((2+k:Nat):Int):=by omega
 rw [e2]
 clear e2 HP
 generalize hn:2+k=n at *
 have hn2:2≤n:=by omega
 have hn5:n≤5:=by omega
 clear hn hlt
 generalize (upd (fun _=>((0,0,0):Tag)) w1.heap.size (3,0,0))=oo at *
 generalize (w1.alloc (.cells #[.slice none 0 0,.slice none 0 0] 43))=W0 at *
 generalize w1.heap.size=gb at *
 go_loopw [4] (fun i wr=>∃ (j:Nat) (o:Nat→Tag) (rv:Value) (B:Nat→Nat),j≤n∧i=.int .i64 j∧Hid (MkAt n j w1 wr o gb rv B)) (fun i _=>n - (intOf i).toNat)
 case atStart=>exact ⟨0,oo,_,_,by omega,rfl,H0.out⟩
 case round=>
  clear H0
  obtain ⟨j,o,rv,B,hj,rfl,HM⟩:=hrel
  by_cases hjn:j<n
  ·go_wp2_with fail
   refine (new_ok wr j n (fits_in hjn hn5)).mono ?_
   rintro e w2 ⟨b,rfl,hB1,hnew⟩
   have HPR:=hide (hnew o (tg1 j))
   have HB1:=hide hB1
   clear hnew hB1
   go_wp2_with fail
   obtain ⟨p,-,hp⟩:=HPR.out
   refine (visible_call hp).mono ?_
   rintro e w3 ⟨lv,rfl,hrow,hB2⟩
   have hvl:(newD n).vis.length=n:=by simp [newD]
   rw [hvl] at hrow
   obtain ⟨g,cap,rfl,-,-,hg,hcell,-⟩:=Row.pos (ownsRow_low hrow (Nat.zero_le _)) (by omega)
   have z1:w3.cell? ⟨g,j,none⟩=some (.int .i64 0):=by
    rw [hcell j (by omega),ints_get _ _ (by rw [hvl];exact hjn)]
    simp [newD]
   have HB2:=hide hB2
   clear hp hrow hcell hvl hB2
   obtain ⟨ro,rcap,er,-⟩:=HM.out.grp.row.row.shape
   subst er
   have hB3:Hid (Below wr.heap.size wr w3):=HB1.out.trans (HB2.out.mono HB1.out.size)
   have b3:=HM.out.grp.blk.blk.below hB3.out
   have c0:w3.cell? ⟨gb,0,none⟩=some (.slice ro j rcap):=b3.cell 0
   have hgl:=b3.lt
   clear b3
   go_wp2_with (at_builtin;refine wpList_append_own_at _ rfl _ _ 40 rfl 0 45 i0 (.pointer none) 1 8 Tryz.underlying40 HI.out.1 HI.out.2.1 HI.out.2.2.1 HI.out.2.2.2 rfl (by decide) _ _ _ rfl (World.ownsRow.alloc (HM.out.grp.row.row.below hB3.out) _) ⟨w3.heap.size,0,none⟩ 1 1 [bptr b] rfl rfl (cell_one_new _ _ _) (by intro u hu;simp at hu;subst hu;rfl) (by unfold maxLen;omega) (by omega) (Nat.zero_le _) ?_;intro v4 w4 hown hgrow hnil hat;obtain ⟨g1,cap1,rfl,-,-,-,-,-⟩:=Row.pos hown (by omega);have hb4:=((HM.out.grp.blk.below hB3.out).alloc (.cells #[bptr b] 45)).grew hgrow HM.out.grp.row.tag (by simp);have q3:=hb4.blk.cell 0;have p3:=hb4.blk.frozen 0;have hl1:=hb4.blk.lt;clear hb4)
   have hB4:Below wr.heap.size wr (w3.alloc (.cells #[bptr b] 45)):=hB3.out.alloc hB3.out.size _
   have hPR4:PR newX (w3.alloc (.cells #[bptr b] 45)) (own2 o wr.heap.size fun _=>tg1 j) (tg1 j) b n j (newD n):=HPR.out.move fun q hq e=>⟨by rw [Below.heap_alloc _ _ q (Nat.lt_of_lt_of_le hq HB2.out.size),HB2.out.block q hq],e⟩
   obtain ⟨o5,h5⟩:=HM.out.next hB4 hPR4 hown hgrow hat
   exact ⟨⟨j+1,o5,_,_,by omega,by simp,h5⟩,by simp [intOf];omega⟩
  ·have hjn':j=n:=by omega
   subst hjn'
   have HS:=hide (HM.out.side hn5)
   clear HM hjn hj HI
   go_wp2_with fail
   refine (new_ok wr 0 2 (fits_in (by omega) (by omega))).mono ?_
   rintro e w2 ⟨b0,rfl,hB,hnew⟩
   have HM1:=hide (HS.out.two.next hB (hnew o (tg2 0)))
   have HS1:=hide (HS.out.new hB (tg2 0))
   clear HS hB hnew
   generalize own2 o wr.heap.size (fun _=>tg2 0)=o1 at *
   go_wp2_with fail
   refine (new_ok w2 1 2 (fits_in (by omega) (by omega))).mono ?_
   rintro e w3 ⟨b1,rfl,hB,hnew⟩
   have HM2:=hide (HM1.out.next hB (hnew o1 (tg2 1)))
   have HS2:=hide (HS1.out.new hB (tg2 1))
   clear HS1 hB hnew HM1
   generalize own2 o1 w2.heap.size (fun _=>tg2 1)=o2 at *
   have HT:Hid (Two j w1 gb rv B (put (put (fun _=>0) 0 b0) 1 b1) [] (fun _=>[]) (fun _=>none) w3 o2):=⟨HM2.out.gn (by omega),HS2.out⟩
   clear HM2 HS2
   generalize hB2:(put (put (fun _=>0) 0 b0) 1 b1)=B2 at *
   have e0:b0=B2 0:=by rw [← hB2];rfl
   have e1:b1=B2 1:=by rw [← hB2];rfl
   clear hB2
   subst e0 e1
   go_wp2_with fail
   refine (HT.out.gn.begins (i:=0) (by omega) rfl).mono ?_
   rintro e w4 ⟨rfl,o4,h1,h2⟩
   have HT4:=hide (HT.out.out h1 h2)
   clear HT h1 h2
   go_wp2_with fail
   refine (HT4.out.gn.insert (i:=0) (by omega) (put_same _ _ _) (opIns wHere) rfl (by decide) (by decide) made_does).mono ?_
   rintro e w5 ⟨rfl,o5,h1,h2⟩
   have HT5:=hide (HT4.out.out h1 h2)
   clear HT4 h1 h2
   go_wp2_with fail
   refine (HT5.out.gn.commit (i:=0) (by omega) (put_same _ _ _) (by decide) (by decide)).mono ?_
   rintro e w6 ⟨rfl,o6,h1,h2⟩
   have HT6:=hide (HT5.out.out h1 h2)
   clear HT5 h1 h2
   go_wp2_with fail
   have ec:((cntR ([]:List RTx) 0:Nat):Int)+1=1:=by simp [cntR]
   have hB6:Below w6.heap.size w6 (w6.alloc (.cells #[.int .i64 0,.int .i64 (((cntR ([]:List RTx) 0:Nat):Int)+1)] 62)):=(Below.refl _ _).alloc (Nat.le_refl _) _
   have HT7:=hide (HT6.out.below hB6 (5,0,0))
   have hb7:Bl (w6.alloc (.cells #[.int .i64 0,.int .i64 (((cntR ([]:List RTx) 0:Nat):Int)+1)] 62)) (own2 o6 w6.heap.size fun _=>(5,0,0)) (5,0,0) w6.heap.size [.int .i64 0,.int .i64 1] 62:=⟨by rw [ec];exact heap_alloc_new w6 _,own2_high (Nat.le_refl _)⟩
   have HD7:=hide hb7
   clear hb7 hB6 HT6
   generalize (w6.alloc (.cells #[.int .i64 0,.int .i64 (((cntR ([]:List RTx) 0:Nat):Int)+1)] 62))=w7 at *
   generalize (own2 o6 w6.heap.size fun _=>(5,0,0))=o7 at *
   generalize w6.heap.size=db at *
   have hng:¬ grp 2 tg2 (5,0,0):=fun ⟨i,_,e⟩=>by simp [tg2] at e
   have hng6:¬ grp 2 tg2 (6,0,0):=fun ⟨i,_,e⟩=>by simp [tg2] at e
   refine (HT7.out.gn.tells1 (a:=0) (b:=1) (u:=mU) (by omega) (by omega) rfl (by rw [put_same];simp [mU]) (by rw [put_same];exact made_goes)).mono ?_
   rintro e w8 ⟨rfl,o8,h1,h2⟩
   have HT8:=hide (HT7.out.out h1 h2)
   have HD8:=hide (HD7.out.touch h2 hng)
   clear HT7 h1 h2 HD7
   go_wp2_with fail
   refine (HT8.out.gn.begins (i:=1) (by omega) rfl).mono ?_
   rintro e w9 ⟨rfl,o9,h1,h2⟩
   have HT9:=hide (HT8.out.out h1 h2)
   have HD9:=hide (HD8.out.touch h2 hng)
   clear HT8 h1 h2 HD8
   go_wp2_with fail
   refine (HT9.out.gn.read (i:=1) (by omega) (put_same _ _ _) (6,0,0) (by simp [tg2]) wS (by decide) (s:=0) (l:=[wHere]) (er:=0) (by rw [put_same];exact made_told)).mono ?_
   rintro e wa ⟨lv,oa,rfl,h1,h2,h3⟩
   have HTa:=hide (HT9.out.out h1 h2)
   have HDa:=hide (HD9.out.touch h2 hng)
   obtain ⟨g,cap,rfl,-,-,hg,hcell,-⟩:=Row.pos h3.row (by decide)
   have z0:wa.cell? ⟨g,0,none⟩=some (.string wHere):=hcell 0 (by decide)
   have z1:=HDa.out.blk.cell 1
   have hl1:=HDa.out.blk.lt
   clear HT9 h1 h2 h3 HD9 hcell
   have hstr:(!wHere.toList == [104,101,114,101])=false:=by kernel_rfl
   go_wp2_with fail
   go_ret
   have hBa:Below wa.heap.size wa (wa.alloc (.cells #[.int .i64 0,.slice (some ⟨g,0,none⟩) 1 cap] 66)):=(Below.refl _ _).alloc (Nat.le_refl _) _
   have hS:=HTa.out.side.new hBa (6,0,0)
   exact ⟨gb,rv,B,_,rfl,hS.gn,hS.grp,hS.at0,hS.net⟩
end Go.Proofs.YtiplgdkpnhamaaaGreatDoor.Tv
namespace Go.Proofs.YtiplgdkpnhamaaaGreatDoor.Tv
open Go.RowKit
def dD (n:Nat) (hs:List RTx) (op:Nat→Option RTx):DRep:=⟨hs,visOf n hs,op⟩
def wOp (b c:Int):ROp:=
 if pickOf b 6<2 then ⟨1,keyL.getD (pickOf b 6) noEl,noEl,(pickOf c 2001:Int) - 1000⟩
 else if pickOf b 6<4 then ⟨2,keyL.getD (pickOf b 6) noEl,digOf c,0⟩
 else if pickOf c 3=0 then ⟨4,keyL.getD (pickOf b 6) noEl,digOf (c.tdiv 3),0⟩
 else ⟨3,keyL.getD (pickOf b 6) noEl,digOf (c.tdiv 3),0⟩
theorem keyL_kind (k:Nat) (h:k<6):kindOf (keyL.getD k noEl)=if k<2 then 99 else if k<4 then 114 else 115:=by
 have:k=0∨k=1∨k=2∨k=3∨k=4∨k=5:=by omega
 rcases this with rfl | rfl | rfl | rfl | rfl | rfl <;> rfl
theorem keyL_size (k:Nat) (h:k<6):(keyL.getD k noEl).size≤maxLen:=by
 have:k=0∨k=1∨k=2∨k=3∨k=4∨k=5:=by omega
 rcases this with rfl | rfl | rfl | rfl | rfl | rfl <;> (show _≤9223372036854775807;decide)
theorem wOp_ok (b c:Int) {t:RTx} (h:t.ops.length<16):doesErr (some t) (wOp b c)=0:=by
 have hb:=pickOf_lt b 6 (by omega)
 have hc:=pickOf_lt c 2001 (by omega)
 have hk:=keyL_kind (pickOf b 6) hb
 have hd:∀ z,(digOf z).size=1:=digOf_size
 unfold wOp doesErr
 by_cases c1:pickOf b 6<2
 ·rw [if_pos c1] at hk ⊢
  simp only [hk,kindByte]
  rw [if_neg (by simp),if_neg (by simp;omega),if_neg (by omega)]
 ·rw [if_neg c1] at hk ⊢
  by_cases c2:pickOf b 6<4
  ·rw [if_pos c2] at hk ⊢
   simp only [hk,kindByte]
   rw [if_neg (by simp),if_neg (by simp [hd]),if_neg (by omega)]
  ·rw [if_neg c2] at hk ⊢
   by_cases c3:pickOf c 3=0
   ·rw [if_pos c3]
    simp only [hk,kindByte]
    rw [if_neg (by simp),if_neg (by simp [hd]),if_neg (by omega)]
   ·rw [if_neg c3]
    simp only [hk,kindByte]
    rw [if_neg (by simp),if_neg (by simp [hd]),if_neg (by omega)]
theorem tdiv_fits {c:Int} (m:Int) (hm:0<m) (h1:-9223372036854775808≤c) (h2:c≤9223372036854775807):-9223372036854775808≤c.tdiv m∧c.tdiv m≤9223372036854775807:=by
 have ha:(c.tdiv m).natAbs≤c.natAbs:=by
  rw [Int.natAbs_tdiv]
  exact Nat.div_le_self _ _
 by_cases h0:0≤c
 ·have:=Int.tdiv_nonneg h0 (Int.le_of_lt hm)
  omega
 ·have h3:(-c).tdiv m=-(c.tdiv m):=Int.neg_tdiv ..
  have:=Int.tdiv_nonneg (a:=-c) (by omega) (Int.le_of_lt hm)
  omega
section
variable {n:Nat} {w w':World} {o o':Nat→Tag} {T:Nat→Tag} {B:Nat→Nat} {ts ts':List RTx} {D:Nat→DRep} {X:Nat→DX} {i:Nat}
def DoesEnd (n:Nat) (w:World) (o:Nat→Tag) (T:Nat→Tag) (B:Nat→Nat) (ts:List RTx) (D:Nat→DRep) (X:Nat→DX) (i:Nat) (tx:Int) (p:ROp) (w':World):Prop:=∃ o',Nk n w' o' T B ts (put D i (doesD (D i) tx p)) X∧TouchT (grp n T) w o w' o'
set_option maxRecDepth 100000 in
set_option maxHeartbeats 4000000 in
theorem writes_any (h:Nk n w o T B ts D X) (hi:i<n) (tx:Int) {t:RTx} (hO:opnAt (D i) tx=some t) (hl:t.ops.length<16) (b c:Int) (hb1:-9223372036854775808≤b) (hb2:b≤9223372036854775807) (hc1:-9223372036854775808≤c) (hc2:c≤9223372036854775807) :
  Calls Tryz.prog 101 #[bptr (B i),.int .i64 tx,.int .i64 b,.int .i64 c] w fun e w'=>e=.returned (.bool true)∧DoesEnd n w o T B ts D X i tx (wOp b c) w':=by
 have hp6:=fun W=>kpick_any b 6 W (by omega) (by omega) hb1 hb2
 have hp2:=fun W=>kpick_any c 2001 W (by omega) (by omega) hc1 hc2
 have hp3:=fun W=>kpick_any c 3 W (by omega) (by omega) hc1 hc2
 have hd1:=fun W=>digits_any c W hc1 hc2
 obtain ⟨hq1,hq2⟩:=tdiv_fits 3 (by omega) hc1 hc2
 have hd3:=fun W=>digits_any (c.tdiv 3) W hq1 hq2
 have hk6:=pickOf_lt b 6 (by omega)
 have hm:=pickOf_lt c 2001 (by omega)
 have hok:=wOp_ok b c hl
 obtain ⟨W1,hW1⟩:∃ W1,w.alloc (.cells (strs keyL).toArray 9)=W1:=⟨_,rfl⟩
 have hB1:Below w.heap.size w W1:=by rw [← hW1];exact (Below.refl _ _).alloc (Nat.le_refl _) _
 have bk:Blk W1 w.heap.size (strs keyL) 9:=by rw [← hW1];exact heap_alloc_new w _
 have hkey:W1.cell? ⟨w.heap.size,pickOf b 6,none⟩=some (.string (keyL.getD (pickOf b 6) noEl)):=by
  rw [bk.cell]
  have:pickOf b 6=0∨pickOf b 6=1∨pickOf b 6=2∨pickOf b 6=3∨pickOf b 6=4∨pickOf b 6=5:=by omega
  rcases this with e | e | e | e | e | e <;> rw [e] <;> rfl
 have hks:=keyL_size (pickOf b 6) hk6
 have hl1:=bk.lt
 have hkc:=keys_any w
 rw [hW1] at hkc
 have hany:∀ W,Below w.heap.size w W→Nk n W o T B ts D X:=fun W hB=>h.below hB
 have hend:∀ W w2 o2,Below w.heap.size w W→Nk n w2 o2 T B ts (put D i (doesD (D i) tx (wOp b c))) X→TouchT (grp n T) W o w2 o2→DoesEnd n w o T B ts D X i tx (wOp b c) w2:=fun W w2 o2 hB h1 h2=>⟨o2,h1,((TouchT.refl _ _ _).below hB).trans h2⟩
 have HKC:=hide hkc
 have HP6:=hide hp6
 have HEnd:=hide hend
 have HB1:=hide hB1
 have hrun:=hany
 by_cases c1:pickOf b 6<2
 ·have hca:∀ W,Below w.heap.size w W→Calls Tryz.prog 28 #[ptr (B i),.int .i64 tx,.string (keyL.getD (pickOf b 6) noEl),.int .i64 ((pickOf c 2001:Int) - 1000)] W fun e w'=>e=.returned (.int .i64 0)∧∃ o',Nk n w' o' T B ts (put D i (doesD (D i) tx (wOp b c))) X∧TouchT (grp n T) W o w' o':=fun W hB=>by
   have e:wOp b c=⟨1,keyL.getD (pickOf b 6) noEl,noEl,(pickOf c 2001:Int) - 1000⟩:=by unfold wOp;rw [if_pos c1]
   rw [e] at hok ⊢
   refine ((hany W hB).add hi tx ⟨1,keyL.getD (pickOf b 6) noEl,noEl,(pickOf c 2001:Int) - 1000⟩ rfl hks).mono ?_
   rintro e w' ⟨rfl,h1⟩
   rw [hO,hok]
   exact ⟨rfl,h1⟩
  have HP2:=hide hp2
  have HCA:=hide hca
  clear hp2 hp3 hp6 hd1 hd3 hany hca hend hkc bk hB1 hok h hrun hW1
  generalize wOp b c=op at *
  generalize pickOf b 6=k at *
  generalize pickOf c 2001=m at *
  generalize keyL.getD k noEl=key at *
  go_enter Tryz.func101,Tryz.ntmps101
  go_wp2_with fail
  refine HKC.out.mono ?_
  rintro e w1 ⟨rfl,hw⟩
  have hw':=hw.symm
  subst hw'
  clear hw
  go_wp2_with fail
  refine (HP6.out _).mono ?_
  rintro e w2 ⟨rfl,hw⟩
  have hw':=hw.symm
  subst hw'
  clear hw
  go_wp2_with fail
  refine (HP6.out _).mono ?_
  rintro e w2 ⟨rfl,hw⟩
  have hw':=hw.symm
  subst hw'
  clear hw
  go_wp2_with fail
  refine (HP2.out _).mono ?_
  rintro e w2 ⟨rfl,hw⟩
  have hw':=hw.symm
  subst hw'
  clear hw
  go_wp2_with fail
  refine (HCA.out _ HB1.out).mono ?_
  rintro e w3 ⟨rfl,o3,h3,t3⟩
  have H3:=hide (⟨h3,t3⟩:_∧_)
  clear h3 t3
  go_wp2_with fail
  go_ret
  exact ⟨rfl,HEnd.out _ _ _ HB1.out H3.out.1 H3.out.2⟩
 ·have c1i:¬ ((pickOf b 6:Nat):Int)<2:=by omega
  by_cases c2:pickOf b 6<4
  ·have hca:∀ W,Below w.heap.size w W→Calls Tryz.prog 30 #[ptr (B i),.int .i64 tx,.string (keyL.getD (pickOf b 6) noEl),.string (digOf c)] W fun e w'=>e=.returned (.int .i64 0)∧∃ o',Nk n w' o' T B ts (put D i (doesD (D i) tx (wOp b c))) X∧TouchT (grp n T) W o w' o':=fun W hB=>by
    have e:wOp b c=⟨2,keyL.getD (pickOf b 6) noEl,digOf c,0⟩:=by unfold wOp;rw [if_neg c1,if_pos c2]
    rw [e] at hok ⊢
    refine ((hany W hB).write hi tx ⟨2,keyL.getD (pickOf b 6) noEl,digOf c,0⟩ rfl hks (by show (digOf c).size≤maxLen;rw [digOf_size];unfold maxLen;omega)).mono ?_
    rintro e w' ⟨rfl,h1⟩
    rw [hO,hok]
    exact ⟨rfl,h1⟩
   have HD:=hide hd1
   have HP3:=hide hp3
   have HCA:=hide hca
   have c2i:((pickOf b 6:Nat):Int)<4:=by omega
   clear hp2 hp3 hp6 hd1 hd3 hany hca hend hkc bk hB1 hok h hrun hW1
   generalize wOp b c=op at *
   generalize digOf c=dg at *
   generalize pickOf b 6=k at *
   generalize pickOf c 3=m3 at *
   generalize keyL.getD k noEl=key at *
   go_enter Tryz.func101,Tryz.ntmps101
   go_wp2_with fail
   refine HKC.out.mono ?_
   rintro e w1 ⟨rfl,hw⟩
   have hw':=hw.symm
   subst hw'
   clear hw
   go_wp2_with fail
   refine (HP6.out _).mono ?_
   rintro e w2 ⟨rfl,hw⟩
   have hw':=hw.symm
   subst hw'
   clear hw
   go_wp2_with fail
   refine (HP6.out _).mono ?_
   rintro e w2 ⟨rfl,hw⟩
   have hw':=hw.symm
   subst hw'
   clear hw
   go_wp2_with fail
   refine (HP6.out _).mono ?_
   rintro e w2 ⟨rfl,hw⟩
   have hw':=hw.symm
   subst hw'
   clear hw
   go_wp2_with fail
   refine (HD.out _).mono ?_
   rintro e w4 ⟨rfl,hB4⟩
   have HB4:=hide (HB1.out.trans (hB4.mono HB1.out.size))
   clear hB4 hkey
   go_wp2_with fail
   refine (HCA.out _ HB4.out).mono ?_
   rintro e w3 ⟨rfl,o3,h3,t3⟩
   have H3:=hide (⟨h3,t3⟩:_∧_)
   clear h3 t3
   go_wp2_with fail
   go_ret
   exact ⟨rfl,HEnd.out _ _ _ HB4.out H3.out.1 H3.out.2⟩
  ·have c2i:¬ ((pickOf b 6:Nat):Int)<4:=by omega
   by_cases c3:pickOf c 3=0
   ·have hca:∀ W,Below w.heap.size w W→Calls Tryz.prog 44 #[ptr (B i),.int .i64 tx,.string (keyL.getD (pickOf b 6) noEl),.string (digOf (c.tdiv 3))] W fun e w'=>e=.returned (.int .i64 0)∧∃ o',Nk n w' o' T B ts (put D i (doesD (D i) tx (wOp b c))) X∧TouchT (grp n T) W o w' o':=fun W hB=>by
     have e:wOp b c=⟨4,keyL.getD (pickOf b 6) noEl,digOf (c.tdiv 3),0⟩:=by unfold wOp;rw [if_neg c1,if_neg c2,if_pos c3]
     rw [e] at hok ⊢
     refine ((hany W hB).remove hi tx ⟨4,keyL.getD (pickOf b 6) noEl,digOf (c.tdiv 3),0⟩ rfl hks (by show (digOf (c.tdiv 3)).size≤maxLen;rw [digOf_size];unfold maxLen;omega)).mono ?_
     rintro e w' ⟨rfl,h1⟩
     rw [hO,hok]
     exact ⟨rfl,h1⟩
    have HD:=hide hd3
    have HP3:=hide hp3
    have HCA:=hide hca
    have c3i:((pickOf c 3:Nat):Int)=0:=by omega
    clear hp2 hp3 hp6 hd1 hd3 hany hca hend hkc bk hB1 hok h hrun hW1
    generalize wOp b c=op at *
    generalize digOf (c.tdiv 3)=dg at *
    generalize pickOf b 6=k at *
    generalize pickOf c 3=m3 at *
    generalize keyL.getD k noEl=key at *
    go_enter Tryz.func101,Tryz.ntmps101
    go_wp2_with fail
    refine HKC.out.mono ?_
    rintro e w1 ⟨rfl,hw⟩
    have hw':=hw.symm
    subst hw'
    clear hw
    go_wp2_with fail
    refine (HP6.out _).mono ?_
    rintro e w2 ⟨rfl,hw⟩
    have hw':=hw.symm
    subst hw'
    clear hw
    go_wp2_with fail
    refine (HP6.out _).mono ?_
    rintro e w2 ⟨rfl,hw⟩
    have hw':=hw.symm
    subst hw'
    clear hw
    go_wp2_with fail
    refine (HP6.out _).mono ?_
    rintro e w2 ⟨rfl,hw⟩
    have hw':=hw.symm
    subst hw'
    clear hw
    go_wp2_with fail
    refine (HP3.out _).mono ?_
    rintro e w2 ⟨rfl,hw⟩
    have hw':=hw.symm
    subst hw'
    clear hw
    go_wp2_with fail
    refine (HD.out _).mono ?_
    rintro e w4 ⟨rfl,hB4⟩
    have HB4:=hide (HB1.out.trans (hB4.mono HB1.out.size))
    clear hB4 hkey
    go_wp2_with fail
    refine (HCA.out _ HB4.out).mono ?_
    rintro e w3 ⟨rfl,o3,h3,t3⟩
    have H3:=hide (⟨h3,t3⟩:_∧_)
    clear h3 t3
    go_wp2_with fail
    go_ret
    exact ⟨rfl,HEnd.out _ _ _ HB4.out H3.out.1 H3.out.2⟩
   ·have hca:∀ W,Below w.heap.size w W→Calls Tryz.prog 38 #[ptr (B i),.int .i64 tx,.string (keyL.getD (pickOf b 6) noEl),.string (digOf (c.tdiv 3))] W fun e w'=>e=.returned (.int .i64 0)∧∃ o',Nk n w' o' T B ts (put D i (doesD (D i) tx (wOp b c))) X∧TouchT (grp n T) W o w' o':=fun W hB=>by
     have e:wOp b c=⟨3,keyL.getD (pickOf b 6) noEl,digOf (c.tdiv 3),0⟩:=by unfold wOp;rw [if_neg c1,if_neg c2,if_neg c3]
     rw [e] at hok ⊢
     refine ((hany W hB).insert hi tx ⟨3,keyL.getD (pickOf b 6) noEl,digOf (c.tdiv 3),0⟩ rfl hks (by show (digOf (c.tdiv 3)).size≤maxLen;rw [digOf_size];unfold maxLen;omega)).mono ?_
     rintro e w' ⟨rfl,h1⟩
     rw [hO,hok]
     exact ⟨rfl,h1⟩
    have HD:=hide hd3
    have HP3:=hide hp3
    have HCA:=hide hca
    have c3i:¬ ((pickOf c 3:Nat):Int)=0:=by omega
    clear hp2 hp3 hp6 hd1 hd3 hany hca hend hkc bk hB1 hok h hrun hW1
    generalize wOp b c=op at *
    generalize digOf (c.tdiv 3)=dg at *
    generalize pickOf b 6=k at *
    generalize pickOf c 3=m3 at *
    generalize keyL.getD k noEl=key at *
    go_enter Tryz.func101,Tryz.ntmps101
    go_wp2_with fail
    refine HKC.out.mono ?_
    rintro e w1 ⟨rfl,hw⟩
    have hw':=hw.symm
    subst hw'
    clear hw
    go_wp2_with fail
    refine (HP6.out _).mono ?_
    rintro e w2 ⟨rfl,hw⟩
    have hw':=hw.symm
    subst hw'
    clear hw
    go_wp2_with fail
    refine (HP6.out _).mono ?_
    rintro e w2 ⟨rfl,hw⟩
    have hw':=hw.symm
    subst hw'
    clear hw
    go_wp2_with fail
    refine (HP6.out _).mono ?_
    rintro e w2 ⟨rfl,hw⟩
    have hw':=hw.symm
    subst hw'
    clear hw
    go_wp2_with fail
    refine (HP3.out _).mono ?_
    rintro e w2 ⟨rfl,hw⟩
    have hw':=hw.symm
    subst hw'
    clear hw
    go_wp2_with fail
    refine (HD.out _).mono ?_
    rintro e w4 ⟨rfl,hB4⟩
    have HB4:=hide (HB1.out.trans (hB4.mono HB1.out.size))
    clear hB4 hkey
    go_wp2_with fail
    refine (HCA.out _ HB4.out).mono ?_
    rintro e w3 ⟨rfl,o3,h3,t3⟩
    have H3:=hide (⟨h3,t3⟩:_∧_)
    clear h3 t3
    go_wp2_with fail
    go_ret
    exact ⟨rfl,HEnd.out _ _ _ HB4.out H3.out.1 H3.out.2⟩
end
end Go.Proofs.YtiplgdkpnhamaaaGreatDoor.Tv
namespace Go.Proofs.YtiplgdkpnhamaaaGreatDoor.Tv
open Go.RowKit
section
variable {α:Type} {d p q p' q':α} {x y:Nat}
end
section
variable {n x y:Nat} {w0 w w':World} {B:Nat→Nat} {ts P Q:List RTx} {a b:Option (List ROp)} {o:Nat→Tag}
end
/- What Wins commits. -/
end Go.Proofs.YtiplgdkpnhamaaaGreatDoor.Tv
namespace Go.Proofs.YtiplgdkpnhamaaaGreatDoor.Tv
open Go.RowKit
def tgc (c:Nat):Nat→Tag:=fun i=>(1,i,c)
def kg (c:Nat) (t:Tag):Prop:=(t.1=1∨t.1=3∨t.1=4∨t.1=7)∧t.2.2=c
theorem grp_kg {n c:Nat} {t:Tag} (h:grp n (tgc c) t):kg c t:=by
 obtain ⟨i,-,rfl⟩:=h
 exact ⟨Or.inl rfl,rfl⟩
theorem kg_nz {c:Nat} {t:Tag} (h:kg c t):nz t:=by
 intro e
 rw [e] at h
 obtain ⟨h,-⟩:=h
 simp at h
theorem not_tgc {n c a b e:Nat} (h:a≠1):¬ grp n (tgc c) (a,b,e):=fun ⟨i,_,e⟩=>h (by simp [tgc] at e;exact e.1)
theorem put_two {α:Type} (f:Nat→α) (i:Nat) (x y:α):put (put f i x) i y=put f i y:=by
 funext j
 by_cases c:j=i
 ·subst c;rw [put_same,put_same]
 ·rw [put_other c,put_other c,put_other c]
structure Let where
 a:Nat
 hs:List RTx
 v:Vec
noncomputable def Let.txt (n:Nat) (l:Let):ByteArray:=⟨(ansT n l.a (vecOf (visOf n l.hs)) ((beyondL l.hs newX l.v).map trOf)).toArray⟩
structure LetOk (n:Nat) (ts:List RTx) (H:Nat→List RTx) (l:Let):Prop where
 a:l.a<n
 hist:HistG n l.hs
 sub:∀ u,u ∈ l.hs→u ∈ ts
 past:∀ r,cntR l.hs r≤cntR (H l.a) r
theorem LetOk.more {n:Nat} {ts ts':List RTx} {H H':Nat→List RTx} {l:Let} (h:LetOk n ts H l) (h1:∀ u,u ∈ ts→u ∈ ts') (h2:∀ k r,cntR (H k) r≤cntR (H' k) r):LetOk n ts' H' l:=
 ⟨h.a,h.hist,fun u hu=>h1 u (h.sub u hu),fun r=>Nat.le_trans (h.past r) (h2 _ r)⟩
structure Ks (n c:Nat) (w0:World) (gb g cap:Nat) (B:Nat→Nat) (ts:List RTx) (H:Nat→List RTx) (O:Nat→Nat→Option RTx) (X:Nat→DX) (L:List Let) (w:World) (o:Nat→Tag):Prop where
 nk:Nk n w o (tgc c) B ts (fun i=>dD n (H i) (O i)) X
 blk:∃ lv,Bl w o (3,0,c) gb [.slice (some ⟨g,0,none⟩) n cap,lv] 43∧Pc w o (7,0,c) 9 1 lv L.length (strs (L.map (Let.txt n)))
 row:Pc w o (4,0,c) 45 1 (.slice (some ⟨g,0,none⟩) n cap) n (rsL B n)
 at0:TouchT nz w0 (fun _=>(0,0,0)) w o
 ok:∀ l,l ∈ L→LetOk n ts H l
section
variable {n c:Nat} {w0 w w':World} {gb g cap:Nat} {B:Nat→Nat} {ts ts':List RTx} {H H':Nat→List RTx} {O O':Nat→Nat→Option RTx} {X X':Nat→DX} {L:List Let} {o o':Nat→Tag} {i:Nat}
theorem Ks.out (h:Ks n c w0 gb g cap B ts H O X L w o) (h1:Nk n w' o' (tgc c) B ts' (fun i=>dD n (H' i) (O' i)) X') (h2:TouchT (grp n (tgc c)) w o w' o') (hs:∀ u,u ∈ ts→u ∈ ts') (hH:∀ k r,cntR (H k) r≤cntR (H' k) r):Ks n c w0 gb g cap B ts' H' O' X' L w' o'∧TouchT (kg c) w o w' o':=by
 obtain ⟨lv,b1,b2⟩:=h.blk
 exact ⟨⟨h1,⟨lv,b1.touch h2 (not_tgc (by omega)),b2.touch h2 (not_tgc (by omega))⟩,h.row.touch h2 (not_tgc (by omega)),h.at0.trans (h2.mono fun _ e=>kg_nz (grp_kg e)),fun l hl=>(h.ok l hl).more hs hH⟩,h2.mono fun _=>grp_kg⟩
theorem Ks.below (h:Ks n c w0 gb g cap B ts H O X L w o) (hB:Below w.heap.size w w') (t:Tag):Ks n c w0 gb g cap B ts H O X L w' (own2 o w.heap.size fun _=>t)∧TouchT (kg c) w o w' (own2 o w.heap.size fun _=>t):=
 h.out (h.nk.move fun q hq _=>⟨hB.block q hq,own2_low hq⟩) ⟨Touch.ofBelow hB,fun _ hq=>own2_low hq⟩ (fun _ hu=>hu) fun _ _=>Nat.le_refl _
theorem Ks.cells (h:Ks n c w0 gb g cap B ts H O X L w o):w.cell? ⟨gb,0,none⟩=some (.slice (some ⟨g,0,none⟩) n cap)∧(∀ k,k<n→w.cell? ⟨g,k,none⟩=some (bptr (B k)))∧gb<w.heap.size:=by
 obtain ⟨lv,b1,-⟩:=h.blk
 refine ⟨b1.blk.cell 0,fun k hk=>?_,b1.blk.lt⟩
 obtain ⟨ao,cp,e,-,-,hc⟩:=h.row.row.shape
 injection e with ea eb ec
 subst ea
 obtain ⟨g',e2,h4⟩:=hc k (by omega)
 injection e2 with e3
 injection e3 with e4
 subst e4
 rw [h4,rsL_get hk]
theorem Ks.n5 (h:Ks n c w0 gb g cap B ts H O X L w o):n≤5:=h.nk.n5
theorem Ks.hist (h:Ks n c w0 gb g cap B ts H O X L w o):HistG n ts:=h.nk.net.hist
theorem Ks.histAt (h:Ks n c w0 gb g cap B ts H O X L w o) (hi:i<n):HistG n (H i)∧∀ u,u ∈ H i→u ∈ ts:=⟨(h.nk.net.pr i hi).hist.1,h.nk.net.sub i hi⟩
theorem Ks.own (h:Ks n c w0 gb g cap B ts H O X L w o) (hi:i<n):cntR ts i=cntR (H i) i:=h.nk.net.own i hi
theorem put_d (n:Nat) (H:Nat→List RTx) (O:Nat→Nat→Option RTx) (i:Nat) (hs:List RTx) (x:Nat→Option RTx):put (fun i=>dD n (H i) (O i)) i (dD n hs x)=fun j=>dD n (put H i hs j) (put O i x j):=by
 funext j
 by_cases c:j=i
 ·subst c;rw [put_same,put_same,put_same]
 ·rw [put_other c,put_other c,put_other c]
theorem put_hO (n:Nat) (H:Nat→List RTx) (O:Nat→Nat→Option RTx) (i:Nat) (x:Nat→Option RTx):put (fun i=>dD n (H i) (O i)) i (dD n (H i) x)=fun j=>dD n (H j) (put O i x j):=by rw [put_d,put_self]
theorem set_back {op:Nat→Option RTx} {k:Nat} (h:op k=none) (t:Option RTx):setSlot (setSlot op k t) k none=op:=by
 funext j
 by_cases c:j=k
 ·subst c;rw [setSlot_same,h]
 ·rw [setSlot_other c,setSlot_other c]
theorem set_set (op:Nat→Option RTx) (k:Nat) (t u:Option RTx):setSlot (setSlot op k t) k u=setSlot op k u:=by
 funext j
 by_cases c:j=k
 ·subst c;rw [setSlot_same,setSlot_same]
 ·rw [setSlot_other c,setSlot_other c,setSlot_other c]
theorem opn_at (n:Nat) (hs:List RTx) (op:Nat→Option RTx) (k:Nat):opnAt (dD n hs op) k=op k:=by
 unfold opnAt
 rw [if_pos (Int.natCast_nonneg k),Int.toNat_natCast];rfl
theorem d_begin {n:Nat} {hs:List RTx} {op:Nat→Option RTx} {k:Nat} (hf:freeSlot op=k) (hk:k<6):beginD (dD n hs op)=dD n hs (setSlot op k (some ⟨0,0,visOf n hs,[]⟩))∧beginAns (dD n hs op)=.tuple #[.int .i64 k,.int .i64 0]:=by
 subst hf
 constructor
 ·show (if freeSlot op<6 then _ else _)=_
  rw [if_pos hk];rfl
 ·show (if freeSlot op<6 then _ else _)=_
  rw [if_pos hk];rfl
theorem d_does {n:Nat} {hs:List RTx} {op:Nat→Option RTx} {k:Nat} {t:RTx} (hO:op k=some t) {p:ROp} (h:doesErr (some t) p=0):doesD (dD n hs op) k p=dD n hs (setSlot op k (some { t with ops:=t.ops ++ [p] })):=by
 unfold doesD
 rw [opn_at,hO]
 simp only [h,if_true]
 rw [Int.toNat_natCast];rfl
def comT (_n i:Nat) (hs:List RTx) (t:RTx):RTx:=⟨i,(cntR hs i:Int)+1,t.saw,t.ops⟩
theorem d_commit {n i:Nat} {hs:List RTx} {op:Nat→Option RTx} {k:Nat} {t:RTx} (hi:i<n) (hO:op k=some t) (ho:0<t.ops.length):commitD i (dD n hs op) k=dD n (hs ++ [comT n i hs t]) (setSlot op k none)∧commitAns i (dD n hs op) k=.tuple #[.agg #[.int .i64 i,.int .i64 ((cntR hs i:Int)+1)],.int .i64 0]∧∀ ts,commitT ts i (dD n hs op) k=ts ++ [comT n i hs t]:=by
 have e1:done i (dD n hs op) t=comT n i hs t:=by
  unfold done comT
  show (⟨_,(visOf n hs).getD i 0+1,_,_⟩:RTx)=_
  rw [visOf_get hi]
 have e2:(visOf n hs).set i ((visOf n hs).getD i 0+1)=visOf n (hs ++ [comT n i hs t]):=by
  rw [visOf_snoc (u:=comT n i hs t) (Int.natCast_nonneg i) (Int.ofNat_lt.2 hi)];rfl
 refine ⟨?_,?_,fun ts=>?_⟩
 ·unfold commitD
  rw [opn_at,hO]
  simp only [if_neg (Nat.ne_of_gt ho),e1]
  show (⟨_,(visOf n hs).set i _,_⟩:DRep)=_
  rw [show (dD n hs op).vis.getD i 0=(visOf n hs).getD i 0 from rfl,e2,Int.toNat_natCast];rfl
 ·unfold commitAns
  rw [opn_at,hO]
  simp only [if_neg (Nat.ne_of_gt ho)]
  show Value.tuple #[.agg #[_,.int .i64 ((visOf n hs).getD i 0+1)],_]=_
  rw [visOf_get hi]
 ·unfold commitT
  rw [opn_at,hO]
  simp only [if_neg (Nat.ne_of_gt ho),e1]
end
end Go.Proofs.YtiplgdkpnhamaaaGreatDoor.Tv
namespace Go.Proofs.YtiplgdkpnhamaaaGreatDoor.Tv
open Go.RowKit
structure KOp where
 kind:Int
 a:Int
 b:Int
 c:Int
def KOp.cells (p:KOp):List Value:=[.int .i64 p.kind,.int .i64 p.a,.int .i64 p.b,.int .i64 p.c]
abbrev KOp.val (p:KOp):Value:=.agg #[.int .i64 p.kind,.int .i64 p.a,.int .i64 p.b,.int .i64 p.c]
structure KOp.Ok (p:KOp):Prop where
 a1:-9223372036854775808≤p.a
 a2:p.a≤9223372036854775807
 b1:-9223372036854775808≤p.b
 b2:p.b≤9223372036854775807
 c1:-9223372036854775808≤p.c
 c2:p.c≤9223372036854775807
structure Room2 (op:Nat→Option RTx) (k1 k2:Nat):Prop where
 lt:k1<k2
 six:k2<6
 low:∀ j,j<k1→(op j).isSome=true
 one:op k1=none
 mid:∀ j,k1<j→j<k2→(op j).isSome=true
 two:op k2=none
theorem Room2.free {op:Nat→Option RTx} {k1 k2:Nat} (h:Room2 op k1 k2):freeSlot op=k1:=freeSlot_eq (by have:=h.lt;have:=h.six;omega) h.low h.one
theorem Room2.next {op:Nat→Option RTx} {k1 k2:Nat} (h:Room2 op k1 k2) (t:RTx):freeSlot (setSlot op k1 (some t))=k2:=freeSlot_eq h.six (fun j hj=>by
 by_cases c:j=k1
 ·subst c;rw [setSlot_same];rfl
 ·rw [setSlot_other c]
  by_cases c2:j<k1
  ·exact h.low j c2
  ·exact h.mid j (by omega) hj) (by rw [setSlot_other (by have:=h.lt;omega)];exact h.two)
theorem room_none:Room2 (fun _=>none) 0 1:=⟨by omega,by omega,fun j hj=>absurd hj (Nat.not_lt_zero _),rfl,fun j h1 h2=>by omega,rfl⟩
structure PS where
 ts:List RTx
 H:Nat→List RTx
 L:List Let
def RecH (n:Nat) (hs us hs':List RTx):Prop:=∃ op,RecD (dD n hs op) us (dD n hs' op)
def mkC (n i:Nat) (hs saw:List RTx) (ops:List ROp):RTx:=⟨i,(cntR hs i:Int)+1,visOf n saw,ops⟩
def StepR (n:Nat) (p:KOp) (s s':PS):Prop:=
 if p.kind=1 then s'=⟨s.ts ++ [mkC n (pickOf p.a n) (s.H (pickOf p.a n)) (s.H (pickOf p.a n)) [wOp p.b p.c]],put s.H (pickOf p.a n) (s.H (pickOf p.a n) ++ [mkC n (pickOf p.a n) (s.H (pickOf p.a n)) (s.H (pickOf p.a n)) [wOp p.b p.c]]),s.L⟩
 else if p.kind=2 then ∃ u v,u=mkC n (pickOf p.a n) (s.H (pickOf p.a n)) (s.H (pickOf p.a n)) [wOp p.b p.c]∧v=mkC n (pickOf p.a n) (s.H (pickOf p.a n) ++ [u]) (s.H (pickOf p.a n)) [wOp (p.b.tdiv 7) (p.c.tdiv 7)]∧s'=⟨s.ts ++ [u] ++ [v],put s.H (pickOf p.a n) (s.H (pickOf p.a n) ++ [u] ++ [v]),s.L⟩
 else if p.kind=3 then ∃ hs,s'=⟨s.ts,put s.H (pickOf p.b n) hs,s.L⟩∧RecH n (s.H (pickOf p.b n)) (beyondL (s.H (pickOf p.a n)) newX (vecOf (visOf n (s.H (pickOf p.b n))))) hs
 else if p.kind=4 then s'=⟨s.ts,s.H,s.L ++ [⟨pickOf p.a n,s.H (pickOf p.a n),vecOf (visOf n (s.H (pickOf p.b n)))⟩]⟩
 else if p.kind=5 then (if h:0<s.L.length then ∃ hs,s'=⟨s.ts,put s.H (pickOf p.b n) hs,s.L⟩∧RecH n (s.H (pickOf p.b n)) (beyondL (s.L[pickOf p.c s.L.length]'(pickOf_lt _ _ h)).hs newX (s.L[pickOf p.c s.L.length]'(pickOf_lt _ _ h)).v) hs else s'=s)
 else s'=s
theorem bey_low {n:Nat} (hn:n≤5) {hs hb:List RTx} {x:DX} (hg:∀ r,x.gone r≤cntR hb r) (hz:∀ r,n≤r→cntR hs r=0):beyondL hs x (vecOf (visOf n hb))=beyondL hs newX (vecOf (visOf n hb)):=by
 unfold beyondL
 rw [List.flatMap_def,List.flatMap_def]
 congr 1
 refine List.map_congr_left fun r _=>?_
 unfold segB
 by_cases c:r<n
 ·have e:((vecOf (visOf n hb)).get r).toNat=cntR hb r:=by
   rw [vecOf_get (by rw [visOf_len];exact hn),Int.toNat_natCast,visOf_get c,Int.toNat_natCast]
  rw [e]
  have:=hg r
  rw [Nat.max_eq_right this]
  show _=heldOf hs r (max 0 _)
  rw [Nat.max_eq_right (Nat.zero_le _)]
 ·have e:∀ g,heldOf hs r g=[]:=fun g=>by
   have:=hz r (by omega)
   unfold cntR at this
   unfold heldOf
   rw [List.length_eq_zero_iff.1 this]
   simp
  rw [e,e]
theorem HistG.high {n:Nat} {hs:List RTx} (h:HistG n hs) {r:Nat} (hr:n≤r):cntR hs r=0:=by
 unfold cntR
 rw [List.length_eq_zero_iff,List.filter_eq_nil_iff]
 intro u hu
 obtain ⟨j,hj,e⟩:=List.getElem_of_mem hu
 have:=(h.tx j hj).rn
 rw [e] at this
 simp
 omega
section
variable {n c:Nat} {w0 w w':World} {gb g cap:Nat} {B:Nat→Nat} {ts ts':List RTx} {H H':Nat→List RTx} {O O':Nat→Nat→Option RTx} {X X':Nat→DX} {L:List Let} {o o':Nat→Tag} {i:Nat}
set_option maxRecDepth 100000 in
set_option maxHeartbeats 4000000 in
theorem of_any (h:Ks n c w0 gb g cap B ts H O X L w o) (hn:0<n) (a:Int) (ha1:-9223372036854775808≤a) (ha2:a≤9223372036854775807) :
  Calls Tryz.prog 26 #[bptr gb,.int .i64 a] w fun e w'=>e=.returned (bptr (B (pickOf a n)))∧Below w.heap.size w w':=by
 obtain ⟨c0,ck,hgl⟩:=h.cells
 have hn5:=h.n5
 have hlt:=pickOf_lt a n hn
 have y0:=Bel.cell c0
 have y1:=Bel.cell (ck _ hlt)
 have hp:∀ f:Fam (Bel w),Calls Tryz.prog 29 #[.int .i64 a,.int .i64 n] f.w fun e w''=>e=.returned (.int .i64 (pickOf a n))∧∃ g:Fam (Bel w),w''=g.w:=fun f=>Bel.call f ((kpick_any a n f.w hn (by omega) ha1 ha2).mono fun e w' ⟨h1,h2⟩=>⟨h1,by rw [h2];exact Below.refl _ _⟩)
 have HP:=hide hp
 generalize pickOf a n=k at *
 clear hp c0 ck h
 have hlt':(k:Int)<n:=by omega
 go_enter Tryz.func26,Tryz.ntmps26
 go_upto_region 1 with (fail)
 refine region_fam (Bel w) (by kernel_rfl) (by kernel_rfl) (Below.refl _ _).drew ?_
 repeat (go_big_quiet_step (first | (go_at_call 29;exact HP.out _)))
 refine wpQuiet_nil ?_
 intro _ hw'
 obtain ⟨f1,rfl⟩:=hw'
 go_wp2_with fail
 go_ret
 exact ⟨rfl,f1.ok⟩
def BegEnd (n c:Nat) (w0:World) (gb g cap:Nat) (B:Nat→Nat) (ts:List RTx) (H:Nat→List RTx) (O:Nat→Nat→Option RTx) (X:Nat→DX) (L:List Let) (w:World) (o:Nat→Tag) (i k:Nat) (p:ROp) (w':World):Prop:=
 ∃ o',Ks n c w0 gb g cap B ts H (put O i (setSlot (O i) k (some ⟨0,0,visOf n (H i),[p]⟩))) X L w' o'∧TouchT (kg c) w o w' o'
set_option maxRecDepth 100000 in
set_option maxHeartbeats 4000000 in
theorem begins_any (h:Ks n c w0 gb g cap B ts H O X L w o) (hi:i<n) {k:Nat} (hf:freeSlot (O i)=k) (hk:k<6) (b cc:Int) (hb1:-9223372036854775808≤b) (hb2:b≤9223372036854775807) (hc1:-9223372036854775808≤cc) (hc2:cc≤9223372036854775807) :
  Calls Tryz.prog 56 #[bptr (B i),.int .i64 b,.int .i64 cc] w fun e w'=>e=.returned (.int .i64 k)∧BegEnd n c w0 gb g cap B ts H O X L w o i k (wOp b cc) w':=by
 obtain ⟨e1,e2⟩:=d_begin (n:=n) (hs:=H i) hf hk
 have hcb:=h.nk.begins hi
 rw [e1,e2,put_hO] at hcb
 have hO:(put O i (setSlot (O i) k (some ⟨0,0,visOf n (H i),[]⟩)) i) k=some ⟨0,0,visOf n (H i),[]⟩:=by rw [put_same,setSlot_same]
 have hcw:∀ w1 o1,Nk n w1 o1 (tgc c) B ts (fun j=>dD n (H j) (put O i (setSlot (O i) k (some ⟨0,0,visOf n (H i),[]⟩)) j)) X→Calls Tryz.prog 101 #[bptr (B i),.int .i64 k,.int .i64 b,.int .i64 cc] w1 fun e w'=>e=.returned (.bool true)∧∃ o',Nk n w' o' (tgc c) B ts (fun j=>dD n (H j) (put O i (setSlot (O i) k (some ⟨0,0,visOf n (H i),[wOp b cc]⟩)) j)) X∧TouchT (grp n (tgc c)) w1 o1 w' o':=fun w1 o1 h1=>by
  refine (writes_any h1 hi k (t:=⟨0,0,visOf n (H i),[]⟩) (by rw [opn_at];exact hO) (by simp) b cc hb1 hb2 hc1 hc2).mono ?_
  rintro e w' ⟨rfl,o',a1,a2⟩
  refine ⟨rfl,o',?_,a2⟩
  rw [d_does hO (wOp_ok b cc (by simp)),put_hO] at a1
  have e3:put (put O i (setSlot (O i) k (some ⟨0,0,visOf n (H i),[]⟩))) i (setSlot (put O i (setSlot (O i) k (some ⟨0,0,visOf n (H i),[]⟩)) i) k (some ⟨0,0,visOf n (H i),[] ++ [wOp b cc]⟩))=put O i (setSlot (O i) k (some ⟨0,0,visOf n (H i),[wOp b cc]⟩)):=by
   rw [put_two,put_same,set_set];rfl
  rw [e3] at a1
  exact a1
 have hend:∀ w1 o1 w2 o2,TouchT (grp n (tgc c)) w o w1 o1→Nk n w2 o2 (tgc c) B ts (fun j=>dD n (H j) (put O i (setSlot (O i) k (some ⟨0,0,visOf n (H i),[wOp b cc]⟩)) j)) X→TouchT (grp n (tgc c)) w1 o1 w2 o2→BegEnd n c w0 gb g cap B ts H O X L w o i k (wOp b cc) w2:=fun w1 o1 w2 o2 t1 h2 t2=>⟨o2,h.out h2 (t1.trans t2) (fun _ hu=>hu) fun _ _=>Nat.le_refl _⟩
 have HB:=hide hcb
 have HW:=hide hcw
 have HE:=hide hend
 have hk':¬ (k:Int)<0:=by omega
 clear hcb hcw hend h hO e1 e2 hf
 go_enter Tryz.func56,Tryz.ntmps56
 go_wp2_with first
  | (go_at_call 27;refine HB.out.mono ?_;rintro e w1 ⟨rfl,o1,hn1,t1⟩;have G1:=hide (⟨hn1,t1⟩:_∧_);clear hn1 t1)
  | (go_at_call 101;refine (HW.out _ _ G1.out.1).mono ?_;rintro e w2 ⟨rfl,o2,hn2,t2⟩;have G2:=hide (⟨hn2,t2⟩:_∧_);clear hn2 t2)
 go_ret
 exact ⟨rfl,HE.out _ _ _ _ G1.out.2 G2.out.1 G2.out.2⟩
theorem Ks.commit (h:Ks n c w0 gb g cap B ts H O X L w o) (hi:i<n) {k:Nat} {t:RTx} (hO:O i k=some t) (ho:0<t.ops.length) (hf:ts.length+1≤1100000):Calls Tryz.prog 32 #[bptr (B i),.int .i64 k] w fun e w'=>e=.returned (.tuple #[.agg #[.int .i64 i,.int .i64 ((cntR (H i) i:Int)+1)],.int .i64 0])∧∃ o',Ks n c w0 gb g cap B (ts ++ [comT n i (H i) t]) (put H i (H i ++ [comT n i (H i) t])) (put O i (setSlot (O i) k none)) X L w' o'∧TouchT (kg c) w o w' o':=by
 obtain ⟨e1,e2,e3⟩:=d_commit (n:=n) (hs:=H i) (op:=O i) hi hO ho
 refine (h.nk.commit hi k hf).mono ?_
 rw [e1,e2,e3,put_d]
 rintro e w' ⟨rfl,o',h1,h2⟩
 refine ⟨rfl,o',h.out h1 h2 (fun _ hu=>List.mem_append_left _ hu) fun a r=>?_⟩
 by_cases c:a=i
 ·subst c;rw [put_same,cntR_snoc];omega
 ·rw [put_other c];exact Nat.le_refl _
end
end Go.Proofs.YtiplgdkpnhamaaaGreatDoor.Tv
namespace Go.Proofs.YtiplgdkpnhamaaaGreatDoor.Tv
open Go.RowKit
section
variable {n c:Nat} {w0 w w':World} {gb g cap:Nat} {B:Nat→Nat} {ts ts':List RTx} {H H':Nat→List RTx} {O O':Nat→Nat→Option RTx} {X X':Nat→DX} {L:List Let} {o o':Nat→Tag} {i:Nat}
theorem rec_d {hs us:List RTx} {op:Nat→Option RTx} {d':DRep} (h:RecD (dD n hs op) us d') (hv:d'.vis=visOf n d'.hs):d'=dD n d'.hs op:=by
 have:=h.more.2.1
 cases d' with
 | mk a b c=>
  simp only at this hv
  subst hv this
  rfl
theorem rec_cnt {hs us hs':List RTx} (h:RecH n hs us hs') (r:Nat):cntR hs r≤cntR hs' r:=by
 obtain ⟨op,h⟩:=h
 exact h.cnt r
theorem put_cnt {b:Nat} {hs:List RTx} (h:∀ r,cntR (H b) r≤cntR hs r) (k r:Nat):cntR (H k) r≤cntR (put H b hs k) r:=by
 by_cases c:k=b
 ·subst c;rw [put_same];exact h r
 ·rw [put_other c];exact Nat.le_refl _
theorem put_O (O:Nat→Nat→Option RTx) (i:Nat):put O i (O i)=O:=put_self O i
theorem Ks.gone (h:Ks n c w0 gb g cap B ts H O X L w o) {a b:Nat} (ha:a<n) (hb:b<n) (r:Nat):(X a).gone r≤cntR (H b) r:=h.nk.net.gone a b r ha hb
theorem Ks.bey (h:Ks n c w0 gb g cap B ts H O X L w o) {a b:Nat} (ha:a<n) (hb:b<n):beyondL (H a) (X a) (vecOf (visOf n (H b)))=beyondL (H a) newX (vecOf (visOf n (H b))):=
 bey_low h.n5 (h.gone ha hb) fun _ hr=>(h.histAt ha).1.high hr
theorem Ks.tells (h:Ks n c w0 gb g cap B ts H O X L w o) {a b:Nat} (ha:a<n) (hb:b<n):Calls Tryz.prog 39 #[bptr (B a),bptr (B b)] w fun e w'=>e=.returned (.bool true)∧∃ o' hs,Ks n c w0 gb g cap B ts (put H b hs) O (tellX n (fun i=>dD n (H i) (O i)) X a b) L w' o'∧TouchT (kg c) w o w' o'∧RecH n (H b) (beyondL (H a) newX (vecOf (visOf n (H b)))) hs:=by
 refine (h.nk.tells ha hb).mono ?_
 rintro e w' ⟨rfl,o',d',h1,h2,h3⟩
 have hb':=h.bey ha hb
 have hp:=(h1.net.pr b hb).hist.2.1
 rw [put_same] at hp
 have hd:=rec_d h3 hp
 generalize d'.hs=hs at hd
 subst hd
 rw [put_d,put_O] at h1
 have h4:RecH n (H b) (beyondL (H a) newX (vecOf (visOf n (H b)))) hs:=⟨O b,by rw [← hb'];exact h3⟩
 obtain ⟨k1,k2⟩:=h.out h1 h2 (fun _ hu=>hu) (put_cnt (rec_cnt h4))
 exact ⟨rfl,o',hs,k1,k2,h4⟩
theorem tell_gone (n:Nat) (D:Nat→DRep) (X:Nat→DX) (a b k:Nat):(tellX n D X a b k).gone=(X k).gone:=by
 unfold tellX
 have e1:∀ k,(put X a (learnX (X a) b (vecOf (visOf n (D b).hs))) k).gone=(X k).gone:=fun k=>by
  by_cases c:k=a
  ·subst c;rw [put_same];rfl
  ·rw [put_other c]
 by_cases c:k=b
 ·subst c;rw [put_same];exact e1 k
 ·rw [put_other c];exact e1 k
noncomputable def sumB (n b:Nat) (hs:List RTx):ByteArray:=⟨(sumT n b (visOf n hs)).toArray⟩
theorem Ks.summary (h:Ks n c w0 gb g cap B ts H O X L w o) {b:Nat} (hb:b<n):Calls Tryz.prog 37 #[bptr (B b)] w fun e w'=>e=.returned (.string (sumB n b (H b)))∧∃ o',Ks n c w0 gb g cap B ts H O X L w' o'∧TouchT (kg c) w o w' o':=by
 refine (h.nk.summary hb).mono ?_
 rintro e w' ⟨rfl,h1,h2⟩
 exact ⟨rfl,o,h.out h1 h2 (fun _ hu=>hu) fun _ _=>Nat.le_refl _⟩
theorem Ks.answer (h:Ks n c w0 gb g cap B ts H O X L w o) {a b:Nat} (ha:a<n) (hb:b<n):Calls Tryz.prog 40 #[bptr (B a),.string (sumB n b (H b))] w fun e w'=>e=.returned (.tuple #[.string (Let.txt n ⟨a,H a,vecOf (visOf n (H b))⟩),.int .i64 0])∧∃ o' X',Ks n c w0 gb g cap B ts H O X' L w' o'∧TouchT (kg c) w o w' o'∧∀ k,(X' k).gone=(X k).gone:=by
 obtain ⟨b1,b2⟩:=h.histAt hb
 refine (h.nk.answer ha (hs:=H b) b1 b2 hb (fun _=>Nat.le_refl _)).mono ?_
 rintro e w' ⟨rfl,o',h1,h2⟩
 have hb':=h.bey ha hb
 obtain ⟨k1,k2⟩:=h.out h1 h2 (fun _ hu=>hu) fun _ _=>Nat.le_refl _
 refine ⟨?_,o',_,k1,k2,fun k=>?_⟩
 ·show Ending.returned (.tuple #[.string ⟨(ansT n a (vecOf (visOf n (H a))) ((beyondL (H a) (X a) (vecOf (visOf n (H b)))).map trOf)).toArray⟩,_])=_
  rw [hb'];rfl
 ·by_cases c:k=a
  ·subst c;rw [put_same];rfl
  ·rw [put_other c]
theorem Ks.letOk (h:Ks n c w0 gb g cap B ts H O X L w o) {a:Nat} (ha:a<n) (v:Vec):LetOk n ts H ⟨a,H a,v⟩:=⟨ha,(h.histAt ha).1,(h.histAt ha).2,fun _=>Nat.le_refl _⟩
theorem Ks.receive (h:Ks n c w0 gb g cap B ts H O X L w o) {b:Nat} (hb:b<n) {l:Let} (hl:LetOk n ts H l):Calls Tryz.prog 41 #[bptr (B b),.string (Let.txt n l)] w fun e w'=>e=.returned (.int .i64 0)∧∃ o' hs X',Ks n c w0 gb g cap B ts (put H b hs) O X' L w' o'∧TouchT (kg c) w o w' o'∧RecH n (H b) (beyondL l.hs newX l.v) hs∧∀ k,(X' k).gone=(X k).gone:=by
 refine (h.nk.receive hb hl.hist hl.sub newX l.v hl.a hl.past).mono ?_
 rintro e w' ⟨rfl,o',d',h1,h2,h3⟩
 have hp:=(h1.net.pr b hb).hist.2.1
 rw [put_same] at hp
 have hd:=rec_d h3 hp
 generalize d'.hs=hs at hd
 subst hd
 rw [put_d,put_O] at h1
 have h4:RecH n (H b) (beyondL l.hs newX l.v) hs:=⟨O b,h3⟩
 obtain ⟨k1,k2⟩:=h.out h1 h2 (fun _ hu=>hu) (put_cnt (rec_cnt h4))
 refine ⟨rfl,o',hs,_,k1,k2,h4,fun k=>?_⟩
 by_cases c:k=b
 ·subst c;rw [put_same];rfl
 ·rw [put_other c]
theorem Ks.prune (h:Ks n c w0 gb g cap B ts H O X L w o) (hi:i<n):Calls Tryz.prog 47 #[bptr (B i)] w fun e w'=>e=.returned (.int .i64 (goN (H i) (X i) (evTo (X i) i (vecOf (visOf n (H i))) n) 5))∧∃ o',Ks n c w0 gb g cap B ts H O (put X i (pruneX n (fun i=>dD n (H i) (O i)) X i)) L w' o'∧TouchT (kg c) w o w' o':=by
 refine (h.nk.prune hi).mono ?_
 rintro e w' ⟨rfl,o',h1,h2⟩
 exact ⟨rfl,o',h.out h1 h2 (fun _ hu=>hu) fun _ _=>Nat.le_refl _⟩
theorem Ks.keep (h:Ks n c w0 gb g cap B ts H O X L w o) (hr:6≤w0.heap.size) {lv v':Value} (hlv:w.cell? ⟨gb,1,none⟩=some lv) {l:Let} (hl:LetOk n ts H l) (hrow:w'.ownsRow 0 9 1 v' (L.length+1) (strs (L.map (Let.txt n)) ++ [.string (l.txt n)])) (hg:w.grownBy w' lv.ownBlock) (hat:v'.ownBlock=lv.ownBlock∨v'.ownBlock=some w.heap.size):∃ o',Ks n c w0 gb g cap B ts H O X (L ++ [l]) (w'.setCell ⟨gb,1,none⟩ v') o'∧TouchT (kg c) w o (w'.setCell ⟨gb,1,none⟩ v') o':=by
 obtain ⟨lv',b1,b2⟩:=h.blk
 have e1:w.cell? ⟨gb,1,none⟩=some lv':=b1.blk.cell 1
 rw [hlv] at e1
 have e2:=Option.some.inj e1
 subst e2
 have low:∀ q,q<6→o q=(0,0,0):=fun q hq=>at0_low h.at0 hr hq
 have b7:=b1.grew hg b2.tag (by simp)
 have r7:=h.row.grew hg b2.tag (by simp)
 have l7:=b2.app hrow hat
 have t7:=h.at0.grew hg b2.tag (by simp [nz])
 have k7:=(TouchT.refl (kg c) w o).grew hg b2.tag ⟨Or.inr (Or.inr (Or.inr rfl)),rfl⟩
 have m7:Nk n w' (upd o w.heap.size (7,0,c)) (tgc c) B ts (fun i=>dD n (H i) (O i)) X:=h.nk.move fun q hq e=>⟨hg.block q hq (fun cc=>by
  have h1:=b2.tag q cc.symm
  rcases e with e | ⟨i,_,e⟩
  ·rw [low q e] at h1;simp at h1
  ·rw [e] at h1;simp [tgc] at h1),upd_other (by omega)⟩
 generalize (upd o w.heap.size (7,0,c))=o7 at *
 have hgb:o7 gb=(3,0,c):=b7.tag
 have low7:∀ q,q<6→o7 q=(0,0,0):=fun q hq=>at0_low t7 hr hq
 have l8:=l7.set (p:=⟨gb,1,none⟩) hgb (by simp) v'
 have r8:=r7.set (p:=⟨gb,1,none⟩) hgb (by simp) v'
 refine ⟨o7,⟨m7.move fun q hq e=>⟨Below.heap_setCell _ _ _ _ (fun cc=>?_),rfl⟩,⟨v',b7.set 1 v',?_⟩,r8,t7.set (p:=⟨gb,1,none⟩) (by rw [hgb];simp [nz]) v',fun l' hl'=>?_⟩,k7.set (p:=⟨gb,1,none⟩) (by rw [hgb];exact ⟨Or.inr (Or.inl rfl),rfl⟩) v'⟩
 ·have c':q=gb:=cc
  subst c'
  rcases e with e | ⟨i,_,e⟩
  ·rw [low7 q e] at hgb;simp at hgb
  ·rw [e] at hgb;simp [tgc] at hgb
 ·rw [List.length_append,List.length_singleton,List.map_append]
  have e:strs (L.map (Let.txt n) ++ [l].map (Let.txt n))=strs (L.map (Let.txt n)) ++ [.string (l.txt n)]:=by simp [strs]
  rw [e]
  exact l8
 ·rcases List.mem_append.1 hl' with e | e
  ·exact h.ok l' e
  ·rw [List.mem_singleton.1 e];exact hl
end
end Go.Proofs.YtiplgdkpnhamaaaGreatDoor.Tv
namespace Go.Proofs.YtiplgdkpnhamaaaGreatDoor.Tv
open Go.RowKit
def StepEnd (n c:Nat) (w0:World) (gb g cap:Nat) (B:Nat→Nat) (s:PS) (O:Nat→Nat→Option RTx) (X:Nat→DX) (w:World) (o:Nat→Tag) (p:KOp) (e:Ending) (w':World):Prop:=
 e=.returned (.bool true)∧∃ o' s' X',StepR n p s s'∧Ks n c w0 gb g cap B s'.ts s'.H O X' s'.L w' o'∧TouchT (kg c) w o w' o'∧(p.kind≠6→∀ k,(X' k).gone=(X k).gone)
structure Sx (n c:Nat) (w0:World) (gb g cap:Nat) (B:Nat→Nat) (ts:List RTx) (H:Nat→List RTx) (O:Nat→Nat→Option RTx) (X:Nat→DX) (L:List Let) (bb:Nat) (p:KOp) (wS:World) (oS:Nat→Tag) (w:World) (o:Nat→Tag):Prop where
 ks:Ks n c w0 gb g cap B ts H O X L w o
 box:Bl w o (13,0,0) bb p.cells 39
 tt:TouchT (kg c) wS oS w o
section
variable {n c:Nat} {w0 w w' wS:World} {gb g cap:Nat} {B:Nat→Nat} {ts ts':List RTx} {H H':Nat→List RTx} {O O':Nat→Nat→Option RTx} {X X':Nat→DX} {L L':List Let} {o o' oS:Nat→Tag} {bb:Nat} {p:KOp}
theorem Sx.next (h:Sx n c w0 gb g cap B ts H O X L bb p wS oS w o) (k:Ks n c w0 gb g cap B ts' H' O' X' L' w' o') (t:TouchT (kg c) w o w' o'):Sx n c w0 gb g cap B ts' H' O' X' L' bb p wS oS w' o':=
 ⟨k,h.box.touch t (fun e=>by obtain ⟨e,-⟩:=e;simp at e),h.tt.trans t⟩
theorem Sx.below (h:Sx n c w0 gb g cap B ts H O X L bb p wS oS w o) (hB:Below w.heap.size w w'):Sx n c w0 gb g cap B ts H O X L bb p wS oS w' (own2 o w.heap.size fun _=>(14,0,0)):=by
 obtain ⟨a,b⟩:=h.ks.below hB (14,0,0)
 exact h.next a b
theorem Sx.cells (h:Sx n c w0 gb g cap B ts H O X L bb p wS oS w o):w.cell? ⟨bb,0,none⟩=some (.int .i64 p.kind)∧w.cell? ⟨bb,1,none⟩=some (.int .i64 p.a)∧w.cell? ⟨bb,2,none⟩=some (.int .i64 p.b)∧w.cell? ⟨bb,3,none⟩=some (.int .i64 p.c)∧bb<w.heap.size:=
 ⟨h.box.blk.cell 0,h.box.blk.cell 1,h.box.blk.cell 2,h.box.blk.cell 3,h.box.blk.lt⟩
theorem O_back {i k:Nat} {t:RTx} (h:O i k=none):put (put O i (setSlot (O i) k (some t))) i (setSlot (put O i (setSlot (O i) k (some t)) i) k none)=O:=by
 rw [put_two,put_same,set_back h,put_self]
theorem O_two {i k1 k2:Nat} {t u:RTx} (hk:k1≠k2) (h1:O i k1=none) (h2:O i k2=none):setSlot (setSlot (setSlot (setSlot (O i) k1 (some t)) k2 (some u)) k1 none) k2 none=O i:=by
 funext j
 by_cases c2:j=k2
 ·subst c2;rw [setSlot_same,h2]
 ·rw [setSlot_other c2]
  by_cases c1:j=k1
  ·subst c1;rw [setSlot_same,h1]
  ·rw [setSlot_other c1,setSlot_other c2,setSlot_other c1]
end
theorem step_else {n:Nat} {p:KOp} (s:PS) (h1:p.kind≠1) (h2:p.kind≠2) (h3:p.kind≠3) (h4:p.kind≠4) (h5:p.kind≠5):StepR n p s s:=by
 unfold StepR
 rw [if_neg h1,if_neg h2,if_neg h3,if_neg h4,if_neg h5]
set_option maxRecDepth 100000 in
set_option maxHeartbeats 16000000 in
theorem step_any {n c:Nat} {w0 w:World} {gb g cap:Nat} {B:Nat→Nat} {s:PS} {O:Nat→Nat→Option RTx} {X:Nat→DX} {o:Nat→Tag} (h:Ks n c w0 gb g cap B s.ts s.H O X s.L w o) (hn:0<n) (hr6:6≤w0.heap.size) (hfree:∀ i,i<n→∃ k1 k2,Room2 (O i) k1 k2) (p:KOp) (hp:p.Ok) (hf:s.ts.length+2≤1100000) (hL:s.L.length≤1000000) :
  Calls Tryz.prog 21 #[bptr gb,p.val] w (StepEnd n c w0 gb g cap B s O X w o p):=by
 obtain ⟨i0,hi,hz0,hz1,hz2⟩:=info_parts Tryz.infoStr
 have HI:=hide (⟨hi,hz0,hz1,hz2⟩:_∧_∧_∧_)
 clear hi hz0 hz1 hz2
 obtain ⟨kd,a,b,cc⟩:=p
 obtain ⟨a1,a2,b1,b2,c1,c2⟩:=hp
 dsimp only at a1 a2 b1 b2 c1 c2
 generalize hW0:w.alloc (.cells #[.int .i64 kd,.int .i64 a,.int .i64 b,.int .i64 cc] 39)=W0
 have hB0:Below w.heap.size w W0:=by rw [← hW0];exact (Below.refl _ _).alloc (Nat.le_refl _) _
 obtain ⟨k0,t0⟩:=h.below hB0 (13,0,0)
 have S0:Sx n c w0 gb g cap B s.ts s.H O X s.L w.heap.size ⟨kd,a,b,cc⟩ w o W0 (own2 o w.heap.size fun _=>(13,0,0)):=⟨k0,⟨by rw [← hW0];exact heap_alloc_new w _,own2_high (Nat.le_refl _)⟩,t0⟩
 have H0:=hide S0
 generalize (own2 o w.heap.size fun _=>(13,0,0))=o0 at *
 have HW0:=hide hW0
 have HR:=hide hr6
 have HFr:=hide hfree
 have hia:=pickOf_lt a n hn
 have hib:=pickOf_lt b n hn
 have HF:=hide hf
 have HLn:=hide hL
 obtain ⟨k1,k2,hroom⟩:=hfree _ hia
 have HRo:=hide hroom
 have hca:=of_any k0 hn a a1 a2
 obtain ⟨i,ei⟩:∃ i,pickOf a n=i:=⟨_,rfl⟩
 obtain ⟨j,ej⟩:∃ j,pickOf b n=j:=⟨_,rfl⟩
 have HOf:Hid (∀ {L':List Let} {ts':List RTx} {H':Nat→List RTx} {O':Nat→Nat→Option RTx} {X':Nat→DX} {wX oX},Ks n c w0 gb g cap B ts' H' O' X' L' wX oX→Calls Tryz.prog 26 #[bptr gb,.int .i64 b] wX fun e w'=>e=.returned (bptr (B j))∧Below wX.heap.size wX w'):=fun hz=>by rw [← ej];exact of_any hz hn b b1 b2
 rw [ei] at hca hia HRo
 rw [ej] at hib
 have HCa:=hide hca
 have HE:=hide (⟨ei,ej⟩:_∧_)
 have HBd:=hide (⟨b1,b2,c1,c2⟩:_∧_∧_∧_)
 have HEnd:Hid (∀ wz oz s' X',StepR n ⟨kd,a,b,cc⟩ s s'→Sx n c w0 gb g cap B s'.ts s'.H O X' s'.L w.heap.size ⟨kd,a,b,cc⟩ w o wz oz→(kd≠6→∀ k,(X' k).gone=(X k).gone)→StepEnd n c w0 gb g cap B s O X w o ⟨kd,a,b,cc⟩ (.returned (.bool true)) wz):=fun wz oz s' X' h1 h2 h3=>⟨rfl,oz,s',X',h1,h2.ks,h2.tt,h3⟩
 clear h hB0 k0 t0 S0 hW0 hr6 hfree hf hL hca hroom ei ej a1 a2 b1 b2 c1 c2
 obtain ⟨x0,x1,-,-,xl⟩:=H0.out.cells
 dsimp only at x0 x1
 show Calls _ _ #[bptr gb,.agg #[.int .i64 kd,.int .i64 a,.int .i64 b,.int .i64 cc]] w _
 go_enter Tryz.func21,Tryz.ntmps21
 go_upto_region 1 with (fail)
 rw [HW0.out]
 clear HW0
 go_wp2_with fail
 refine HCa.out.mono ?_
 rintro e w1 ⟨rfl,hB1⟩
 have H1:=hide (H0.out.below hB1)
 clear H0 HCa hB1 x0 x1 xl
 generalize (own2 o0 W0.heap.size fun _=>(14,0,0))=o1 at *
 generalize hbb:w.heap.size=bb at *
 obtain ⟨x0,x1,x2,x3,xl⟩:=H1.out.cells
 dsimp only at x0 x1 x2 x3
 have hk1:¬ (k1:Int)<0:=by omega
 have hk2:¬ (k2:Int)<0:=by omega
 by_cases q1:kd=1
 ·as_aux_lemma=>
   subst q1
   go_wp2_with fail
   refine (begins_any H1.out.ks hia HRo.out.free (by have:=HRo.out.lt;have:=HRo.out.six;omega) b cc HBd.out.1 HBd.out.2.1 HBd.out.2.2.1 HBd.out.2.2.2).mono ?_
   rintro e w2 ⟨rfl,o2,K2,T2⟩
   have H2:=hide (H1.out.next K2 T2)
   clear H1 K2 T2 x0 x1 x2 x3 xl
   go_wp2_with fail
   refine (H2.out.ks.commit hia (k:=k1) (t:=⟨0,0,visOf n (s.H i),[wOp b cc]⟩) (by rw [put_same,setSlot_same]) (by simp) (by have:=HF.out;omega)).mono ?_
   rintro e w3 ⟨rfl,o3,K3,T3⟩
   rw [O_back HRo.out.one] at K3
   have H3:=hide (H2.out.next K3 T3)
   clear H2 K3 T3
   have hsq:(0:Int)<(cntR (s.H i) i:Int)+1:=by omega
   generalize (cntR (s.H i) i:Int)+1=sq at *
   go_wp2_with fail
   go_ret
   refine HEnd.out _ _ ⟨s.ts ++ [comT n i (s.H i) ⟨0,0,visOf n (s.H i),[wOp b cc]⟩],put s.H i (s.H i ++ [comT n i (s.H i) ⟨0,0,visOf n (s.H i),[wOp b cc]⟩]),s.L⟩ X ?_ (H3.out.below ?_) (fun _ _=>rfl)
   ·unfold StepR
    rw [if_pos rfl]
    dsimp only
    rw [HE.out.1]
    rfl
   ·exact (Below.refl _ _).alloc (Nat.le_refl _) _
 by_cases q2:kd=2
 ·as_aux_lemma=>
   subst q2
   clear q1
   have HSq:Hid ((cntR (s.H i) i:Int)+1≤2000000):=by
    have h1:(s.H i).length≤1100000:=H1.out.ks.nk.net.len hia
    have h2:=cntR_le (s.H i) i
    show (cntR (s.H i) i:Int)+1≤2000000
    omega
   go_wp2_with fail
   refine (begins_any H1.out.ks hia HRo.out.free (by have:=HRo.out.lt;have:=HRo.out.six;omega) b cc HBd.out.1 HBd.out.2.1 HBd.out.2.2.1 HBd.out.2.2.2).mono ?_
   rintro e w2 ⟨rfl,o2,K2,T2⟩
   have H2:=hide (H1.out.next K2 T2)
   clear H1 K2 T2 x0 x1 x2 x3 xl
   obtain ⟨x0,x1,x2,x3,xl⟩:=H2.out.cells
   dsimp only at x0 x1 x2 x3
   obtain ⟨d1,d2⟩:=tdiv_fits 7 (by omega) HBd.out.1 HBd.out.2.1
   obtain ⟨d3,d4⟩:=tdiv_fits 7 (by omega) HBd.out.2.2.1 HBd.out.2.2.2
   go_wp2_with fail
   refine (begins_any H2.out.ks hia (k:=k2) (by rw [put_same];exact HRo.out.next _) HRo.out.six (b.tdiv 7) (cc.tdiv 7) d1 d2 d3 d4).mono ?_
   rintro e w3 ⟨rfl,o3,K3,T3⟩
   have H3:=hide (H2.out.next K3 T3)
   clear H2 K3 T3 x0 x1 x2 x3 xl d1 d2 d3 d4
   obtain ⟨b7,eb7⟩:∃ b7,b.tdiv 7=b7:=⟨_,rfl⟩
   obtain ⟨c7,ec7⟩:∃ c7,cc.tdiv 7=c7:=⟨_,rfl⟩
   rw [eb7,ec7] at H3 ⊢
   have HQ7:=hide (⟨eb7,ec7⟩:_∧_)
   clear eb7 ec7
   have hne:k1≠k2:=by have:=HRo.out.lt;omega
   go_wp2_with fail
   refine (H3.out.ks.commit hia (k:=k1) (t:=⟨0,0,visOf n (s.H i),[wOp b cc]⟩) (by rw [put_same,setSlot_other hne,put_same,setSlot_same]) (by simp) (by have:=HF.out;omega)).mono ?_
   rintro e w4 ⟨rfl,o4,K4,T4⟩
   simp only [put_two,put_same] at K4
   have H4:=hide (H3.out.next K4 T4)
   clear H3 K4 T4
   obtain ⟨u,eu⟩:∃ u,comT n i (s.H i) ⟨0,0,visOf n (s.H i),[wOp b cc]⟩=u:=⟨_,rfl⟩
   rw [eu] at H4
   have HQ:Hid ((cntR (s.H i ++ [u]) i:Int)=(cntR (s.H i) i:Int)+1):=by
    have:u.rep=(i:Int):=by rw [← eu];rfl
    show ((cntR (s.H i ++ [u]) i:Nat):Int)=_
    rw [cntR_snoc,if_pos this];rfl
   have hsq:(0:Int)<(cntR (s.H i) i:Int)+1:=by omega
   obtain ⟨sq,esq⟩:∃ sq:Int,(cntR (s.H i) i:Int)+1=sq:=⟨_,rfl⟩
   have hsq2:=HSq.out
   rw [esq] at HQ hsq hsq2 ⊢
   go_upto_region 11 with (fail)
   generalize hwd:World.alloc w4 _=w5
   have hB5:Below w4.heap.size w4 w5:=by rw [← hwd];exact (Below.refl _ _).alloc (Nat.le_refl _) _
   have H5:=hide (H4.out.below hB5)
   have HD5:Hid (Bl w5 (own2 o4 w4.heap.size fun _=>(14,0,0)) (14,0,0) w4.heap.size [.int .i64 i,.int .i64 sq] 62):=⟨by rw [← hwd];exact heap_alloc_new w4 _,own2_high (Nat.le_refl _)⟩
   clear H4 hB5 hwd
   generalize (own2 o4 w4.heap.size fun _=>(14,0,0))=o5 at *
   generalize w4.heap.size=db at *
   go_wp2_with fail
   refine (H5.out.ks.commit hia (k:=k2) (t:=⟨0,0,visOf n (s.H i),[wOp b7 c7]⟩) (by rw [put_same,setSlot_other (Ne.symm hne),setSlot_same]) (by simp) (by have:=HF.out;simp only [List.length_append,List.length_singleton];omega)).mono ?_
   rintro e w6 ⟨rfl,o6,K6,T6⟩
   simp only [put_two,put_same] at K6
   rw [O_two hne HRo.out.one HRo.out.two,put_self] at K6
   have H6:=hide (H5.out.next K6 T6)
   have D6:=HD5.out.touch T6 (fun e=>by obtain ⟨e,-⟩:=e;simp at e)
   have z1:w6.cell? ⟨db,1,none⟩=some (.int .i64 sq):=D6.blk.cell 1
   have zl:=D6.blk.lt
   simp only [put_same,HQ.out]
   clear H5 HD5 K6 T6 D6
   go_wp2_with fail
   go_ret
   refine HEnd.out _ _ ⟨s.ts ++ [u] ++ [comT n i (s.H i ++ [u]) ⟨0,0,visOf n (s.H i),[wOp b7 c7]⟩],put s.H i (s.H i ++ [u] ++ [comT n i (s.H i ++ [u]) ⟨0,0,visOf n (s.H i),[wOp b7 c7]⟩]),s.L⟩ X ?_ (H6.out.below ?_) (fun _ _=>rfl)
   ·unfold StepR
    rw [if_neg (by simp),if_pos rfl]
    dsimp only
    rw [HE.out.1]
    rw [HQ7.out.1,HQ7.out.2]
    exact ⟨u,_,eu.symm,rfl,rfl⟩
   ·exact (Below.refl _ _).alloc (Nat.le_refl _) _
 by_cases q3:kd=3
 ·as_aux_lemma=>
   subst q3
   clear q1 q2
   go_wp2_with fail
   refine (HOf.out H1.out.ks).mono ?_
   rintro e w2 ⟨rfl,hB2⟩
   have H2:=hide (H1.out.below hB2)
   clear H1 hB2 x0 x1 x2 x3 xl
   generalize (own2 o1 w1.heap.size fun _=>(14,0,0))=o2 at *
   go_wp2_with fail
   refine (H2.out.ks.tells hia hib).mono ?_
   rintro e w3 ⟨rfl,o3,hs,K3,T3,R3⟩
   have H3:=hide (H2.out.next K3 T3)
   have HR3:=hide R3
   clear H2 K3 T3 R3
   go_wp2_with fail
   go_ret
   refine HEnd.out _ _ ⟨s.ts,put s.H j hs,s.L⟩ _ ?_ H3.out (fun _ k=>tell_gone _ _ _ _ _ _)
   unfold StepR
   rw [if_neg (by simp),if_neg (by simp),if_pos rfl]
   dsimp only
   rw [HE.out.1,HE.out.2]
   exact ⟨hs,rfl,HR3.out⟩
 by_cases q4:kd=4
 ·as_aux_lemma=>
   subst q4
   clear q1 q2 q3
   go_wp2_with fail
   refine (HOf.out H1.out.ks).mono ?_
   rintro e w2 ⟨rfl,hB2⟩
   have H2:=hide (H1.out.below hB2)
   clear H1 hB2 x0 x1 x2 x3 xl
   generalize (own2 o1 w1.heap.size fun _=>(14,0,0))=o2 at *
   go_wp2_with fail
   refine (H2.out.ks.summary hib).mono ?_
   rintro e w3 ⟨rfl,o3,K3,T3⟩
   have H3:=hide (H2.out.next K3 T3)
   clear H2 K3 T3
   go_wp2_with fail
   refine (H3.out.ks.answer hia hib).mono ?_
   rintro e w4 ⟨rfl,o4,X4,K4,T4,G4⟩
   have H4:=hide (H3.out.next K4 T4)
   have HG4:=hide G4
   clear H3 K4 T4 G4
   have hlok:=H4.out.ks.letOk hia (vecOf (visOf n (s.H j)))
   obtain ⟨lv,b1,b2⟩:=H4.out.ks.blk
   obtain ⟨lo,lcap,el,-⟩:=b2.row.shape
   subst el
   have y1:w4.cell? ⟨gb,1,none⟩=some (.slice lo s.L.length lcap):=b1.blk.cell 1
   have yl:=b1.blk.lt
   have HBl:=hide (⟨b1,b2⟩:_∧_)
   obtain ⟨tx,etx⟩:∃ tx,Let.txt n ⟨i,s.H i,vecOf (visOf n (s.H j))⟩=tx:=⟨_,rfl⟩
   rw [etx]
   have hLn:=HLn.out
   go_wp2_with (at_builtin;refine wpList_append_own_at _ rfl _ _ 41 rfl 0 9 i0 (.string ⟨#[]⟩) 1 16 Tryz.underlying41 HI.out.1 HI.out.2.1 HI.out.2.2.1 HI.out.2.2.2 rfl (by decide) _ _ _ rfl (World.ownsRow.alloc HBl.out.2.row _) ⟨w4.heap.size,0,none⟩ 1 1 [.string tx] rfl rfl (cell_one_new _ _ _) (by intro u hu;simp at hu;subst hu;rfl) (by unfold maxLen;omega) (by omega) (Nat.zero_le _) ?_;intro v5 w5 hown hgrow hnil hat;obtain ⟨g1,cap1,rfl,-,-,-,-,-⟩:=Row.pos hown (by omega);have hb5:=(HBl.out.1.alloc (.cells #[.string tx] 9)).grew hgrow HBl.out.2.tag (by simp);have q3:=hb5.blk.cell 1;have p3:=hb5.blk.frozen 1;have hl1:=hb5.blk.lt;clear hb5)
   go_ret
   have hBa:Below w4.heap.size w4 (w4.alloc (.cells #[.string tx] 9)):=(Below.refl _ _).alloc (Nat.le_refl _) _
   have H5:=H4.out.below hBa
   obtain ⟨o6,K6,T6⟩:=H5.ks.keep HR.out (cell_later hBa y1) hlok (by rw [etx];exact hown) hgrow hat
   refine HEnd.out _ _ ⟨s.ts,s.H,s.L ++ [⟨i,s.H i,vecOf (visOf n (s.H j))⟩]⟩ X4 ?_ (H5.next K6 T6) (fun _ k=>HG4.out k)
   unfold StepR
   rw [if_neg (by simp),if_neg (by simp),if_neg (by simp),if_pos rfl]
   dsimp only
   rw [HE.out.1,HE.out.2]
 by_cases q5:kd=5
 ·as_aux_lemma=>
   subst q5
   clear q1 q2 q3 q4
   obtain ⟨lv,b1,b2⟩:=H1.out.ks.blk
   obtain ⟨lo,lcap,el,-,-,hlc⟩:=b2.row.shape
   subst el
   have y1:w1.cell? ⟨gb,1,none⟩=some (.slice lo s.L.length lcap):=b1.blk.cell 1
   have yl:=b1.blk.lt
   have hLn:=HLn.out
   by_cases hz:s.L.length=0
   ·as_aux_lemma=>
     have hz':¬ (0:Int)<s.L.length:=by omega
     clear hlc b1 b2 HOf
     go_wp2_with fail
     go_ret
     refine HEnd.out _ _ s X ?_ H1.out (fun _ _=>rfl)
     unfold StepR
     rw [if_neg (by simp),if_neg (by simp),if_neg (by simp),if_neg (by simp),if_pos rfl,dif_neg (by omega)]
   ·as_aux_lemma=>
     have hz':(0:Int)<s.L.length:=by omega
     have hpos:0<s.L.length:=by omega
     have hpl:=pickOf_lt cc s.L.length hpos
     have hpk:=fun W=>kpick_any cc s.L.length W hpos hLn HBd.out.2.2.1 HBd.out.2.2.2
     have hok:=H1.out.ks.ok s.L[pickOf cc s.L.length] (List.getElem_mem hpl)
     obtain ⟨g2,e2,hg2⟩:=hlc (pickOf cc s.L.length) (by simp;omega)
     subst e2
     rw [strs_get _ _ (by simp;omega)] at hg2
     simp only [List.getElem_map] at hg2
     have HSt:Hid (∀ hs,RecH n (s.H j) (beyondL s.L[pickOf cc s.L.length].hs newX s.L[pickOf cc s.L.length].v) hs→StepR n ⟨5,a,b,cc⟩ s ⟨s.ts,put s.H j hs,s.L⟩):=fun hs hr=>by
      unfold StepR
      rw [if_neg (by simp),if_neg (by simp),if_neg (by simp),if_neg (by simp),if_pos rfl,dif_pos hpos]
      dsimp only
      rw [HE.out.2]
      exact ⟨hs,rfl,hr⟩
     obtain ⟨l,el⟩:∃ l,s.L[pickOf cc s.L.length]=l:=⟨_,rfl⟩
     rw [el] at hg2 HSt hok
     obtain ⟨tx,etx⟩:∃ tx,Let.txt n l=tx:=⟨_,rfl⟩
     rw [etx] at hg2
     have m0:=Bel.cell y1
     have m1:=Bel.cell x2
     have m2:=Bel.cell x3
     have m3:=Bel.cell hg2
     have HPk:Hid (∀ f:Fam (Bel w1),Calls Tryz.prog 29 #[.int .i64 cc,.int .i64 s.L.length] f.w fun e w''=>e=.returned (.int .i64 (pickOf cc s.L.length))∧∃ g:Fam (Bel w1),w''=g.w):=fun f=>Bel.call f ((hpk f.w).mono fun e w' ⟨h1,h2⟩=>⟨h1,by rw [h2];exact Below.refl _ _⟩)
     have HOq:Hid (∀ f:Fam (Bel w1),Calls Tryz.prog 26 #[bptr gb,.int .i64 b] f.w fun e w''=>e=.returned (bptr (B j))∧∃ g:Fam (Bel w1),w''=g.w):=fun f=>Bel.call f (HOf.out (H1.out.ks.below f.ok (14,0,0)).1)
     have HL:=hide (⟨hok,etx⟩:_∧_)
     have hpl':((pickOf cc s.L.length:Nat):Int)<s.L.length:=by omega
     clear hlc b1 b2 HOf hpk hok hg2 el etx
     generalize pickOf cc s.L.length=k at *
     go_upto_region 24 with (fail)
     clear x0 x1 x2 x3 y1
     refine region_fam_tail (Bel w1) 18 (by kernel_rfl) (by kernel_rfl) (Below.refl _ _).drew ?_
     simp only [List.take_succ_cons,List.take_zero,List.drop_succ_cons,List.drop_zero]
     repeat (go_big_quiet_step (first | (go_at_call 29;exact HPk.out _) | (go_at_call 26;exact HOq.out _)))
     refine wpQuiet_nil ?_
     intro _ hw'
     obtain ⟨fq,rfl⟩:=hw'
     obtain ⟨w5,hB5⟩:=fq
     try dsimp only
     have H5:=hide (H1.out.below hB5)
     clear H1 m0 m1 m2 m3 HPk HOq hB5
     generalize own2 o1 _ (fun _=>(14,0,0))=o5 at *
     go_wp2_with fail
     rw [← HL.out.2]
     refine (H5.out.ks.receive hib HL.out.1).mono ?_
     rintro e w6 ⟨rfl,o6,hs,X6,K6,T6,R6,G6⟩
     have H6:=hide (H5.out.next K6 T6)
     have HG6:=hide (⟨R6,G6⟩:_∧_)
     clear H5 K6 T6 R6 G6
     go_wp2_with fail
     go_ret
     exact HEnd.out _ _ ⟨s.ts,put s.H j hs,s.L⟩ X6 (HSt.out hs HG6.out.1) H6.out (fun _ k=>HG6.out.2 k)
 by_cases q6:kd=6
 ·as_aux_lemma=>
   subst q6
   clear q1 q2 q3 q4 q5
   go_wp2_with fail
   refine (H1.out.ks.prune hia).mono ?_
   rintro e w2 ⟨rfl,o2,K2,T2⟩
   have H2:=hide (H1.out.next K2 T2)
   clear H1 K2 T2 x0 x1 x2 x3 xl
   go_wp2_with fail
   go_ret
   exact HEnd.out _ _ s _ (step_else s (by simp) (by simp) (by simp) (by simp) (by simp)) H2.out (fun h=>absurd rfl h)
 ·as_aux_lemma=>
   have e1:(kd == 1)=false:=by simpa using q1
   go_wp2_with fail
   go_ret
   exact HEnd.out _ _ s X (step_else s q1 q2 q3 q4 q5) H1.out (fun _ _=>rfl)
end Go.Proofs.YtiplgdkpnhamaaaGreatDoor.Tv
namespace Go.Proofs.YtiplgdkpnhamaaaGreatDoor.Tv
open Go.RowKit
theorem HistG.uniq {n:Nat} {ts:List RTx} (h:HistG n ts):ts.Pairwise fun u v=>¬ (u.rep=v.rep∧u.seq=v.seq):=by
 rw [List.pairwise_iff_getElem]
 intro i j hi hj hij e
 have:=h.inj hi hj e.1 e.2
 omega
theorem seen_mem {n:Nat} {ts hs:List RTx} (hT:HistG n ts) (hH:HistG n hs) (hm:∀ v,v ∈ hs→v ∈ ts) {u:RTx} (hu:u ∈ ts):seesV (visOf n hs) u.rep u.seq=true ↔ u ∈ hs:=by
 rw [mem_seen hT hH hm hu,sees_le]
 obtain ⟨j,hj,e⟩:=List.getElem_of_mem hu
 have:=hT.tx j hj
 rw [e] at this
 rw [visOf_get this.rN]
theorem vis_few {n:Nat} {hs:List RTx} (hl:hs.length≤1100000) (r:Nat):(visOf n hs).getD r 0≤1100000:=by
 by_cases c:r<n
 ·rw [visOf_get c];have:=cntR_le hs r;omega
 ·rw [visOf_out (by omega)];omega
section
variable {n c:Nat} {w0 w:World} {gb g cap:Nat} {B:Nat→Nat} {ts:List RTx} {H:Nat→List RTx} {O:Nat→Nat→Option RTx} {X:Nat→DX} {L:List Let} {o:Nat→Tag} {i:Nat}
def free1 (t:Tag):Prop:=t.1≠1∧t.1≠3∧t.1≠4∧t.1≠7
theorem free_kg {t:Tag} (h:free1 t) (c:Nat):¬ kg c t:=fun ⟨e,_⟩=>by
 obtain ⟨a,b,d,f⟩:=h
 rcases e with e | e | e | e
 ·exact a e
 ·exact b e
 ·exact d e
 ·exact f e
theorem free_tgc {t:Tag} (h:free1 t) (c i:Nat):t≠tgc c i:=fun e=>h.1 (by rw [e];rfl)
theorem Ks.len (h:Ks n c w0 gb g cap B ts H O X L w o) (hi:i<n):(H i).length≤1100000:=h.nk.net.len hi
theorem newD_d (n:Nat):newD n=dD n [] (fun _=>none):=by
 unfold newD dD
 congr 1
 refine List.ext_getElem (by simp [visOf]) fun j h1 h2=>?_
 simp [visOf,cntR]
theorem Ks.start {rv:Value} (hN:Net n w o tg1 B [] (fun _=>newD n) (fun _=>newX)) (h2:GrpIn w o gb rv (.slice none 0 0) B n) (h3:TouchT nz w0 (fun _=>(0,0,0)) w o) (hn:0<n):∃ g cap,rv=.slice (some ⟨g,0,none⟩) n cap∧Ks n 0 w0 gb g cap B [] (fun _=>[]) (fun _ _=>none) (fun _=>newX) [] w o:=by
 obtain ⟨g,cap,e,-⟩:=Row.pos h2.row.row hn
 subst e
 refine ⟨g,cap,rfl,⟨?_,fun i k r hi hk=>?_⟩,⟨_,h2.blk,World.ownsRow_nil _ _ _ _,fun q hq=>by cases hq⟩,h2.row,h3,fun l hl=>by cases hl⟩
 ·rw [newD_d] at hN
  exact hN
 ·show noVec.get r≤_
  have:noVec.get r=0:=by
   unfold Vec.get noVec Vec.list
   match r with
   | 0 | 1 | 2 | 3 | 4=>rfl
   | r+5=>rfl
  rw [this];omega
end
end Go.Proofs.YtiplgdkpnhamaaaGreatDoor.Tv
namespace Go.Proofs.YtiplgdkpnhamaaaGreatDoor.Tv
open Go.RowKit
end Go.Proofs.YtiplgdkpnhamaaaGreatDoor.Tv
namespace Go.Proofs.YtiplgdkpnhamaaaGreatDoor.Tv
open Go.RowKit
structure KIn (w:World) (sv:Value) (ps:List KOp):Prop where
 ex:∃ ao cp,sv=.slice ao ps.length cp∧∀ k (h:k<ps.length),∃ g off,ao=some ⟨g,off,none⟩∧g<w.heap.size∧∀ j,j<4→w.cell? ⟨g,off+k * 4+j,none⟩=ps[k].cells[j]?
 ok:∀ k (h:k<ps.length),ps[k].Ok
 most:ps.length≤262144
theorem step_few {n:Nat} {p:KOp} {s s':PS} (h:StepR n p s s'):s'.ts.length≤s.ts.length+2∧s'.L.length≤s.L.length+1:=by
 unfold StepR at h
 split at h
 ·subst h;simp
 ·split at h
  ·obtain ⟨u,v,-,-,rfl⟩:=h;simp
  ·split at h
   ·obtain ⟨hs,rfl,-⟩:=h;simp
   ·split at h
    ·subst h;simp
    ·split at h
     ·split at h
      ·obtain ⟨hs,rfl,-⟩:=h;simp
      ·subst h;simp
     ·subst h;simp
end Go.Proofs.YtiplgdkpnhamaaaGreatDoor.Tv
namespace Go.Proofs.YtiplgdkpnhamaaaGreatDoor.Tv
open Go.RowKit
end Go.Proofs.YtiplgdkpnhamaaaGreatDoor.Tv
