/- The texts D4, D5, D6, D7, D8, D9, E1, joined. -/
import Derived.Test.YtiplgdkpnhamaaaGreatDoorE14
import Derived.Test.YtiplgdkpnhamaaaGreatDoorE09
import Derived.Shelf.Abstract
import Derived.Deep.RegionLaw
import Derived.Deep.RegionWith
import Derived.Deep.DeepCutAuto
namespace Go.Proofs.YtiplgdkpnhamaaaGreatDoor
open Go.RowKit
theorem enters_dropfn (args:Array Value) (w:World):(callFunc 207 args).run Tryz.prog w=.ok (.enter 207 args) w:=enters_of Tryz.func207 (by kernel_rfl) rfl args w
theorem del_nil {s:ByteArray} (h:s.size ≤ maxLen) (ty:TypeId) (w:World):(Builtin.delete_ #[244,9] ty #[.map none,.string s]).run Tryz.prog w=.ok (.tuple #[]) w:=by
 obtain ⟨kl,hkl⟩:=str_key h
 simp [Builtin.delete_,run_underlying Tryz.underlying244,str_keyed.check w true hkl,Result.andThen]
theorem len_nil (ty:TypeId) (w:World):(Builtin.len_ #[244] ty #[.map none]).run Tryz.prog w=.ok (.int .i64 0) w:=by
 simp [Builtin.len_,run_underlying Tryz.underlying244,Result.andThen,goInt]
set_option maxRecDepth 100000 in
set_option maxHeartbeats 8000000 in
theorem drop_st {w:World} {o:Nat → Own} {sb vb cb eb n:Nat} {ov:Value} {cv:Place → Option Value} {ev:ByteArray → Option Nat} {kv:Nat → Value} {st:St} (h:StP w o sb vb cb eb ov cv ev kv n st) (x:VName) (hx:x.Ok) (hn:n < 1000000000000) :
  Calls Tryz.prog 177 #[bptr sb,x.val] w fun e w'=>e=.returned (.tuple #[]) ∧ ∃ o',StIn w' o' sb n (dropSt st x) ∧ QT stoTag w o w' o':=by
 have hmax:n < maxLen:=by unfold maxLen; omega
 obtain ⟨kl,hk⟩:=hx.lit
 have hxp:=hx.at_
 obtain ⟨⟨px,py⟩,⟨dr,dq⟩⟩:=x
 simp only [VName.val] at *
 generalize hW0:w.alloc (.cells #[.string px,.string py,.int .i64 dr,.int .i64 dq] 233)=W0
 have hB0:Below w.heap.size w W0:=by rw [← hW0]; exact (Below.refl _ _).alloc (Nat.le_refl _) _
 have hbx:Blk W0 w.heap.size [.string px,.string py,.int .i64 dr,.int .i64 dq] 233:=by rw [← hW0]; exact heap_alloc_new w _
 have h0:StP W0 o sb vb cb eb ov cv ev kv n st:=h.below hB0
 have s5:=Bel.cell (show W0.cell? ⟨sb,5,none⟩=some (.map (some vb)) from h0.blk.blk.cell 5)
 have x0:=Bel.cell (show W0.cell? ⟨w.heap.size,0,none⟩=some (.string px) from hbx.cell 0)
 have x1:=Bel.cell (show W0.cell? ⟨w.heap.size,1,none⟩=some (.string py) from hbx.cell 1)
 have x2:=Bel.cell (show W0.cell? ⟨w.heap.size,2,none⟩=some (.int .i64 dr) from hbx.cell 2)
 have x3:=Bel.cell (show W0.cell? ⟨w.heap.size,3,none⟩=some (.int .i64 dq) from hbx.cell 3)
 have HH:=hide (⟨h,h0,hbx,hB0⟩:_ ∧ _ ∧ _ ∧ _)
 have HW0:=hide hW0
 have HX:=hide (⟨hk,hxp,hx⟩:_ ∧ _ ∧ _)
 clear h h0 hbx hB0 hk hxp hW0 hx
 go_enter Tryz.func177,Tryz.ntmps177
 go_wp2_with fail
 rw [HW0.out]
 refine region_fam_tail (Bel W0) 5 (by kernel_rfl) (by kernel_rfl) (Below.refl _ _).drew ?_
 simp only [List.take_succ_cons,List.take_zero,List.drop_succ_cons,List.drop_zero]
 repeat (go_big_quiet_step (fail))
 refine wpQuiet_nil ?_
 intro _ hw'
 obtain ⟨fq,rfl⟩:=hw'
 obtain ⟨W1,hB1⟩:=fq
 try dsimp only
 -- the version goes
 have h1:=HH.out.2.1.below hB1
 obtain ⟨w2,hrun1,hM2,hg2⟩:=h1.vers.drop (t:=178) name_keyed Tryz.underlying178 name_inj (a:=⟨⟨px,py⟩,⟨dr,dq⟩⟩) HX.out.1 0
 have hq2:QT (·=.mv) W1 o w2 o:=QT.ofGrown hg2 h1.versT
 have h2:StP w2 o sb vb cb eb ov cv ev kv n { st with vers:=setVer st.vers ⟨⟨px,py⟩,⟨dr,dq⟩⟩ none }:=h1.setVers hq2 hM2
 have hvw:=HH.out.1.vers.lt
 have hbx2:Blk w2 w.heap.size [.string px,.string py,.int .i64 dr,.int .i64 dq] 233:=(HH.out.2.2.1.below hB1).move (hg2.block _ (HH.out.2.2.1.below hB1).lt (fun e=>by injection e with e; omega))
 have q2:QT stoTag w o w2 o:=((QT.ofBelow HH.out.2.2.2).below hB1).trans (hq2.mono fun t ht=>by rw [ht]; trivial)
 have s6:=Bel.cell (show w2.cell? ⟨sb,6,none⟩=some (.map (some cb)) from h2.blk.blk.cell 6)
 have y0:=Bel.cell (show w2.cell? ⟨w.heap.size,0,none⟩=some (.string px) from hbx2.cell 0)
 have y1:=Bel.cell (show w2.cell? ⟨w.heap.size,1,none⟩=some (.string py) from hbx2.cell 1)
 have hlk:∀ f:Fam (Bel w2),(Instr.lookup 179 (.map (some cb)) (.agg #[.string px,.string py]) false).run Tryz.prog f.w=.ok (cvAt cv ⟨px,py⟩) f.w:=fun f=>came_look h2 HX.out.2.1 (f.ok.block _ h2.came.lt)
 have H2:=hide (⟨h2,hbx2,q2⟩:_ ∧ _ ∧ _)
 simp only [VName.val] at hrun1
 clear h1 hM2 hg2 hq2 h2 hbx2 q2 s5 x0 x1 x2 x3
 go_wp2_with fail
 refine region_fam_tail (Bel w2) 8 (by kernel_rfl) (by kernel_rfl) (Below.refl _ _).drew ?_
 simp only [List.take_succ_cons,List.take_zero,List.drop_succ_cons,List.drop_zero]
 repeat (go_big_quiet_step (fail))
 refine wpQuiet_nil ?_
 intro _ hw'
 obtain ⟨fq,rfl⟩:=hw'
 obtain ⟨W3,hB3⟩:=fq
 try dsimp only
 clear hrun1 s6 y0 y1 hlk
 have hrow3:=(H2.out.1.below hB3).rowAt ⟨px,py⟩
 have hnb:=H2.out.2.1.below hB3
 have hnl:w.heap.size < W3.heap.size:=hnb.lt
 have hrl:∀ q,(cvAt cv ⟨px,py⟩).ownBlock=some q → q < w.heap.size:=fun q hq=>(HH.out.1.rowAt ⟨px,py⟩).lt hq
 have hD:=delf_dots W3 (cvAt cv ⟨px,py⟩) (st.came ⟨px,py⟩) hrow3.row 207 #[bptr w.heap.size] (fun d=>decide (d=⟨dr,dq⟩)) enters_dropfn (fun W hW d _=>by
  have hb:W.heap[w.heap.size]? = W3.heap[w.heap.size]?:=hW.block _ hnl (fun e=>by have:=hrl _ e; omega)
  exact dropfn W w.heap.size d ⟨dr,dq⟩ (cell_blk hb (hnb.cell 2)) (cell_blk hb (hnb.cell 3)))
 go_wp2_with fail
 refine hD.mono ?_
 rintro e W4 ⟨v4,rfl,hR4,hv4,hT4⟩
 have hL:(leftOf' (st.came ⟨px,py⟩) ⟨dr,dq⟩)=(st.came ⟨px,py⟩).filter fun e=>!decide (e=⟨dr,dq⟩):=rfl
 rw [← hL] at hR4
 clear hL hD
 have h3:=H2.out.1.below hB3
 have q3:QT (fun t=>t=.mc ∨ t=.row ⟨px,py⟩) W3 o W4 o:=⟨hT4.mono fun q _ e=>Or.inr (hrow3.tag q e),fun _ _=>rfl⟩
 have hnb4:Blk W4 w.heap.size [.string px,.string py,.int .i64 dr,.int .i64 dq] 233:=hnb.move (hT4.block _ hnl (fun e=>by have:=hrl _ e; omega))
 have hsb4:Qb W4 o .sto sb _ 183:=h3.blk.touch q3 (by simp)
 have hcm4:=h3.came.movet (A:=(·=.row ⟨px,py⟩)) (w':=W4) (o':=o) ⟨hT4.mono fun q _ e=>hrow3.tag q e,fun _ _=>rfl⟩ (by rw [h3.cameT]; simp)
 have s6:=Bel.cell (show W4.cell? ⟨sb,6,none⟩=some (.map (some cb)) from hsb4.blk.cell 6)
 have y0:=Bel.cell (show W4.cell? ⟨w.heap.size,0,none⟩=some (.string px) from hnb4.cell 0)
 have y1:=Bel.cell (show W4.cell? ⟨w.heap.size,1,none⟩=some (.string py) from hnb4.cell 1)
 have QR:Qc W4 o (.row ⟨px,py⟩) 62 2 v4 (leftOf' (st.came ⟨px,py⟩) ⟨dr,dq⟩).length ((leftOf' (st.came ⟨px,py⟩) ⟨dr,dq⟩).flatMap Dot.cells):=⟨hR4,fun q hq=>hrow3.tag q (by rw [← hv4]; exact hq)⟩
 obtain ⟨ao,cap,rfl,hcap,hmx,-⟩:=hR4.shape
 have H4:=hide (⟨h3,q3,hnb4,hsb4,hcm4,QR,H2.out.2.2.below hB3⟩:_ ∧ _ ∧ _ ∧ _ ∧ _ ∧ _ ∧ QT stoTag w o W3 o)
 clear hrow3 hnb h3 q3 hnb4 hsb4 hcm4 QR hR4 hv4 hT4
 obtain ⟨kp,hkp⟩:=HX.out.2.1.lit
 have HKP:=hide hkp
 clear hkp
 by_cases hlen:0 < (leftOf' (st.came ⟨px,py⟩) ⟨dr,dq⟩).length
 ·have hnil:¬ leftOf' (st.came ⟨px,py⟩) ⟨dr,dq⟩=[]:=fun e=>by rw [e] at hlen; simp at hlen
  go_wp2_with fail
  refine region_fam_tail (Bel W4) 7 (by kernel_rfl) (by kernel_rfl) (Below.refl _ _).drew ?_
  simp only [List.take_succ_cons,List.take_zero,List.drop_succ_cons,List.drop_zero]
  repeat (go_big_quiet_step (fail))
  refine wpQuiet_nil ?_
  intro _ hw'
  obtain ⟨fq,rfl⟩:=hw'
  obtain ⟨W5,hB5⟩:=fq
  try dsimp only
  clear s6 y0 y1
  obtain ⟨u0,hu0⟩:∃ u,cv ⟨px,py⟩=some u:=by
   cases c:cv ⟨px,py⟩ with
   | none=>
    have:=H4.out.1.rowN _ c
    have c2:st.came ⟨px,py⟩=[]:=this
    rw [c2] at hlen; simp [leftOf'] at hlen
   | some u=>exact ⟨u,rfl⟩
  obtain ⟨w6,hrun6,hM6,hg6⟩:=(H4.out.2.2.2.2.1.move (w':=W5) (hB5.block _ H4.out.2.2.2.2.1.lt)).store_old (t:=179) place_keyed Tryz.underlying179 place_inj hmax HKP.out hu0 (.slice ao (leftOf' (st.came ⟨px,py⟩) ⟨dr,dq⟩).length cap)
  have tcb:o cb=.mc:=H4.out.1.cameT
  have k6:QT (·=.mc) W5 o w6 o:=QT.ofGrown hg6 tcb
  have k7:QT (fun t=>t=.mc ∨ t=.row ⟨px,py⟩) W3 o w6 o:=(H4.out.2.1.below hB5).trans (k6.mono fun t ht=>Or.inl ht)
  have R6:=(H4.out.2.2.2.2.2.1.below hB5).touch k6 (by simp)
  have h6:=H4.out.1.setRow (p:=⟨px,py⟩) (l:=leftOf' (st.came ⟨px,py⟩) ⟨dr,dq⟩) k7 hM6 (fun q hq=>by simp [hq]) (by simp) R6
  have HE:=hide (⟨h6,H4.out.2.2.2.2.2.2.trans (k7.mono fun t ht=>by rcases ht with rfl | rfl <;> trivial)⟩:_ ∧ QT stoTag w o w6 o)
  clear tcb k6 k7 R6 h6 hM6 hg6
  simp only [Place.val] at hrun6
  go_wp2_with fail
  have e:dropSt st ⟨⟨px,py⟩,⟨dr,dq⟩⟩={ st with vers:=setVer st.vers ⟨⟨px,py⟩,⟨dr,dq⟩⟩ none,came:=setCame st.came ⟨px,py⟩ (leftOf' (st.came ⟨px,py⟩) ⟨dr,dq⟩) }:=by
   unfold dropSt; rw [if_neg hnil]
  have hfin:∃ o',StIn w6 o' sb n (dropSt st ⟨⟨px,py⟩,⟨dr,dq⟩⟩) ∧ QT stoTag w o w6 o':=by
   rw [e]; exact ⟨_,⟨_,_,_,_,_,_,_,HE.out.1⟩,HE.out.2⟩
  exact bodyPost_ret (v:=.tuple #[]) (by simp [results,Tryz.results177,go_sem]) rfl ⟨rfl,hfin⟩
 ·have hnil:leftOf' (st.came ⟨px,py⟩) ⟨dr,dq⟩=[]:=List.eq_nil_of_length_eq_zero (by omega)
  have HNIL:=hide hnil
  clear hnil
  go_wp2_with fail
  refine region_fam_tail (Bel W4) 6 (by kernel_rfl) (by kernel_rfl) (Below.refl _ _).drew ?_
  simp only [List.take_succ_cons,List.take_zero,List.drop_succ_cons,List.drop_zero]
  repeat (go_big_quiet_step (fail))
  refine wpQuiet_nil ?_
  intro _ hw'
  obtain ⟨fq,rfl⟩:=hw'
  obtain ⟨W5,hB5⟩:=fq
  try dsimp only
  clear s6 y0 y1
  obtain ⟨w6,hrun6,hM6,hg6⟩:=(H4.out.2.2.2.2.1.move (w':=W5) (hB5.block _ H4.out.2.2.2.2.1.lt)).drop (t:=179) place_keyed Tryz.underlying179 place_inj HKP.out 0
  have tcb:o cb=.mc:=H4.out.1.cameT
  have k6:QT (·=.mc) W5 o w6 o:=QT.ofGrown hg6 tcb
  have k7:QT (fun t=>t=.mc ∨ t=.row ⟨px,py⟩) W3 o w6 o:=(H4.out.2.1.below hB5).trans (k6.mono fun t ht=>Or.inl ht)
  have h6:=H4.out.1.cutRow (p:=⟨px,py⟩) k7 hM6 (fun q hq=>by simp [hq]) (by simp)
  have q6:QT stoTag w o w6 o:=H4.out.2.2.2.2.2.2.trans (k7.mono fun t ht=>by rcases ht with rfl | rfl <;> trivial)
  have hb6:Blk w6 w.heap.size [.string px,.string py,.int .i64 dr,.int .i64 dq] 233:=(H4.out.2.2.1.below hB5).move (hg6.block _ (H4.out.2.2.1.below hB5).lt (fun e=>by injection e with e; have:=HH.out.1.came.lt; omega))
  have H6:=hide (⟨h6,hb6,q6⟩:_ ∧ _ ∧ _)
  clear tcb k6 k7 h6 q6 hb6 hM6 hg6
  simp only [Place.val] at hrun6
  have s7:=Bel.cell (show w6.cell? ⟨sb,7,none⟩=some (.map (some eb)) from H6.out.1.blk.blk.cell 7)
  have y0:=Bel.cell (show w6.cell? ⟨w.heap.size,0,none⟩=some (.string px) from H6.out.2.1.cell 0)
  have y1:=Bel.cell (show w6.cell? ⟨w.heap.size,1,none⟩=some (.string py) from H6.out.2.1.cell 1)
  have hlk:∀ f:Fam (Bel w6),(Instr.lookup 180 (.map (some eb)) (.string px) false).run Tryz.prog f.w=.ok (.map (ev px)) f.w:=fun f=>els_look H6.out.1.els HX.out.2.1.key (f.ok.block _ H6.out.1.els.lt)
  go_wp2_with fail
  refine region_fam_tail (Bel w6) 11 (by kernel_rfl) (by kernel_rfl) (Below.refl _ _).drew ?_
  simp only [List.take_succ_cons,List.take_zero,List.drop_succ_cons,List.drop_zero]
  repeat (go_big_quiet_step (fail))
  refine wpQuiet_nil ?_
  intro _ hw'
  obtain ⟨fq,rfl⟩:=hw'
  obtain ⟨W7,hB7⟩:=fq
  try dsimp only
  clear s7 y0 y1 hlk hrun6
  cases hev:ev px with
  | none=>
   have hdn:=fun w=>del_nil HX.out.2.1.el 0 w
   have h7:=H6.out.1.below hB7
   have hb7:=H6.out.2.1.below hB7
   have s7:=Bel.cell (show W7.cell? ⟨sb,7,none⟩=some (.map (some eb)) from h7.blk.blk.cell 7)
   have y0:=Bel.cell (show W7.cell? ⟨w.heap.size,0,none⟩=some (.string px) from hb7.cell 0)
   have hlk:∀ f:Fam (Bel W7),(Instr.lookup 180 (.map (some eb)) (.string px) false).run Tryz.prog f.w=.ok (.map none) f.w:=fun f=>by
    have:=els_look h7.els HX.out.2.1.key (f.ok.block _ h7.els.lt)
    rw [hev] at this; exact this
   have hln:=fun w=>len_nil 3 w
   have H8:=hide (⟨h7,hb7,H6.out.2.2.below hB7⟩:_ ∧ _ ∧ QT stoTag w o W7 o)
   have HEV:=hide hev
   clear h7 hb7 hev
   go_wp2_with fail
   refine region_fam (Bel W7) (by kernel_rfl) (by kernel_rfl) (Below.refl _ _).drew ?_
   repeat (go_big_quiet_step (fail))
   refine wpQuiet_nil ?_
   intro _ hw'
   obtain ⟨fq,rfl⟩:=hw'
   obtain ⟨W9,hB9⟩:=fq
   try dsimp only
   clear s7 y0 hlk hln hdn
   have h9:=H8.out.1.below hB9
   have hb9:=H8.out.2.1.below hB9
   have s7:=Bel.cell (show W9.cell? ⟨sb,7,none⟩=some (.map (some eb)) from h9.blk.blk.cell 7)
   have y0:=Bel.cell (show W9.cell? ⟨w.heap.size,0,none⟩=some (.string px) from hb9.cell 0)
   clear h9 hb9
   go_wp2_with fail
   refine region_fam_tail (Bel W9) 7 (by kernel_rfl) (by kernel_rfl) (Below.refl _ _).drew ?_
   simp only [List.take_succ_cons,List.take_zero,List.drop_succ_cons,List.drop_zero]
   repeat (go_big_quiet_step (fail))
   refine wpQuiet_nil ?_
   intro _ hw'
   obtain ⟨fq,rfl⟩:=hw'
   obtain ⟨W10,hB10⟩:=fq
   try dsimp only
   clear s7 y0
   have h10:=(H8.out.1.below hB9).below hB10
   obtain ⟨kl3,hkl3⟩:=str_key HX.out.2.1.key
   obtain ⟨w11,hrun11,hM11,hg11⟩:=h10.els.drop (t:=180) str_keyed Tryz.underlying180 set_inj hkl3 0
   have k11:QT (·=.me) W10 o w11 o:=QT.ofGrown hg11 h10.elsT
   have hno:∀ e,st.els px e=false:=h10.setN px HEV.out
   have h11:=(h10.cutSet (key:=px) k11 hM11 (fun q hq=>by simp [hq]) (by simp) hno)
   have HE:=hide (⟨h11,((H8.out.2.2.below hB9).below hB10).trans (k11.mono fun t ht=>by rw [ht]; trivial)⟩:_ ∧ QT stoTag w o w11 o)
   have e:dropSt st ⟨⟨px,py⟩,⟨dr,dq⟩⟩={ st with vers:=setVer st.vers ⟨⟨px,py⟩,⟨dr,dq⟩⟩ none,came:=setCame st.came ⟨px,py⟩ [] }:=by
    unfold dropSt
    rw [if_pos HNIL.out,HNIL.out]
    have:setEls st.els ⟨px,py⟩ false=st.els:=by
     funext k e
     unfold setEls
     split
     ·rename_i c; rw [c.1]; exact (hno e).symm
     ·rfl
    rw [this]
   have HEE:=hide e
   clear h10 hkl3 hM11 hg11 k11 hno h11 e
   go_wp2_with fail
   go_end0
   refine ⟨rfl,_,?_,HE.out.2⟩
   rw [HEE.out]
   exact ⟨_,_,_,_,_,_,_,HE.out.1⟩
  | some b=>
   obtain ⟨kl2,hkl2⟩:=str_key HX.out.2.1.el
   have h7:=H6.out.1.below hB7
   obtain ⟨w8,hrun8,hM8,hg8⟩:=(h7.set px b hev).drop (t:=244) str_keyed Tryz.underlying244 set_inj hkl2 0
   have k8:QT (·=.set px) W7 o w8 o:=QT.ofGrown hg8 (h7.setT px b hev)
   have h8:=h7.setSet (p:=⟨px,py⟩) (x:=false) k8 hev HX.out.2.1.el (by simpa using hM8)
   have q8:QT stoTag w o w8 o:=(H6.out.2.2.below hB7).trans (k8.mono fun t ht=>by rw [ht]; trivial)
   have hb8:Blk w8 w.heap.size [.string px,.string py,.int .i64 dr,.int .i64 dq] 233:=(H6.out.2.1.below hB7).move (hg8.block _ (H6.out.2.1.below hB7).lt (fun e=>by injection e with e; have:=(HH.out.1.set px b hev).lt; omega))
   have s7:=Bel.cell (show w8.cell? ⟨sb,7,none⟩=some (.map (some eb)) from h8.blk.blk.cell 7)
   have y0:=Bel.cell (show w8.cell? ⟨w.heap.size,0,none⟩=some (.string px) from hb8.cell 0)
   have hlk:∀ f:Fam (Bel w8),(Instr.lookup 180 (.map (some eb)) (.string px) false).run Tryz.prog f.w=.ok (.map (some b)) f.w:=fun f=>by
    have:=els_look h8.els HX.out.2.1.key (f.ok.block _ h8.els.lt)
    rw [hev] at this; exact this
   obtain ⟨c,hcn,hc0,hcl⟩:=(h8.set px b hev).len (t:=244) Tryz.underlying244 3
   have hlen8:∀ f:Fam (Bel w8),(Builtin.len_ #[244] 3 #[.map (some b)]).run Tryz.prog f.w=.ok (.int .i64 c) f.w:=fun f=>hcl _ (f.ok.block _ (h8.set px b hev).lt)
   have H8:=hide (⟨h8,hb8,q8,hc0⟩:_ ∧ _ ∧ _ ∧ _)
   have HEV:=hide hev
   clear h7 hM8 hg8 k8 h8 q8 hb8 hcl hc0 hev hkl2
   go_wp2_with fail
   refine region_fam (Bel w8) (by kernel_rfl) (by kernel_rfl) (Below.refl _ _).drew ?_
   repeat (go_big_quiet_step (fail))
   refine wpQuiet_nil ?_
   intro _ hw'
   obtain ⟨fq,rfl⟩:=hw'
   obtain ⟨W9,hB9⟩:=fq
   try dsimp only
   clear s7 y0 hlk hlen8 hrun8
   have e:dropSt st ⟨⟨px,py⟩,⟨dr,dq⟩⟩={ st with vers:=setVer st.vers ⟨⟨px,py⟩,⟨dr,dq⟩⟩ none,came:=setCame st.came ⟨px,py⟩ [],els:=setEls st.els ⟨px,py⟩ false }:=by
    unfold dropSt
    rw [if_pos HNIL.out,HNIL.out]
   have HEE:=hide e
   clear e
   by_cases hcz:c=0
   ·subst hcz
    have h9:=H8.out.1.below hB9
    have hb9:=H8.out.2.1.below hB9
    have s7:=Bel.cell (show W9.cell? ⟨sb,7,none⟩=some (.map (some eb)) from h9.blk.blk.cell 7)
    have y0:=Bel.cell (show W9.cell? ⟨w.heap.size,0,none⟩=some (.string px) from hb9.cell 0)
    clear h9 hb9
    go_wp2_with fail
    refine region_fam_tail (Bel W9) 7 (by kernel_rfl) (by kernel_rfl) (Below.refl _ _).drew ?_
    simp only [List.take_succ_cons,List.take_zero,List.drop_succ_cons,List.drop_zero]
    repeat (go_big_quiet_step (fail))
    refine wpQuiet_nil ?_
    intro _ hw'
    obtain ⟨fq,rfl⟩:=hw'
    obtain ⟨W10,hB10⟩:=fq
    try dsimp only
    clear s7 y0
    have h10:=(H8.out.1.below hB9).below hB10
    obtain ⟨kl3,hkl3⟩:=str_key HX.out.2.1.key
    obtain ⟨w11,hrun11,hM11,hg11⟩:=h10.els.drop (t:=180) str_keyed Tryz.underlying180 set_inj hkl3 0
    have k11:QT (·=.me) W10 o w11 o:=QT.ofGrown hg11 h10.elsT
    have hno:∀ e,setEls st.els ⟨px,py⟩ false px e=false:=fun e=>by
     cases he:setEls st.els ⟨px,py⟩ false px e with
     | false=>rfl
     | true=>
      obtain ⟨kl4,hkl4⟩:=str_key (h10.elsOk px e he)
      have:=H8.out.2.2.2 (by trivial) e kl4 hkl4
      unfold elsOf at this
      simp [he] at this
    have h11:=(h10.cutSet (key:=px) k11 hM11 (fun q hq=>by simp [hq]) (by simp) hno)
    have HE:=hide (⟨h11,((H8.out.2.2.1.below hB9).below hB10).trans (k11.mono fun t ht=>by rw [ht]; trivial)⟩:_ ∧ QT stoTag w o w11 o)
    clear h10 hkl3 hM11 hg11 k11 hno h11
    go_wp2_with fail
    go_end0
    refine ⟨rfl,_,?_,HE.out.2⟩
    rw [HEE.out]
    exact ⟨_,_,_,_,_,_,_,HE.out.1⟩
   ·have hcz':((c:Int) == 0)=false:=beq_eq_false_iff_ne.2 (by omega)
    clear hcz
    go_wp2_with fail
    go_end0
    refine ⟨rfl,_,?_,H8.out.2.2.1.below hB9⟩
    rw [HEE.out]
    exact ⟨_,_,_,_,_,_,_,(H8.out.1.below hB9)⟩
end Go.Proofs.YtiplgdkpnhamaaaGreatDoor
namespace Go.Proofs.YtiplgdkpnhamaaaGreatDoor
open Go.RowKit
theorem keepAt_hit {vers:VName → Option Ver} {x:VName}:∀ {a:List Snap} {s:Snap} {b:List Snap},(∀ t,t ∈ a → readsB t.saw vers x=false) → readsB s.saw vers x=true → keepAt vers x (a ++ s :: b)=some (a ++ keepFor x s :: b)
 | [],s,b,_,hs=>by simp [keepAt,hs]
 | t :: a,s,b,ha,hs=>by
  have ht:=ha t (by simp)
  have ih:=keepAt_hit (a:=a) (b:=b) (fun u hu=>ha u (by simp [hu])) hs
  simp [keepAt,ht,ih]
theorem keepAt_miss {vers:VName → Option Ver} {x:VName}:∀ {a:List Snap},(∀ t,t ∈ a → readsB t.saw vers x=false) → keepAt vers x a=none
 | [],_=>rfl
 | t :: a,ha=>by
  have ih:=keepAt_miss (a:=a) (fun u hu=>ha u (by simp [hu]))
  simp [keepAt,ha t (by simp),ih]
section
variable {w w':World} {o o':Nat → Own} {sb vb cb eb n:Nat} {ov:Value} {cv:Place → Option Value} {ev:ByteArray → Option Nat} {kv:Nat → Value} {st:St}
theorem StP.keepIn (h:StP w o sb vb cb eb ov cv ev kv n st) (hnd:(st.snaps.map Snap.blk).Nodup) {a b:List Snap} {s:Snap} (e:st.snaps=a ++ s :: b) {x:VName} {v5:Value} (k:QT (fun t=>t=.snap s.blk ∨ t=.kept s.blk) w o w' o')
  (hB:Qb w' o' (.snap s.blk) s.blk [bptr sb,.int .i64 s.saw.a,.int .i64 s.saw.b,.int .i64 s.saw.c,.int .i64 s.saw.d,.int .i64 s.saw.e,v5] 186) (hR:Qc w' o' (.kept s.blk) 233 4 v5 (s.kept ++ [x]).length ((s.kept ++ [x]).flatMap VName.cells)) :
  StP w' o' sb vb cb eb ov cv ev (fun q=>if q=s.blk then v5 else kv q) n { st with snaps:=a ++ keepFor x s :: b }:=by
 have hmem:∀ t,t ∈ a ++ keepFor x s :: b → t=keepFor x s ∨ (t ∈ st.snaps ∧ t.blk ≠ s.blk):=fun t ht=>by
  rw [e,List.map_append,List.map_cons,List.nodup_append] at hnd
  obtain ⟨n1,n2,n3⟩:=hnd
  rw [List.nodup_cons] at n2
  rw [List.mem_append,List.mem_cons] at ht
  rcases ht with c | c | c
  ·exact Or.inr ⟨by rw [e]; simp [c],fun eq=>n3 _ (List.mem_map.2 ⟨t,c,rfl⟩) s.blk (by simp) eq⟩
  ·exact Or.inl c
  ·exact Or.inr ⟨by rw [e]; simp [c],fun eq=>n2.1 (by rw [← eq]; exact List.mem_map.2 ⟨t,c,rfl⟩)⟩
 refine ⟨h.blk.touch k (by simp),h.vers.movet k (by rw [h.versT]; simp),(k.same _ h.vers.lt).trans h.versT,h.came.movet k (by rw [h.cameT]; simp),(k.same _ h.came.lt).trans h.cameT,h.rowN,fun q u hq=>(h.row q u hq).touch k (by simp),h.els.movet k (by rw [h.elsT]; simp),(k.same _ h.els.lt).trans h.elsT,h.setN,
  fun x b e=>(k.same _ (h.set x b e).lt).trans (h.setT x b e),fun x b e=>(h.set x b e).movet k (by rw [h.setT x b e]; simp),?_,fun t ht=>?_,fun t ht=>?_,h.elsOk⟩
 ·have a1:=h.opens.touch k (by simp)
  rw [e] at a1
  simpa [keepFor] using a1
 ·rcases hmem t ht with rfl | ⟨ht',hne⟩
  ·simpa [keepFor] using hB
  ·have a1:=(h.snap t ht').touch k (by simp [hne])
   simpa [hne] using a1
 ·rcases hmem t ht with rfl | ⟨ht',hne⟩
  ·simpa [keepFor] using hR
  ·have a1:=(h.kept t ht').touch k (by simp [hne])
   simpa [hne] using a1
end
theorem Tryz.infoName:(Tryz.prog.info? 233).map (fun i=>(i.zero,i.size,i.bytes))=some (some (.agg #[.string ⟨#[]⟩,.string ⟨#[]⟩,.int .i64 0,.int .i64 0]),4,48):=by kernel_rfl
set_option maxRecDepth 100000 in
set_option maxHeartbeats 8000000 in
theorem entrust_st {w:World} {o:Nat → Own} {sb n:Nat} {st:St} (hI:StIn w o sb n st) (hnd:(st.snaps.map Snap.blk).Nodup) (x:VName) (hx:x.Ok) (hw:∀ v,st.vers x=some v → 0 ≤ v.went.rep ∧ v.went.rep < 5) (hk:KeptRoom st 1) (hn:n < 1000000000000) :
  Calls Tryz.prog 147 #[bptr sb,x.val] w fun e w'=>e=.returned (.tuple #[]) ∧ ∃ o',StIn w' o' sb n (entrustSt st x) ∧ QT stoTag w o w' o':=by
 obtain ⟨vb,cb,eb,ov,cv,ev,kv,h⟩:=hI
 obtain ⟨i0,hi,hz0,hz1,hz2⟩:=info_parts Tryz.infoName
 have HX:=hide (⟨hx,hw,hk,hnd⟩:_ ∧ _ ∧ _ ∧ _)
 obtain ⟨⟨px,py⟩,⟨dr,dq⟩⟩:=x
 simp only [VName.val] at *
 generalize hW0:w.alloc (.cells #[.string px,.string py,.int .i64 dr,.int .i64 dq] 233)=W0
 have hB0:Below w.heap.size w W0:=by rw [← hW0]; exact (Below.refl _ _).alloc (Nat.le_refl _) _
 have hbx:Blk W0 w.heap.size [.string px,.string py,.int .i64 dr,.int .i64 dq] 233:=by rw [← hW0]; exact heap_alloc_new w _
 have h0:StP W0 o sb vb cb eb ov cv ev kv n st:=h.below hB0
 obtain ⟨ao,cap,rfl,hcap,hmx,hcell⟩:=h0.opens.row.shape
 have s8:W0.cell? ⟨sb,8,none⟩=some (.slice ao st.snaps.length cap):=h0.blk.blk.cell 8
 unfold maxLen at hmx
 have HH:=hide (⟨h,h0,hbx,hB0,hcell⟩:_ ∧ _ ∧ _ ∧ _ ∧ _)
 have HI:=hide (⟨hi,hz0,hz1,hz2⟩:_ ∧ _ ∧ _ ∧ _)
 have hsl:sb < w.heap.size:=h.blk.blk.lt
 have s8':w.cell? ⟨sb,8,none⟩=some (.slice ao st.snaps.length cap):=h.blk.blk.cell 8
 have HW0:=hide hW0
 clear h h0 hbx hB0 hcell hi hz0 hz1 hz2 hx hw hk hnd hW0
 go_enter Tryz.func147,Tryz.ntmps147
 go_wp2_with fail
 rw [HW0.out]
 go_loopw [11] (fun i wr=>∃ k:Nat,k ≤ st.snaps.length ∧ i=.int .i64 k ∧ Hid ((∀ t,t ∈ st.snaps.take k → readsB t.saw st.vers ⟨⟨px,py⟩,⟨dr,dq⟩⟩=false) ∧ Below W0.heap.size W0 wr)) (fun i _=>st.snaps.length - (intOf i).toNat)
 case atStart=>exact ⟨0,Nat.zero_le _,rfl,fun t ht=>by simp at ht,Below.refl _ _⟩
 case round=>
  obtain ⟨k,hkl,rfl,hinv⟩:=hrel
  have hbx1:=HH.out.2.2.1.below hinv.out.2
  have y0:wr.cell? ⟨w.heap.size,0,none⟩=some (.string px):=hbx1.cell 0
  have y1:wr.cell? ⟨w.heap.size,1,none⟩=some (.string py):=hbx1.cell 1
  have y2:wr.cell? ⟨w.heap.size,2,none⟩=some (.int .i64 dr):=hbx1.cell 2
  have y3:wr.cell? ⟨w.heap.size,3,none⟩=some (.int .i64 dq):=hbx1.cell 3
  clear hbx1
  by_cases hlk:k < st.snaps.length
  ·obtain ⟨g0,e0,c0⟩:=HH.out.2.2.2.2 k (by omega)
   subst e0
   rw [List.getElem?_map,List.getElem?_eq_getElem hlk] at c0
   have d0:=cell_later hinv.out.2 c0
   clear c0
   have h1:=HH.out.2.1.below hinv.out.2
   have hsn:=h1.snap st.snaps[k] (List.getElem_mem hlk)
   have hrd:=reads_any wr st.snaps[k].blk sb vb n st.snaps[k].saw (kv st.snaps[k].blk) ⟨⟨px,py⟩,⟨dr,dq⟩⟩ st.vers hsn.blk (h1.blk.blk.cell 5) h1.vers HX.out.1 HX.out.2.1
   have HSN:=hide hsn
   obtain ⟨s,hs⟩:∃ s,st.snaps[k]=s:=⟨_,rfl⟩
   have HS:=hide hs
   unfold Hid at HSN
   rw [hs] at d0 hrd HSN
   have HSN':=hide HSN
   clear h1 hsn hs HSN
   cases hr:readsB s.saw st.vers ⟨⟨px,py⟩,⟨dr,dq⟩⟩
   ·rw [hr] at hrd
    have HRD:=hide hrd
    have HR:=hide hr
    clear hrd hr
    go_wp2_with fail
    refine HRD.out.mono ?_
    rintro e w1 ⟨rfl,hB1⟩
    go_wp2_with fail
    refine ⟨⟨k + 1,by omega,by go_num,fun t ht=>?_,hinv.out.2.trans (hB1.mono hinv.out.2.size)⟩,by simp [intOf]; omega⟩
    rw [List.take_succ_eq_append_getElem hlk,List.mem_append,List.mem_singleton] at ht
    rcases ht with c | c
    ·exact hinv.out.1 t c
    ·rw [c,HS.out]; exact HR.out
   ·rw [hr] at hrd
    have HRD:=hide hrd
    have HR:=hide hr
    clear hrd hr
    go_wp2_with fail
    refine HRD.out.mono ?_
    rintro e w1 ⟨rfl,hB1⟩
    have hBz:=hinv.out.2.trans (hB1.mono hinv.out.2.size)
    have h1:=HH.out.2.1.below hBz
    have hbx1:=HH.out.2.2.1.below hBz
    have hsin:s ∈ st.snaps:=by rw [← HS.out]; exact List.getElem_mem hlk
    have hsn:=h1.snap s hsin
    have hkp:=h1.kept s hsin
    have hkr:=HX.out.2.2.1 s hsin
    clear y0 y1 y2 y3 d0
    have y0:w1.cell? ⟨w.heap.size,0,none⟩=some (.string px):=hbx1.cell 0
    have y1:w1.cell? ⟨w.heap.size,1,none⟩=some (.string py):=hbx1.cell 1
    have y2:w1.cell? ⟨w.heap.size,2,none⟩=some (.int .i64 dr):=hbx1.cell 2
    have y3:w1.cell? ⟨w.heap.size,3,none⟩=some (.int .i64 dq):=hbx1.cell 3
    have c6:w1.cell? ⟨s.blk,6,none⟩=some (kv s.blk):=hsn.blk.cell 6
    have hsl2:s.blk < w1.heap.size:=hsn.blk.lt
    have hbl2:w.heap.size < w1.heap.size:=hbx1.lt
    obtain ⟨kvv,hkv⟩:∃ v,kv s.blk=v:=⟨_,rfl⟩
    have HKV:=hide hkv
    rw [hkv] at c6 hkp hsn
    have hW8:Blk (w1.alloc (.cells #[.string px,.string py,.int .i64 dr,.int .i64 dq] 233)).drew w1.heap.size [.string px,.string py,.int .i64 dr,.int .i64 dq] 233:=heap_alloc_new w1 _
    have HNEW:=hide (news_at hW8)
    have HROW:=hide (⟨hkp,hsn,h1,hBz⟩:_ ∧ _ ∧ _ ∧ _)
    have hdis:¬ kvv.ownBlock=some s.blk:=fun e=>by have:=hkp.tag _ e; rw [hsn.tag] at this; cases this
    clear h1 hbx1 hsn hkp hkv hW8 hBz hB1
    go_wp2_with fail
    go_region_law (refine step_append_own rfl _ _ 184 rfl 233 i0 (.agg #[.string ⟨#[]⟩,.string ⟨#[]⟩,.int .i64 0,.int .i64 0]) 4 48 Tryz.underlying184 HI.out.1 HI.out.2.1 HI.out.2.2.1 HI.out.2.2.2 rfl (by decide) kvv s.kept.length (s.kept.flatMap VName.cells) (by simp [Act.eval]) (by exact World.ownsRow.alloc HROW.out.1.row _) ⟨w1.heap.size,0,none⟩ 1 1 [.string px,.string py,.int .i64 dr,.int .i64 dq] (by simp [Act.eval]) rfl (by exact HNEW.out) (by intro u hu; simp at hu; rcases hu with rfl | rfl | rfl | rfl <;> rfl) (by unfold maxLen; omega) (by omega) ?_; intro v5 w5 r1 r2 r3; obtain ⟨g5,cap5,rfl,-,-,-,-,-⟩:=Row.pos r1 (by omega); have r2':(w1.alloc (.cells #[.string px,.string py,.int .i64 dr,.int .i64 dq] 233)).grownBy w5 kvv.ownBlock:=⟨r2.os,r2.tape,r2.output,r2.size,r2.block⟩; have k5:=((HROW.out.2.1.alloc (.cells #[.string px,.string py,.int .i64 dr,.int .i64 dq] 233)).grew r2' HROW.out.1.tag (by simp)); have q6:=k5.blk.cell 6; have p6:=k5.blk.frozen 6; have l6:=k5.blk.lt; have HR5:=hide (⟨r1,r2',r3,k5⟩:_ ∧ _ ∧ _ ∧ _); clear r1 r2 r2' r3 k5)
    all_goals go_wp2_with fail
    all_goals
     have hsp:st.snaps=st.snaps.take k ++ s :: st.snaps.drop (k + 1):=by
      rw [← HS.out,← List.drop_eq_getElem_cons hlk,List.take_append_drop]
     have hen:entrustSt st ⟨⟨px,py⟩,⟨dr,dq⟩⟩={ st with snaps:=st.snaps.take k ++ keepFor ⟨⟨px,py⟩,⟨dr,dq⟩⟩ s :: st.snaps.drop (k + 1) }:=by
      unfold entrustSt
      have:=keepAt_hit (b:=st.snaps.drop (k + 1)) hinv.out.1 HR.out
      rw [← hsp] at this
      rw [this]
     obtain ⟨r1,r2,r3,k5⟩:=HR5.out
     obtain ⟨hkp,hsn,h1,hBz⟩:=HROW.out
     have q1:=((QT.refl (fun t=>t=Own.snap s.blk ∨ t=.kept s.blk) w1 o).alloc (.cells #[.string px,.string py,.int .i64 dr,.int .i64 dq] 233)).grew r2 hkp.tag (Or.inr rfl)
     have q2:=q1.set (p:=⟨s.blk,6,none⟩) (by show _ ∨ _; rw [k5.tag]; exact Or.inl rfl) (.slice (some ⟨g5,0,none⟩) (s.kept.length + 1) cap5)
     have R5:=((hkp.alloc (.cells #[.string px,.string py,.int .i64 dr,.int .i64 dq] 233)).app r1 r3).set (p:=⟨s.blk,6,none⟩) k5.tag (by simp) (.slice (some ⟨g5,0,none⟩) (s.kept.length + 1) cap5)
     rw [show s.kept.flatMap VName.cells ++ [Value.string px,Value.string py,Value.int .i64 dr,Value.int .i64 dq]=(s.kept ++ [(⟨⟨px,py⟩,⟨dr,dq⟩⟩:VName)]).flatMap VName.cells by simp] at R5
     have B5:=k5.set 6 (.slice (some ⟨g5,0,none⟩) (s.kept.length + 1) cap5)
     have hfin:=h1.keepIn HX.out.2.2.2 hsp (x:=⟨⟨px,py⟩,⟨dr,dq⟩⟩) q2 B5 (by simpa using R5)
     have hpost:∃ o',StIn (w5.setCell ⟨s.blk,6,none⟩ (.slice (some ⟨g5,0,none⟩) (s.kept.length + 1) cap5)) o' sb n (entrustSt st ⟨⟨px,py⟩,⟨dr,dq⟩⟩) ∧ QT stoTag w o (w5.setCell ⟨s.blk,6,none⟩ (.slice (some ⟨g5,0,none⟩) (s.kept.length + 1) cap5)) o':=by
      rw [hen]
      exact ⟨_,⟨_,_,_,_,_,_,_,hfin⟩,(((QT.ofBelow HH.out.2.2.2.1).below hBz).trans (q2.mono fun t ht=>by rcases ht with rfl | rfl <;> trivial))⟩
     exact bodyPost_ret (v:=.tuple #[]) (by simp [results,Tryz.results147,go_sem]) rfl ⟨rfl,hpost⟩
  ·have h1:=HH.out.2.1.below hinv.out.2
   have hdr:=drop_st h1 ⟨⟨px,py⟩,⟨dr,dq⟩⟩ HX.out.1 hn
   simp only [VName.val] at hdr
   have HDR:=hide hdr
   clear h1 hdr
   go_wp2_with fail
   refine HDR.out.mono ?_
   rintro e w2 ⟨rfl,o',hS,hq⟩
   have hfin:entrustSt st ⟨⟨px,py⟩,⟨dr,dq⟩⟩=dropSt st ⟨⟨px,py⟩,⟨dr,dq⟩⟩:=by
    unfold entrustSt
    rw [keepAt_miss fun t ht=>hinv.out.1 t (by rw [List.take_of_length_le (by omega)]; exact ht)]
   have HFIN:=hide hfin
   clear hfin
   go_wp2_with fail
   go_end0
   refine ⟨rfl,o',?_,((QT.ofBelow HH.out.2.2.2.1).below hinv.out.2).trans hq⟩
   rw [HFIN.out]
   exact hS
end Go.Proofs.YtiplgdkpnhamaaaGreatDoor
namespace Go.Proofs.YtiplgdkpnhamaaaGreatDoor
open Go.RowKit
theorem StIn.retag {w:World} {o:Nat → Own} {sb n:Nat} {st:St} (h:StIn w o sb n st) (f:Nat → Own):StIn w (own2q o w.heap.size f) sb n st:=by
 obtain ⟨vb,cb,eb,ov,cv,ev,kv,h⟩:=h
 exact ⟨vb,cb,eb,ov,cv,ev,kv,h.move fun q hq _=>⟨rfl,own2q_low hq⟩⟩
theorem StIn.below {w w':World} {o:Nat → Own} {sb n:Nat} {st:St} (h:StIn w o sb n st) (hB:Below w.heap.size w w'):StIn w' o sb n st:=by
 obtain ⟨vb,cb,eb,ov,cv,ev,kv,h⟩:=h
 exact ⟨vb,cb,eb,ov,cv,ev,kv,h.below hB⟩
theorem StIn.mono {w:World} {o:Nat → Own} {sb n n':Nat} {st:St} (h:StIn w o sb n st) (hn:n ≤ n'):StIn w o sb n' st:=by
 obtain ⟨vb,cb,eb,ov,cv,ev,kv,h⟩:=h
 exact ⟨vb,cb,eb,ov,cv,ev,kv,h.mono hn⟩
theorem QT.retag {A:Own → Prop} {w w1:World} {o o1:Nat → Own} (h:QT A w o w1 o1) (f:Nat → Own):QT A w o w1 (own2q o1 w1.heap.size f):=
 ⟨h.touch,fun q hq=>by rw [own2q_low (Nat.lt_of_lt_of_le hq h.touch.size)]; exact h.same q hq⟩
theorem KeptRoom.steps (p:Place) (seen:Vec) (by_:Dot):∀ (l:List Dot) (st:St) (m:Nat),KeptRoom st (m + l.length) → KeptRoom (l.foldl (retireOne p seen by_) st) m
 | [],_,_,h=>h
 | d :: l,st,m,h=>KeptRoom.steps p seen by_ l _ m (KeptRoom.one (m:=m + l.length) (by rw [List.length_cons] at h; exact h) p seen by_ d)
abbrev others:Nat → Own:=fun _=>.other
theorem sto_other:¬ stoTag .other:=id
set_option maxRecDepth 100000 in
set_option maxHeartbeats 8000000 in
theorem retire_st {w:World} {o:Nat → Own} {sb n:Nat} {st:St} (hI:StIn w o sb n st) (hW:st.Wf) (p:Place) (hp:p.Ok) (seen:Vec) (by_:Dot) (hb:by_.Ok) (hk:KeptRoom st (st.came p).length) (hl:(st.came p).length ≤ 1000000000) (hn:n < 1000000000000) :
  Calls Tryz.prog 149 #[bptr sb,p.val,seen.val,by_.val] w fun e w'=>e=.returned (.tuple #[]) ∧ ∃ o',StIn w' o' sb n (retireSt st p seen by_) ∧ QT stoTag w o w' o':=by
 have hmax:n < maxLen:=by unfold maxLen; omega
 obtain ⟨px,py⟩:=p
 obtain ⟨br,bq⟩:=by_
 simp only [Place.val] at *
 generalize hW0:((w.alloc (.cells #[.string px,.string py] 129)).alloc (.cells #[.int .i64 seen.a,.int .i64 seen.b,.int .i64 seen.c,.int .i64 seen.d,.int .i64 seen.e] 104)).alloc (.cells #[.int .i64 br,.int .i64 bq] 62)=W0
 have hB0:Below w.heap.size w W0:=by rw [← hW0]; exact (((Below.refl _ _).alloc (Nat.le_refl _) _).alloc (by simp) _).alloc (by simp; omega) _
 have hz0:W0.heap.size=w.heap.size + 3:=by rw [← hW0]; simp
 have hb1:Blk W0 w.heap.size [.string px,.string py] 129:=by rw [← hW0]; exact (Blk.first w _ _ _).alloc _
 have hb2:Blk W0 (w.heap.size + 1) [.int .i64 seen.a,.int .i64 seen.b,.int .i64 seen.c,.int .i64 seen.d,.int .i64 seen.e] 104:=by rw [← hW0]; exact (Blk.second w _ _ _).alloc _
 have hb3:Blk W0 (w.heap.size + 2) [.int .i64 br,.int .i64 bq] 62:=by
  rw [← hW0]
  have a:=Blk.second (w.alloc (.cells #[.string px,.string py] 129)) (.cells #[.int .i64 seen.a,.int .i64 seen.b,.int .i64 seen.c,.int .i64 seen.d,.int .i64 seen.e] 104) [.int .i64 br,.int .i64 bq] 62
  rw [show (w.alloc (.cells #[.string px,.string py] 129)).heap.size=w.heap.size + 1 by simp] at a
  exact a
 obtain ⟨o1,ho1⟩:∃ o1,o1=own2q o w.heap.size others:=⟨_,rfl⟩
 have hI1:StIn W0 o1 sb n st:=by rw [ho1]; exact (hI.retag others).below hB0
 have q0:QT stoTag w o W0 o1:=by rw [ho1]; exact ((QT.refl stoTag w o).retag others).below hB0
 have t1:∀ q,w.heap.size ≤ q → o1 q=.other:=fun q hq=>by rw [ho1]; exact own2q_high hq
 obtain ⟨vb,cb,eb,ov,cv,ev,kv,h⟩:=hI1
 have c6:W0.cell? ⟨sb,6,none⟩=some (.map (some cb)):=h.blk.blk.cell 6
 have x0:W0.cell? ⟨w.heap.size,0,none⟩=some (.string px):=hb1.cell 0
 have x1:W0.cell? ⟨w.heap.size,1,none⟩=some (.string py):=hb1.cell 1
 have hlk:(Instr.lookup 179 (.map (some cb)) (.agg #[.string px,.string py]) false).run Tryz.prog W0.drew=.ok (cvAt cv ⟨px,py⟩) W0.drew:=came_look h hp (W:=W0.drew) rfl
 have hcl:=clone_dots W0.drew (cvAt cv ⟨px,py⟩) (st.came ⟨px,py⟩) (h.rowAt ⟨px,py⟩).row hl
 have HH:=hide (⟨⟨vb,cb,eb,ov,cv,ev,kv,h⟩,q0,hb1,hb2,hb3,hB0,hz0,t1⟩:StIn W0 o1 sb n st ∧ _ ∧ _ ∧ _ ∧ _ ∧ _ ∧ _ ∧ _)
 have HX:=hide (⟨hW,hp,hb,hk⟩:_ ∧ _ ∧ _ ∧ _)
 have HCL:=hide hcl
 have HW0:=hide hW0
 clear h hI hW hp hb hk q0 hb1 hb2 hb3 hB0 hz0 t1 ho1 hcl hW0
 obtain ⟨l,hll⟩:∃ l,st.came ⟨px,py⟩=l:=⟨_,rfl⟩
 have HLL:=hide hll
 unfold Hid at HCL HX
 rw [hll] at HCL HX hl
 have HCL':=hide HCL
 have HX':=hide HX
 clear hll HCL HX
 go_enter Tryz.func149,Tryz.ntmps149
 go_upto_region 1 with (fail)
 rw [HW0.out]
 go_cut [18,19,20] (fun a b c wc=>∃ (ao:Option Addr) (cap:Nat),a=.slice ao l.length cap ∧ b=.int .i64 l.length ∧ c=.int .i64 0 ∧ l.length ≤ cap ∧ cap ≤ maxLen ∧ Hid (wc.ownsRow W0.heap.size 62 2 (.slice ao l.length cap) l.length (l.flatMap Dot.cells) ∧ Below W0.heap.size W0 wc))
 case first=>
  go_region_with (go_at_call 179; refine HCL'.out.mono ?_; rintro e w1 ⟨v',rfl,hown,hB⟩; obtain ⟨ao,cap,rfl,hcap,hmx,-⟩:=Row.shape (ownsRow_low hown (Nat.zero_le _)))
  all_goals go_wp2_with fail
  all_goals go_meet
  all_goals exact ⟨_,_,rfl,rfl,rfl,hcap,hmx,hown,hB.os,hB.tape,hB.output,hB.size,hB.block⟩
 case rest=>
  obtain ⟨ao,cap,rfl,rfl,rfl,hcap,hmx,hrest⟩:=hcut
  unfold maxLen at hmx
  clear c6 x0 x1 hlk
  have hR0:Qc wc o1 .other 62 2 (.slice ao l.length cap) l.length (l.flatMap Dot.cells):=⟨ownsRow_low hrest.out.1 (Nat.zero_le _),fun q hq=>HH.out.2.2.2.2.2.2.2 q (by have:=(World.ownsRow.lt hrest.out.1 q hq).1; have:=HH.out.2.2.2.2.2.2.1; omega)⟩
  have p1:Qb wc o1 .other w.heap.size [.string px,.string py] 129:=⟨HH.out.2.2.1.below hrest.out.2,HH.out.2.2.2.2.2.2.2 _ (Nat.le_refl _)⟩
  have p2:Qb wc o1 .other (w.heap.size + 1) [.int .i64 seen.a,.int .i64 seen.b,.int .i64 seen.c,.int .i64 seen.d,.int .i64 seen.e] 104:=⟨HH.out.2.2.2.1.below hrest.out.2,HH.out.2.2.2.2.2.2.2 _ (by omega)⟩
  have p3:Qb wc o1 .other (w.heap.size + 2) [.int .i64 br,.int .i64 bq] 62:=⟨HH.out.2.2.2.2.1.below hrest.out.2,HH.out.2.2.2.2.2.2.2 _ (by omega)⟩
  have HP:=hide (⟨hR0,p1,p2,p3⟩:_ ∧ _ ∧ _ ∧ _)
  clear hR0 p1 p2 p3
  go_wp2_with fail
  go_loopw [20] (fun i wr=>∃ (k:Nat) (o':Nat → Own),k ≤ l.length ∧ i=.int .i64 k ∧ Hid (StIn wr o' sb n ((l.take k).foldl (retireOne ⟨px,py⟩ seen ⟨br,bq⟩) st) ∧ QT stoTag wc o1 wr o')) (fun i _=>l.length - (intOf i).toNat)
  case atStart=>exact ⟨0,o1,Nat.zero_le _,rfl,HH.out.1.below hrest.out.2,QT.refl _ _ _⟩
  case round=>
   obtain ⟨k,o',hkl,rfl,hinv⟩:=hrel
   by_cases hlk:k < l.length
   ·have hR:=HP.out.1.touch hinv.out.2 sto_other
    have p1:=HP.out.2.1.touch hinv.out.2 sto_other
    have p2:=HP.out.2.2.1.touch hinv.out.2 sto_other
    have p3:=HP.out.2.2.2.touch hinv.out.2 sto_other
    obtain ⟨g,_,e,-,-,hgl,hcell,-⟩:=Row.pos hR.row (by omega)
    cases e
    have d0:=hcell (k * 2 + 0) (by omega)
    have d1:=hcell (k * 2 + 1) (by omega)
    rw [flat_get _ 2 (fun _=>rfl) _ _ _ hlk (by omega)] at d0 d1
    simp only [Dot.cells,List.getElem?_cons_zero,List.getElem?_cons_succ,Nat.add_zero] at d0 d1
    have x0:wr.cell? ⟨w.heap.size,0,none⟩=some (.string px):=p1.blk.cell 0
    have x1:wr.cell? ⟨w.heap.size,1,none⟩=some (.string py):=p1.blk.cell 1
    have hbl:w.heap.size + 2 < wr.heap.size:=p3.blk.lt
    have hbl0:w.heap.size < wr.heap.size:=p1.blk.lt
    -- the state at this round
    obtain ⟨stk,hstk⟩:∃ s,(l.take k).foldl (retireOne ⟨px,py⟩ seen ⟨br,bq⟩) st=s:=⟨_,rfl⟩
    obtain ⟨d,hd⟩:∃ d,l[k]=d:=⟨_,rfl⟩
    have hI0:=hinv.out.1
    rw [hstk] at hI0
    rw [hd] at d0 d1
    obtain ⟨vb,cb,eb,ov,cv,ev,kv,h⟩:=hI0.retag others
    generalize hW2:(wr.alloc (.cells #[.int .i64 d.rep,.int .i64 d.seq] 62)).alloc (.cells #[.string px,.string py,.int .i64 d.rep,.int .i64 d.seq] 233)=W2
    have hB2:Below wr.heap.size wr W2:=by rw [← hW2]; exact ((Below.refl _ _).alloc (Nat.le_refl _) _).alloc (by simp) _
    have z2:W2.heap.size=wr.heap.size + 2:=by rw [← hW2]; simp
    have bd2:Blk W2 wr.heap.size [.int .i64 d.rep,.int .i64 d.seq] 62:=by rw [← hW2]; exact Blk.first wr _ _ _
    have bn2:Blk W2 (wr.heap.size + 1) [.string px,.string py,.int .i64 d.rep,.int .i64 d.seq] 233:=by rw [← hW2]; exact Blk.second wr _ _ _
    have h2:=h.below hB2
    obtain ⟨v,hv⟩:∃ v,verAt stk.vers ⟨⟨px,py⟩,d⟩=v:=⟨_,rfl⟩
    -- what the walk of the first steps left true
    have hnod:(l.take k).Nodup:=by have:=HX'.out.1.once ⟨px,py⟩; rw [HLL.out] at this; exact this.sublist (List.take_sublist _ _)
    have hsome:∀ e,e ∈ l → (st.vers ⟨⟨px,py⟩,e⟩).isSome:=fun e he=>(HX'.out.1.here ⟨px,py⟩ e).1 (by rw [HLL.out]; exact he)
    obtain ⟨hWk,hrest2⟩:=retire_steps HX'.out.1 ⟨px,py⟩ seen HX'.out.2.2.1 (l.take k) hnod (fun e he=>hsome e (List.mem_of_mem_take he))
    rw [hstk] at hWk hrest2
    have hdl:d ∈ l:=by rw [← hd]; exact List.getElem_mem hlk
    have hdn:d ∉ l.take k:=fun c=>by
     have h1:=HX'.out.1.once ⟨px,py⟩
     rw [HLL.out] at h1
     obtain ⟨j,hj,e⟩:=List.mem_iff_getElem.1 c
     rw [List.length_take] at hj
     rw [List.getElem_take,← hd] at e
     have:=(List.getElem_inj h1).1 e
     omega
    have hvs:(stk.vers ⟨⟨px,py⟩,d⟩).isSome:=by rw [hrest2 d hdn]; exact hsome d hdl
    have hxo:(⟨⟨px,py⟩,d⟩:VName).Ok:=HX'.out.1.ok ⟨px,py⟩ d (by rw [HLL.out]; exact hdl)
    have c5:W2.cell? ⟨sb,5,none⟩=some (.map (some vb)):=h2.blk.blk.cell 5
    have n0:W2.cell? ⟨wr.heap.size + 1,0,none⟩=some (.string px):=bn2.cell 0
    have n1:W2.cell? ⟨wr.heap.size + 1,1,none⟩=some (.string py):=bn2.cell 1
    have n2:W2.cell? ⟨wr.heap.size + 1,2,none⟩=some (.int .i64 d.rep):=bn2.cell 2
    have n3:W2.cell? ⟨wr.heap.size + 1,3,none⟩=some (.int .i64 d.seq):=bn2.cell 3
    have hs2:sb < W2.heap.size:=h2.blk.blk.lt
    have hnl2:wr.heap.size + 1 < W2.heap.size:=bn2.lt
    have hdl2:wr.heap.size < W2.heap.size:=bd2.lt
    have l1:=ver_look h2.vers hxo (W:=W2.drew) rfl
    have l2:=ver_look h2.vers hxo (W:=(W2.alloc (.cells #[.int .i64 0,.int .i64 0,.int .i64 0,.string ⟨#[]⟩] 239)).drew) (Below.heap_alloc _ _ _ h2.vers.lt)
    rw [hv] at l1 l2
    simp only at l1 l2
    generalize hW3:(W2.alloc (.cells #[.int .i64 v.went.rep,.int .i64 v.went.seq,.int .i64 v.sum,.string v.value] 239)).drew=W3
    have hB3:Below W2.heap.size W2 W3:=by rw [← hW3]; exact ((Below.refl _ _).alloc (Nat.le_refl _) _).drew
    have bv3:Blk W3 W2.heap.size [.int .i64 v.went.rep,.int .i64 v.went.seq,.int .i64 v.sum,.string v.value] 239:=by rw [← hW3]; exact heap_alloc_new W2 _
    have HA:=hide (⟨h,h2,hB2,hB3,z2,bd2,bn2,bv3,p1,p2,p3⟩:_ ∧ _ ∧ _ ∧ _ ∧ _ ∧ _ ∧ _ ∧ _ ∧ _ ∧ _ ∧ _)
    have HF:=hide (⟨hstk,hd,hv,hWk,hvs,hxo⟩:_ ∧ _ ∧ _ ∧ _ ∧ _ ∧ _)
    have HW2:=hide hW2
    have HW3:=hide hW3
    have hz2:=hide z2
    clear hR p1 p2 p3 hcell hstk hd hI0 h hW2 hB2 z2 bd2 bn2 h2 hv hnod hsome hWk hrest2 hdl hdn hvs hxo hW3 hB3 bv3
    go_wp2_with fail
    rw [HW2.out]
    go_region
    all_goals go_wp2_with fail
    all_goals
     rw [HW3.out]
     refine (stands_any W3 v).mono ?_
     rintro e w4 ⟨hst,hB4⟩
     clear l1 l2 c5 n0 n1 n2 n3 x0 x1 d0 d1
     obtain ⟨h,h2,hB2,hB3,z2,bd2,bn2,bv3,p1,p2,p3⟩:=HA.out
     have hB24:Below W2.heap.size W2 w4:=hB3.trans (hB4.mono hB3.size)
     have hBw4:Below wr.heap.size wr w4:=hB2.trans (hB24.mono (by omega))
     have s0:w4.cell? ⟨w.heap.size + 1,0,none⟩=some (.int .i64 seen.a):=(p2.blk.below hBw4).cell 0
     have s1:w4.cell? ⟨w.heap.size + 1,1,none⟩=some (.int .i64 seen.b):=(p2.blk.below hBw4).cell 1
     have s2:w4.cell? ⟨w.heap.size + 1,2,none⟩=some (.int .i64 seen.c):=(p2.blk.below hBw4).cell 2
     have s3:w4.cell? ⟨w.heap.size + 1,3,none⟩=some (.int .i64 seen.d):=(p2.blk.below hBw4).cell 3
     have s4:w4.cell? ⟨w.heap.size + 1,4,none⟩=some (.int .i64 seen.e):=(p2.blk.below hBw4).cell 4
     have e0:w4.cell? ⟨wr.heap.size,0,none⟩=some (.int .i64 d.rep):=(bd2.below hB24).cell 0
     have e1:w4.cell? ⟨wr.heap.size,1,none⟩=some (.int .i64 d.seq):=(bd2.below hB24).cell 1
     have HB4:=hide (⟨hB4,hB24,hBw4⟩:_ ∧ _ ∧ _)
     have hstep:(l.take (k + 1)).foldl (retireOne ⟨px,py⟩ seen ⟨br,bq⟩) st=retireOne ⟨px,py⟩ seen ⟨br,bq⟩ stk d:=by
      rw [List.take_succ_eq_append_getElem hlk,List.foldl_append,HF.out.1,HF.out.2.1]; rfl
     have HSTEP:=hide hstep
     have hIk:StIn wr (own2q o' wr.heap.size others) sb n stk:=⟨vb,cb,eb,ov,cv,ev,kv,h⟩
     have HIk:=hide hIk
     clear h h2 hB2 hB3 z2 bd2 bn2 bv3 p1 p2 p3 hB24 hBw4 hstep hIk hB4
     cases hs:v.stands
     ·rw [hs] at hst
      subst hst
      have hno:retireOne ⟨px,py⟩ seen ⟨br,bq⟩ stk d=stk:=by
       unfold retireOne
       rw [HF.out.2.2.1,hs]; rfl
      have HNO:=hide hno
      clear hno hs
      go_wp2_with fail
      refine ⟨⟨k + 1,own2q o' wr.heap.size others,by omega,by go_num,?_,?_⟩,by simp [intOf]; omega⟩
      ·rw [HSTEP.out,HNO.out]; exact HIk.out.below HB4.out.2.2
      ·exact (hinv.out.2.retag others).below HB4.out.2.2
     ·rw [hs] at hst
      subst hst
      have HS:=hide hs
      clear hs
      go_wp2_with fail
      refine (covers_any w4 seen d HF.out.2.2.2.2.2.dot.r0 HF.out.2.2.2.2.2.dot.r5).mono ?_
      rintro e w5 ⟨hcv,hB5⟩
      cases hc:seen.covers d
      ·rw [hc] at hcv
       subst hcv
       have hno:retireOne ⟨px,py⟩ seen ⟨br,bq⟩ stk d=stk:=by
        unfold retireOne
        rw [HF.out.2.2.1,HS.out,hc]; rfl
       have HNO:=hide hno
       have hB5w:Below wr.heap.size wr w5:=HB4.out.2.2.trans (hB5.mono HB4.out.2.2.size)
       clear hno hc s0 s1 s2 s3 s4 e0 e1 hB5
       go_wp2_with fail
       refine ⟨⟨k + 1,own2q o' wr.heap.size others,by omega,by go_num,?_,?_⟩,by simp [intOf]; omega⟩
       ·rw [HSTEP.out,HNO.out]; exact HIk.out.below hB5w
       ·exact (hinv.out.2.retag others).below hB5w
      ·rw [hc] at hcv
       subst hcv
       clear s0 s1 s2 s3 s4 e0 e1
       obtain ⟨h,h2,hB2,hB3,z2,bd2,bn2,bv3,p1,p2,p3⟩:=HA.out
       have hB25:Below W2.heap.size W2 w5:=HB4.out.2.1.trans (hB5.mono HB4.out.2.1.size)
       have hBw5:Below wr.heap.size wr w5:=HB4.out.2.2.trans (hB5.mono HB4.out.2.2.size)
       have bv5:Blk w5 W2.heap.size [.int .i64 v.went.rep,.int .i64 v.went.seq,.int .i64 v.sum,.string v.value] 239:=(bv3.below HB4.out.1).below hB5
       have g0:w5.cell? ⟨w.heap.size + 1 + 1,0,none⟩=some (.int .i64 br):=(p3.blk.below hBw5).cell 0
       have g1:w5.cell? ⟨w.heap.size + 1 + 1,1,none⟩=some (.int .i64 bq):=(p3.blk.below hBw5).cell 1
       have v0:w5.cell? ⟨W2.heap.size,0,none⟩=some (.int .i64 v.went.rep):=bv5.cell 0
       have v1:w5.cell? ⟨W2.heap.size,1,none⟩=some (.int .i64 v.went.seq):=bv5.cell 1
       have vf0:w5.frozen? ⟨W2.heap.size,0,none⟩=false:=bv5.frozen 0
       have vf1:w5.frozen? ⟨W2.heap.size,1,none⟩=false:=bv5.frozen 1
       generalize hW6:(w5.setCell ⟨W2.heap.size,0,none⟩ (.int .i64 br)).setCell ⟨W2.heap.size,1,none⟩ (.int .i64 bq)=W6
       have hB26:Below W2.heap.size W2 W6:=by rw [← hW6]; exact (hB25.setCell (Nat.le_refl _) _).setCell (Nat.le_refl _) _
       have bv6:Blk W6 W2.heap.size [.int .i64 br,.int .i64 bq,.int .i64 v.sum,.string v.value] 239:=by rw [← hW6]; exact (bv5.set 0 _).set 1 _
       have bn6:=bn2.below hB26
       have h6:=h2.below hB26
       have c5:=Bel.cell (show W6.cell? ⟨sb,5,none⟩=some (.map (some vb)) from h6.blk.blk.cell 5)
       have n0:=Bel.cell (show W6.cell? ⟨wr.heap.size + 1,0,none⟩=some (.string px) from bn6.cell 0)
       have n1:=Bel.cell (show W6.cell? ⟨wr.heap.size + 1,1,none⟩=some (.string py) from bn6.cell 1)
       have n2:=Bel.cell (show W6.cell? ⟨wr.heap.size + 1,2,none⟩=some (.int .i64 d.rep) from bn6.cell 2)
       have n3:=Bel.cell (show W6.cell? ⟨wr.heap.size + 1,3,none⟩=some (.int .i64 d.seq) from bn6.cell 3)
       have m0:=Bel.cell (show W6.cell? ⟨W2.heap.size,0,none⟩=some (.int .i64 br) from bv6.cell 0)
       have m1:=Bel.cell (show W6.cell? ⟨W2.heap.size,1,none⟩=some (.int .i64 bq) from bv6.cell 1)
       have m2:=Bel.cell (show W6.cell? ⟨W2.heap.size,2,none⟩=some (.int .i64 v.sum) from bv6.cell 2)
       have m3:=Bel.cell (show W6.cell? ⟨W2.heap.size,3,none⟩=some (.string v.value) from bv6.cell 3)
       have HW6:=hide hW6
       have H6:=hide (⟨h6,bn6,hB2.trans (hB26.mono (by omega))⟩:_ ∧ _ ∧ Below wr.heap.size wr W6)
       have hyes:retireOne ⟨px,py⟩ seen ⟨br,bq⟩ stk d=entrustSt { stk with vers:=setVer stk.vers ⟨⟨px,py⟩,d⟩ (some ⟨⟨br,bq⟩,v.sum,v.value⟩) } ⟨⟨px,py⟩,d⟩:=by
        unfold retireOne
        rw [HF.out.2.2.1,HS.out,hc]; rfl
       have HYES:=hide hyes
       clear h h2 hB2 hB3 z2 bd2 bn2 bv3 p1 p2 p3 hB25 hBw5 bv5 hW6 hB26 bv6 bn6 h6 hyes hc hB5
       go_wp2_with fail
       rw [HW6.out]
       clear g0 g1 v0 v1 vf0 vf1
       refine region_fam_tail (Bel W6) 6 (by kernel_rfl) (by kernel_rfl) (Below.refl _ _).drew ?_
       simp only [List.take_succ_cons,List.take_zero,List.drop_succ_cons,List.drop_zero]
       repeat (go_big_quiet_step (fail))
       refine wpQuiet_nil ?_
       intro _ hw'
       obtain ⟨fq,rfl⟩:=hw'
       obtain ⟨W7,hB7⟩:=fq
       try dsimp only
       clear c5 n0 n1 n2 n3 m0 m1 m2 m3
       have h7:=H6.out.1.below hB7
       obtain ⟨y,hy⟩:=Option.isSome_iff_exists.1 HF.out.2.2.2.2.1
       obtain ⟨kl,hkey⟩:=HF.out.2.2.2.2.2.lit
       obtain ⟨w8,hrun8,hM8,hg8⟩:=h7.vers.store_old (t:=178) name_keyed Tryz.underlying178 name_inj hmax hkey hy ⟨⟨br,bq⟩,v.sum,v.value⟩
       have q8:QT (·=.mv) W7 (own2q o' wr.heap.size others) w8 (own2q o' wr.heap.size others):=QT.ofGrown hg8 h7.versT
       have h8:StP w8 (own2q o' wr.heap.size others) sb vb cb eb ov cv ev kv n { stk with vers:=setVer stk.vers ⟨⟨px,py⟩,d⟩ (some ⟨⟨br,bq⟩,v.sum,v.value⟩) }:=h7.setVers q8 hM8
       have hWg:=HF.out.2.2.2.1.gone hy (v':=⟨⟨br,bq⟩,v.sum,v.value⟩) HX'.out.2.2.1
       have hkr:KeptRoom stk 1:=by
        have:=KeptRoom.steps ⟨px,py⟩ seen ⟨br,bq⟩ (l.take k) st 1 (HX'.out.2.2.2.less (by rw [List.length_take]; omega))
        rw [HF.out.1] at this; exact this
       have hen:=entrust_st ⟨vb,cb,eb,ov,cv,ev,kv,h8⟩ hWg.blks ⟨⟨px,py⟩,d⟩ HF.out.2.2.2.2.2 (fun u hu=>by
        have hu':setVer stk.vers ⟨⟨px,py⟩,d⟩ (some ⟨⟨br,bq⟩,v.sum,v.value⟩) ⟨⟨px,py⟩,d⟩=some u:=hu
        rw [setVer_same] at hu'
        cases hu'
        exact ⟨HX'.out.2.2.1.r0,HX'.out.2.2.1.r5⟩) hkr hn
       have bn8:Blk w8 (wr.heap.size + 1) [.string px,.string py,.int .i64 d.rep,.int .i64 d.seq] 233:=(H6.out.2.1.below hB7).move (hg8.block _ (H6.out.2.1.below hB7).lt (fun e=>by
        injection e with e
        have:=HA.out.1.vers.lt
        omega))
       have n0:w8.cell? ⟨wr.heap.size + 1,0,none⟩=some (.string px):=bn8.cell 0
       have n1:w8.cell? ⟨wr.heap.size + 1,1,none⟩=some (.string py):=bn8.cell 1
       have n2:w8.cell? ⟨wr.heap.size + 1,2,none⟩=some (.int .i64 d.rep):=bn8.cell 2
       have n3:w8.cell? ⟨wr.heap.size + 1,3,none⟩=some (.int .i64 d.seq):=bn8.cell 3
       have hq8:QT stoTag wc o1 w8 (own2q o' wr.heap.size others):=((((hinv.out.2.retag others).below H6.out.2.2).below hB7)).trans (q8.mono fun t ht=>by rw [ht]; trivial)
       have HQ8:=hide hq8
       simp only [VName.val] at hen hrun8
       have HEN:=hide hen
       clear h7 hy hkey hM8 hg8 q8 h8 hWg hkr hen bn8 hq8
       go_wp2_with fail
       refine HEN.out.mono ?_
       rintro e w9 ⟨rfl,o9,hI9,hq9⟩
       clear n0 n1 n2 n3 hrun8
       go_wp2_with fail
       refine ⟨⟨k + 1,o9,by omega,by go_num,?_,HQ8.out.trans hq9⟩,by simp [intOf]; omega⟩
       rw [HSTEP.out,HYES.out]
       exact hI9
   ·go_wp2_with fail
    go_end0
    refine ⟨rfl,o',?_,(HH.out.2.1.below hrest.out.2).trans hinv.out.2⟩
    have:=hinv.out.1
    rw [List.take_of_length_le (by omega)] at this
    unfold retireSt
    rw [HLL.out]
    exact this
end Go.Proofs.YtiplgdkpnhamaaaGreatDoor
namespace Go.Proofs.YtiplgdkpnhamaaaGreatDoor
open Go.RowKit
theorem find_hit {α:Type} {p:α → Bool} {l:List α} {k:Nat} (hk:k < l.length) (hp:p l[k]=true) (h:∀ j (hj:j < l.length),j < k → p l[j]=false):l.find? p=some l[k]:=by
 rw [List.find?_eq_some_iff_getElem]
 exact ⟨hp,k,hk,rfl,fun j hj=>by simp [h j (by omega) hj]⟩
theorem find_miss {α:Type} {p:α → Bool} {l:List α} (h:∀ j (hj:j < l.length),p l[j]=false):l.find? p=none:=by
 rw [List.find?_eq_none]
 intro a ha
 obtain ⟨j,hj,rfl⟩:=List.mem_iff_getElem.1 ha
 simp [h j hj]
set_option maxRecDepth 100000 in
set_option maxHeartbeats 8000000 in
theorem standing_any {w:World} {o:Nat → Own} {sb n:Nat} {st:St} (hI:StIn w o sb n st) (p:Place) (hp:p.Ok) (hok:∀ d,d ∈ st.came p → (⟨p,d⟩:VName).Ok) :
  Calls Tryz.prog 178 #[bptr sb,p.val] w fun e w'=>e=.returned (.int .i64 (standingOf st p)) ∧ Below w.heap.size w w':=by
 obtain ⟨vb,cb,eb,ov,cv,ev,kv,h⟩:=hI
 obtain ⟨px,py⟩:=p
 simp only [Place.val] at *
 generalize hW0:w.alloc (.cells #[.string px,.string py] 129)=W0
 have hB0:Below w.heap.size w W0:=by rw [← hW0]; exact (Below.refl _ _).alloc (Nat.le_refl _) _
 have hbx:Blk W0 w.heap.size [.string px,.string py] 129:=by rw [← hW0]; exact heap_alloc_new w _
 have h0:=h.below hB0
 obtain ⟨l,hll⟩:∃ l,st.came ⟨px,py⟩=l:=⟨_,rfl⟩
 have hrow:=h0.rowAt ⟨px,py⟩
 rw [hll] at hrow hok
 have hlk:∀ f:Fam (Bel W0),(Instr.lookup 179 (.map (some cb)) (.agg #[.string px,.string py]) false).run Tryz.prog f.w=.ok (cvAt cv ⟨px,py⟩) f.w:=fun f=>came_look h0 hp (f.ok.block _ h0.came.lt)
 obtain ⟨ao,cap,hsh,hcap,hmx,hcell⟩:=hrow.row.shape
 unfold maxLen at hmx
 rw [hsh] at hlk
 have c6:=Bel.cell (show W0.cell? ⟨sb,6,none⟩=some (.map (some cb)) from h0.blk.blk.cell 6)
 have x0:=Bel.cell (show W0.cell? ⟨w.heap.size,0,none⟩=some (.string px) from hbx.cell 0)
 have x1:=Bel.cell (show W0.cell? ⟨w.heap.size,1,none⟩=some (.string py) from hbx.cell 1)
 have HH:=hide (⟨h0,hbx,hB0,hcell⟩:_ ∧ _ ∧ _ ∧ _)
 have HX:=hide (⟨hp,hok⟩:_ ∧ _)
 have HLL:=hide hll
 have HW0:=hide hW0
 clear h h0 hbx hB0 hcell hrow hsh hp hok hll hW0
 go_enter Tryz.func178,Tryz.ntmps178
 go_wp2_with fail
 rw [HW0.out]
 refine region_fam (Bel W0) (by kernel_rfl) (by kernel_rfl) (Below.refl _ _).drew ?_
 repeat (go_big_quiet_step (fail))
 refine wpQuiet_nil ?_
 intro _ hw'
 obtain ⟨fq,rfl⟩:=hw'
 obtain ⟨W1,hB1⟩:=fq
 try dsimp only
 clear c6 x0 x1 hlk
 go_wp2_with fail
 go_loopw [15] (fun i wr=>∃ k:Nat,k ≤ l.length ∧ i=.int .i64 k ∧ Hid ((∀ j (hj:j < l.length),j < k → (verAt st.vers ⟨⟨px,py⟩,l[j]⟩).stands=false) ∧ Below W0.heap.size W0 wr)) (fun i _=>l.length - (intOf i).toNat)
 case atStart=>exact ⟨0,Nat.zero_le _,rfl,fun j _ h=>absurd h (Nat.not_lt_zero _),hB1⟩
 case round=>
  obtain ⟨k,hkl,rfl,hinv⟩:=hrel
  by_cases hlk:k < l.length
  ·obtain ⟨g,e0,d0⟩:=HH.out.2.2.2 (k * 2 + 0) (by omega)
   obtain ⟨g1,e1,d1⟩:=HH.out.2.2.2 (k * 2 + 1) (by omega)
   subst e0
   cases e1
   rw [flat_get _ 2 (fun _=>rfl) _ _ _ hlk (by omega)] at d0 d1
   simp only [Dot.cells,List.getElem?_cons_zero,List.getElem?_cons_succ,Nat.add_zero] at d0 d1
   have d0':=cell_later hinv.out.2 d0
   have d1':=cell_later hinv.out.2 d1
   have hbx1:=HH.out.2.1.below hinv.out.2
   have x0:wr.cell? ⟨w.heap.size,0,none⟩=some (.string px):=hbx1.cell 0
   have x1:wr.cell? ⟨w.heap.size,1,none⟩=some (.string py):=hbx1.cell 1
   have hbl:w.heap.size < wr.heap.size:=hbx1.lt
   obtain ⟨d,hd⟩:∃ d,l[k]=d:=⟨_,rfl⟩
   have hdo:(⟨⟨px,py⟩,d⟩:VName).Ok:=HX.out.2 d (by rw [← hd]; exact List.getElem_mem hlk)
   rw [hd] at d0' d1'
   clear d0 d1 hbx1
   generalize hW2:wr.alloc (.cells #[.int .i64 d.rep,.int .i64 d.seq] 62)=W2
   have hB2:Below wr.heap.size wr W2:=by rw [← hW2]; exact (Below.refl _ _).alloc (Nat.le_refl _) _
   have hBz:Below W0.heap.size W0 W2:=hinv.out.2.trans (hB2.mono hinv.out.2.size)
   have h2:=HH.out.1.below hBz
   have bd2:Blk W2 wr.heap.size [.int .i64 d.rep,.int .i64 d.seq] 62:=by rw [← hW2]; exact heap_alloc_new wr _
   have bp2:=HH.out.2.1.below hBz
   have c5:W2.cell? ⟨sb,5,none⟩=some (.map (some vb)):=h2.blk.blk.cell 5
   have n0:W2.cell? ⟨w.heap.size,0,none⟩=some (.string px):=bp2.cell 0
   have n1:W2.cell? ⟨w.heap.size,1,none⟩=some (.string py):=bp2.cell 1
   have n2:W2.cell? ⟨wr.heap.size,0,none⟩=some (.int .i64 d.rep):=bd2.cell 0
   have n3:W2.cell? ⟨wr.heap.size,1,none⟩=some (.int .i64 d.seq):=bd2.cell 1
   have hs2:sb < W2.heap.size:=h2.blk.blk.lt
   have hnl2:w.heap.size < W2.heap.size:=bp2.lt
   have hdl2:wr.heap.size < W2.heap.size:=bd2.lt
   obtain ⟨v,hv⟩:∃ v,verAt st.vers ⟨⟨px,py⟩,d⟩=v:=⟨_,rfl⟩
   have l1:=ver_look h2.vers hdo (W:=W2.drew) rfl
   have l2:=ver_look h2.vers hdo (W:=(W2.alloc (.cells #[.int .i64 0,.int .i64 0,.int .i64 0,.string ⟨#[]⟩] 239)).drew) (Below.heap_alloc _ _ _ h2.vers.lt)
   rw [hv] at l1 l2
   simp only at l1 l2
   generalize hW3:(W2.alloc (.cells #[.int .i64 v.went.rep,.int .i64 v.went.seq,.int .i64 v.sum,.string v.value] 239)).drew=W3
   have hB3:Below W2.heap.size W2 W3:=by rw [← hW3]; exact ((Below.refl _ _).alloc (Nat.le_refl _) _).drew
   have bv3:Blk W3 W2.heap.size [.int .i64 v.went.rep,.int .i64 v.went.seq,.int .i64 v.sum,.string v.value] 239:=by rw [← hW3]; exact heap_alloc_new W2 _
   have hBz3:Below W0.heap.size W0 W3:=hBz.trans (hB3.mono hBz.size)
   have HA:=hide (⟨hBz3,bv3,hd,hv⟩:_ ∧ _ ∧ _ ∧ _)
   have HW2:=hide hW2
   have HW3:=hide hW3
   clear h2 hB2 hBz bd2 bp2 hd hdo hv hW2 hW3 hB3 bv3 hBz3
   go_wp2_with fail
   rw [HW2.out]
   go_region
   all_goals go_wp2_with fail
   all_goals
    rw [HW3.out]
    refine (stands_any W3 v).mono ?_
    rintro e w4 ⟨hst,hB4⟩
    clear l1 l2 c5 n0 n1 n2 n3 x0 x1 d0' d1'
    have hBf:Below W0.heap.size W0 w4:=HA.out.1.trans (hB4.mono HA.out.1.size)
    have v2:w4.cell? ⟨W2.heap.size,2,none⟩=some (.int .i64 v.sum):=(HA.out.2.1.below hB4).cell 2
    cases hs:v.stands
    ·rw [hs] at hst
     subst hst
     have HS:=hide hs
     clear hs
     go_wp2_with fail
     refine ⟨⟨k + 1,by omega,by go_num,fun j hj hjk=>?_,hBf⟩,by simp [intOf]; omega⟩
     by_cases c:j=k
     ·subst c; rw [HA.out.2.2.1,HA.out.2.2.2]; exact HS.out
     ·exact hinv.out.1 j hj (by omega)
    ·rw [hs] at hst
     subst hst
     have HS:=hide hs
     clear hs
     go_wp2_with fail
     go_ret
     refine ⟨ret_int ?_,HH.out.2.2.1.trans (hBf.mono HH.out.2.2.1.size)⟩
     unfold standingOf
     rw [HLL.out,find_hit hlk (by rw [HA.out.2.2.1,HA.out.2.2.2]; exact HS.out) hinv.out.1,HA.out.2.2.1]
     show v.sum=(verAt st.vers ⟨⟨px,py⟩,d⟩).sum
     rw [HA.out.2.2.2]
  ·go_wp2_with fail
   go_ret
   refine ⟨ret_int ?_,HH.out.2.2.1.trans (hinv.out.2.mono HH.out.2.2.1.size)⟩
   unfold standingOf
   rw [HLL.out,find_miss fun j hj=>hinv.out.1 j hj (by omega)]
end Go.Proofs.YtiplgdkpnhamaaaGreatDoor
namespace Go.Proofs.YtiplgdkpnhamaaaGreatDoor
open Go.RowKit
theorem put_in {w:World} {o:Nat → Own} {sb n:Nat} {st:St} (hI:StIn w o sb n st) (x:VName) (hx:x.Ok) (v:Ver) (hl:(st.came x.at_).length ≤ 1000000000) (hn:n < 1000000000000) :
  Calls Tryz.prog 150 #[bptr sb,x.val,v.val] w fun e w'=>e=.returned (.tuple #[]) ∧ ∃ o',StIn w' o' sb (n + 1) (putSt st x v) ∧ QT stoTag w o w' o':=by
 obtain ⟨vb,cb,eb,ov,cv,ev,kv,h⟩:=hI
 exact (put_st h x hx v hl hn).mono fun e w' ⟨a,o',cv',b,c⟩=>⟨a,o',⟨vb,cb,eb,ov,cv',ev,kv,b⟩,c⟩
theorem list_in {w:World} {o:Nat → Own} {sb n:Nat} {st:St} (hI:StIn w o sb n st) (p:Place) (hp:p.Ok) (hn:n < 1000000000000) :
  Calls Tryz.prog 151 #[bptr sb,p.val] w fun e w'=>e=.returned (.tuple #[]) ∧ ∃ o',StIn w' o' sb (n + 2) (listSt st p) ∧ QT stoTag w o w' o':=by
 obtain ⟨vb,cb,eb,ov,cv,ev,kv,h⟩:=hI
 exact (list_st h p hp hn).mono fun e w' ⟨a,o',ev',b,c⟩=>⟨a,o',⟨vb,cb,eb,ov,cv,ev',kv,b⟩,c⟩
theorem entrust_came (st:St) (x:VName) (q:Place):((entrustSt st x).came q).length ≤ (st.came q).length:=by
 unfold entrustSt
 split
 ·exact Nat.le_refl _
 ·show (setCame st.came x.at_ _ q).length ≤ _
  by_cases c:q=x.at_
  ·subst c; rw [setCame_same]; exact List.length_filter_le _ _
  ·rw [setCame_other c]; exact Nat.le_refl _
theorem one_came (p:Place) (seen:Vec) (by_:Dot) (st:St) (d:Dot) (q:Place):((retireOne p seen by_ st d).came q).length ≤ (st.came q).length:=by
 unfold retireOne
 split
 ·exact entrust_came { st with vers:=setVer st.vers ⟨p,d⟩ (some { verAt st.vers ⟨p,d⟩ with went:=by_ }) } ⟨p,d⟩ q
 ·exact Nat.le_refl _
theorem steps_came (p:Place) (seen:Vec) (by_:Dot) (q:Place):∀ (l:List Dot) (st:St),((l.foldl (retireOne p seen by_) st).came q).length ≤ (st.came q).length
 | [],_=>Nat.le_refl _
 | d :: l,st=>Nat.le_trans (steps_came p seen by_ q l _) (one_came p seen by_ st d q)
theorem retire_came (st:St) (p:Place) (seen:Vec) (by_:Dot) (q:Place):((retireSt st p seen by_).came q).length ≤ (st.came q).length:=steps_came p seen by_ q _ st
set_option maxRecDepth 100000 in
set_option maxHeartbeats 8000000 in
theorem add_st {w:World} {o:Nat → Own} {sb n:Nat} {st:St} (hI:StIn w o sb n st) (hW:st.Wf) (p:Place) (hp:p.Ok) (amount:Int) (by_:Dot) (hb:by_.Ok) (hk:KeptRoom st (st.came p).length) (hl:(st.came p).length ≤ 1000000000) (hn:n < 1000000000000) :
  Calls Tryz.prog 148 #[bptr sb,p.val,.int .i64 amount,by_.val] w fun e w'=>e=.returned (.tuple #[]) ∧ ∃ o',StIn w' o' sb (n + 1) (addSt st p amount by_) ∧ QT stoTag w o w' o':=by
 obtain ⟨px,py⟩:=p
 obtain ⟨br,bq⟩:=by_
 generalize hW0:(w.alloc (.cells #[.string px,.string py] 129)).alloc (.cells #[.int .i64 br,.int .i64 bq] 62)=W0
 have hB0:Below w.heap.size w W0:=by rw [← hW0]; exact ((Below.refl _ _).alloc (Nat.le_refl _) _).alloc (by simp) _
 have hz0:W0.heap.size=w.heap.size + 2:=by rw [← hW0]; simp
 have hb1:Blk W0 w.heap.size [.string px,.string py] 129:=by rw [← hW0]; exact Blk.first w _ _ _
 have hb2:Blk W0 (w.heap.size + 1) [.int .i64 br,.int .i64 bq] 62:=by rw [← hW0]; exact Blk.second w _ _ _
 obtain ⟨o1,ho1⟩:∃ o1,o1=own2q o w.heap.size others:=⟨_,rfl⟩
 have hI1:StIn W0 o1 sb n st:=by rw [ho1]; exact (hI.retag others).below hB0
 have q0:QT stoTag w o W0 o1:=by rw [ho1]; exact ((QT.refl stoTag w o).retag others).below hB0
 have t1:∀ q,w.heap.size ≤ q → o1 q=.other:=fun q hq=>by rw [ho1]; exact own2q_high hq
 have hsd:=standing_any hI1 ⟨px,py⟩ hp (fun d hd=>hW.ok _ d hd)
 have x0:W0.cell? ⟨w.heap.size,0,none⟩=some (.string px):=hb1.cell 0
 have x1:W0.cell? ⟨w.heap.size,1,none⟩=some (.string py):=hb1.cell 1
 simp only [Place.val] at *
 have HH:=hide (⟨hI1,q0,hb1,hb2,t1⟩:_ ∧ _ ∧ _ ∧ _ ∧ _)
 have HX:=hide (⟨hW,hp,hb,hk⟩:_ ∧ _ ∧ _ ∧ _)
 have HSD:=hide hsd
 have HW0:=hide hW0
 clear hI hW hp hb hk hB0 hz0 hb1 hb2 ho1 hI1 q0 t1 hsd hW0
 obtain ⟨sd,hsd⟩:∃ s,standingOf st ⟨px,py⟩=s:=⟨_,rfl⟩
 unfold Hid at HSD
 rw [hsd] at HSD
 have HSD':=hide HSD
 have HS:=hide hsd
 clear hsd HSD
 go_enter Tryz.func148,Tryz.ntmps148
 go_wp2_with fail
 rw [HW0.out]
 refine HSD'.out.mono ?_
 rintro e w1 ⟨rfl,hB1⟩
 clear x0 x1
 have hI2:=HH.out.1.below hB1
 obtain ⟨vb,cb,eb,ov,cv,ev,kv,h⟩:=hI2
 have p1:Qb w1 o1 .other w.heap.size [.string px,.string py] 129:=⟨HH.out.2.2.1.below hB1,HH.out.2.2.2.2 _ (Nat.le_refl _)⟩
 have p2:Qb w1 o1 .other (w.heap.size + 1) [.int .i64 br,.int .i64 bq] 62:=⟨HH.out.2.2.2.1.below hB1,HH.out.2.2.2.2 _ (by omega)⟩
 have x0:=Bel.cell (show w1.cell? ⟨w.heap.size,0,none⟩=some (.string px) from p1.blk.cell 0)
 have x1:=Bel.cell (show w1.cell? ⟨w.heap.size,1,none⟩=some (.string py) from p1.blk.cell 1)
 have y0:=Bel.cell (show w1.cell? ⟨w.heap.size + 1,0,none⟩=some (.int .i64 br) from p2.blk.cell 0)
 have y1:=Bel.cell (show w1.cell? ⟨w.heap.size + 1,1,none⟩=some (.int .i64 bq) from p2.blk.cell 1)
 have s0:=Bel.cell (show w1.cell? ⟨sb,0,none⟩=some (.int .i64 st.vis.a) from h.blk.blk.cell 0)
 have s1:=Bel.cell (show w1.cell? ⟨sb,1,none⟩=some (.int .i64 st.vis.b) from h.blk.blk.cell 1)
 have s2:=Bel.cell (show w1.cell? ⟨sb,2,none⟩=some (.int .i64 st.vis.c) from h.blk.blk.cell 2)
 have s3:=Bel.cell (show w1.cell? ⟨sb,3,none⟩=some (.int .i64 st.vis.d) from h.blk.blk.cell 3)
 have s4:=Bel.cell (show w1.cell? ⟨sb,4,none⟩=some (.int .i64 st.vis.e) from h.blk.blk.cell 4)
 have H1:=hide (⟨⟨vb,cb,eb,ov,cv,ev,kv,h⟩,p1,p2,HH.out.2.1.below hB1⟩:StIn w1 o1 sb n st ∧ _ ∧ _ ∧ QT stoTag w o w1 o1)
 clear h p1 p2 hB1
 go_wp2_with fail
 refine region_fam_tail (Bel w1) 7 (by kernel_rfl) (by kernel_rfl) (Below.refl _ _).drew ?_
 simp only [List.take_succ_cons,List.take_zero,List.drop_succ_cons,List.drop_zero]
 repeat (go_big_quiet_step (fail))
 refine wpQuiet_nil ?_
 intro _ hw'
 obtain ⟨fq,rfl⟩:=hw'
 obtain ⟨W2,hB2⟩:=fq
 try dsimp only
 clear x0 x1 y0 y1 s0 s1 s2 s3 s4
 have hre:=retire_st (H1.out.1.below hB2) HX.out.1 ⟨px,py⟩ HX.out.2.1 st.vis ⟨br,bq⟩ HX.out.2.2.1 HX.out.2.2.2 hl hn
 simp only [Place.val] at hre
 go_wp2_with fail
 refine hre.mono ?_
 rintro e w3 ⟨rfl,o3,hI3,hq3⟩
 clear hre
 have p1:=(H1.out.2.1.below hB2).touch hq3 sto_other
 have p2:=(H1.out.2.2.1.below hB2).touch hq3 sto_other
 have q3:=(H1.out.2.2.2.below hB2).trans hq3
 have x0:w3.cell? ⟨w.heap.size,0,none⟩=some (.string px):=p1.blk.cell 0
 have x1:w3.cell? ⟨w.heap.size,1,none⟩=some (.string py):=p1.blk.cell 1
 have y0:w3.cell? ⟨w.heap.size + 1,0,none⟩=some (.int .i64 br):=p2.blk.cell 0
 have y1:w3.cell? ⟨w.heap.size + 1,1,none⟩=some (.int .i64 bq):=p2.blk.cell 1
 have H3:=hide (⟨hI3,q3⟩:_ ∧ _)
 clear hI3 hq3 p1 p2 q3
 by_cases hz:wrap64 (sd + amount)=0
 ·have e:addSt st ⟨px,py⟩ amount ⟨br,bq⟩=retireSt st ⟨px,py⟩ st.vis ⟨br,bq⟩:=by
   unfold addSt
   rw [HS.out]
   simp [hz]
  have HE:=hide e
  have hz':(wrap64 (sd + amount) == 0)=true:=by simp [hz]
  clear e hz
  go_wp2_with fail
  go_end0
  refine ⟨rfl,o3,?_,H3.out.2⟩
  rw [HE.out]
  exact H3.out.1.mono (Nat.le_succ n)
 ·have e:addSt st ⟨px,py⟩ amount ⟨br,bq⟩=putSt (retireSt st ⟨px,py⟩ st.vis ⟨br,bq⟩) ⟨⟨px,py⟩,⟨br,bq⟩⟩ ⟨⟨0,0⟩,wrap64 (sd + amount),⟨#[]⟩⟩:=by
   unfold addSt
   rw [HS.out]
   simp [hz]
  have HE:=hide e
  have hz':(wrap64 (sd + amount) == 0)=false:=by simp [hz]
  have hpt:=put_in H3.out.1 ⟨⟨px,py⟩,⟨br,bq⟩⟩ ⟨HX.out.2.1,HX.out.2.2.1⟩ ⟨⟨0,0⟩,wrap64 (sd + amount),⟨#[]⟩⟩ (Nat.le_trans (retire_came st _ _ _ _) hl) hn
  simp only [VName.val] at hpt
  have HPT:=hide hpt
  clear e hz hpt
  go_wp2_with fail
  refine HPT.out.mono ?_
  rintro e w4 ⟨rfl,o4,hI4,hq4⟩
  clear x0 x1 y0 y1
  go_wp2_with fail
  go_end0
  refine ⟨rfl,o4,?_,H3.out.2.trans hq4⟩
  rw [HE.out]
  exact hI4
end Go.Proofs.YtiplgdkpnhamaaaGreatDoor
namespace Go.Proofs.YtiplgdkpnhamaaaGreatDoor
open Go.RowKit
def Vec.put (v:Vec) (r s:Int):Vec:=⟨if r=0 then s else v.a,if r=1 then s else v.b,if r=2 then s else v.c,if r=3 then s else v.d,if r=4 then s else v.e⟩
theorem StP.setVis {w w':World} {o o':Nat → Own} {sb vb cb eb n:Nat} {ov:Value} {cv:Place → Option Value} {ev:ByteArray → Option Nat} {kv:Nat → Value} {st:St} (h:StP w o sb vb cb eb ov cv ev kv n st) (k:QT (·=.sto) w o w' o') {v:Vec}
  (hB:Qb w' o' .sto sb [.int .i64 v.a,.int .i64 v.b,.int .i64 v.c,.int .i64 v.d,.int .i64 v.e,.map (some vb),.map (some cb),.map (some eb),ov] 183):StP w' o' sb vb cb eb ov cv ev kv n { st with vis:=v }:=
 ⟨hB,h.vers.movet k (by rw [h.versT]; simp),(k.same _ h.vers.lt).trans h.versT,h.came.movet k (by rw [h.cameT]; simp),(k.same _ h.came.lt).trans h.cameT,h.rowN,fun p v e=>(h.row p v e).touch k (by simp),h.els.movet k (by rw [h.elsT]; simp),(k.same _ h.els.lt).trans h.elsT,h.setN,
  fun x b e=>(k.same _ (h.set x b e).lt).trans (h.setT x b e),fun x b e=>(h.set x b e).movet k (by rw [h.setT x b e]; simp),h.opens.touch k (by simp),fun s hs=>(h.snap s hs).touch k (by simp),fun s hs=>(h.kept s hs).touch k (by simp),h.elsOk⟩
def ApRel (P:(Place → Bool) → St → Prop) (w1:World) (o1:Nat → Own) (sb n mb r nW:Nat) (m:Place → Option Wr) (wr:World):Prop:=
 ∃ (left:Place → Bool) (cnt:Nat) (o':Nat → Own) (st:St),RngIn wr 129 mb r nW Place.val Wr.val m left cnt ∧ cnt ≤ 16 ∧ StIn wr o' sb (n + 3 * (16 - cnt)) st ∧ Touch (fun q=>stoTag (o1 q) ∨ q=r) w1 wr ∧ (∀ q,q < w1.heap.size → o' q=o1 q) ∧ P left st ∧ ∀ p,left p=true → (m p).isSome
theorem ap_next {w1 wr w2 W3 w4:World} {o1 o' o4:Nat → Own} {r:Nat} (T:Touch (fun q=>stoTag (o1 q) ∨ q=r) w1 wr) (S:∀ q,q < w1.heap.size → o' q=o1 q) (hgr:wr.grownBy w2 (some r)) (hB3:Below w2.heap.size w2 W3) (k:QT stoTag W3 (own2q o' w2.heap.size others) w4 o4) :
  Touch (fun q=>stoTag (o1 q) ∨ q=r) w1 w4 ∧ ∀ q,q < w1.heap.size → o4 q=o1 q:=by
 have z1:w1.heap.size ≤ w2.heap.size:=Nat.le_trans T.size hgr.size
 have z2:w1.heap.size ≤ W3.heap.size:=Nat.le_trans z1 hB3.size
 refine ⟨((T.trans ((Touch.ofGrown hgr).mono fun q _ e=>Or.inl (Or.inr (by injection e)))).trans (Touch.ofBelow hB3)).trans (k.touch.mono fun q hq ht=>?_),fun q hq=>?_⟩
 ·by_cases c:q < w1.heap.size
  ·rw [own2q_low (by omega),S q c] at ht
   exact Or.inl (Or.inl ht)
  ·exact Or.inr (by omega)
 ·rw [k.same q (by omega),own2q_low (by omega)]
  exact S q hq
structure ApStep (P:(Place → Bool) → St → Prop) (m:Place → Option Wr) (saw:Vec) (dot:Dot):Prop where
 wf:∀ left st,P left st → st.Wf
 came:∀ left st p,P left st → (st.came p).length ≤ 10000000
 kept:∀ left st,P left st → KeptRoom st 10000000
 kind:∀ p x,m p=some x → (x.kind=0 ∨ x.kind=1 ∨ x.kind=2 ∨ x.kind=3) ∧ p.Ok
 step:∀ left st p x,P left st → left p=true → m p=some x → P (fun q=>left q && !decide (q=p)) (writeSt saw dot st p x)
set_option maxRecDepth 100000 in
set_option maxHeartbeats 8000000 in
theorem apply_st {P:(Place → Bool) → St → Prop} {w:World} {o:Nat → Own} {sb n mb nW:Nat} {st:St} {m:Place → Option Wr} {saw:Vec} {dot:Dot} (hI:StIn w o sb n st) (hM:MapIn w 129 mb nW Place.val Wr.val m) (hmb:¬ stoTag (o mb)) (hnW:nW ≤ 16) (hS:ApStep P m saw dot) (hP:P (fun p=>(m p).isSome) st)
  (hdo:dot.Ok) (hn:n < 100000000000) :
  Calls Tryz.prog 105 #[bptr sb,.agg #[.int .i64 dot.rep,.int .i64 dot.seq,.int .i64 saw.a,.int .i64 saw.b,.int .i64 saw.c,.int .i64 saw.d,.int .i64 saw.e,.map (some mb)]] w fun e w'=>e=.returned (.tuple #[]) ∧
   ∃ o' st',(∃ left,P left st' ∧ ∀ p,left p=false) ∧ StIn w' o' sb (n + 48) { st' with vis:=st'.vis.put dot.rep dot.seq } ∧ QT stoTag w o w' o':=by
 obtain ⟨dr,dq⟩:=dot
 have hml:=hM.lt
 generalize hW0:w.alloc (.cells #[.int .i64 dr,.int .i64 dq,.int .i64 saw.a,.int .i64 saw.b,.int .i64 saw.c,.int .i64 saw.d,.int .i64 saw.e,.map (some mb)] 139)=W0
 have hB0:Below w.heap.size w W0:=by rw [← hW0]; exact (Below.refl _ _).alloc (Nat.le_refl _) _
 have hz0:W0.heap.size=w.heap.size + 1:=by rw [← hW0]; simp
 have hb1:Blk W0 w.heap.size [.int .i64 dr,.int .i64 dq,.int .i64 saw.a,.int .i64 saw.b,.int .i64 saw.c,.int .i64 saw.d,.int .i64 saw.e,.map (some mb)] 139:=by rw [← hW0]; exact heap_alloc_new w _
 obtain ⟨o1,ho1⟩:∃ o1,o1=own2q o w.heap.size others:=⟨_,rfl⟩
 have hI1:StIn W0 o1 sb n st:=by rw [ho1]; exact (hI.retag others).below hB0
 have q0:QT stoTag w o W0 o1:=by rw [ho1]; exact ((QT.refl stoTag w o).retag others).below hB0
 have t1:∀ q,w.heap.size ≤ q → o1 q=.other:=fun q hq=>by rw [ho1]; exact own2q_high hq
 have tm:¬ stoTag (o1 mb):=by rw [ho1,own2q_low hml]; exact hmb
 obtain ⟨w1,cnt0,hrunR,hrg,hcnt,hg1,hs1⟩:=(hM.move (w':=W0) (hB0.block _ hml)).range (t:=120) place_keyed Tryz.underlying120
 have hB1:Below W0.heap.size W0 w1:=(Below.refl _ _).grown hg1 (Nat.le_refl _) (fun j hj=>by cases hj)
 have c7:W0.cell? ⟨w.heap.size,7,none⟩=some (.map (some mb)):=hb1.cell 7
 have p1:Qb w1 o1 .other w.heap.size [.int .i64 dr,.int .i64 dq,.int .i64 saw.a,.int .i64 saw.b,.int .i64 saw.c,.int .i64 saw.d,.int .i64 saw.e,.map (some mb)] 139:=⟨hb1.below hB1,t1 _ (Nat.le_refl _)⟩
 have hrel0:ApRel P w1 o1 sb n mb W0.heap.size nW m w1:=⟨_,cnt0,o1,st,hrg,by omega,(hI1.below hB1).mono (by omega),Touch.refl _ _,fun _ _=>rfl,hP,fun p hp=>hp⟩
 have HH:=hide (⟨hrel0,p1,q0.below hB1,tm,t1 W0.heap.size (by omega),hdo⟩:_ ∧ _ ∧ _ ∧ _ ∧ _ ∧ _)
 have HS:=hide hS
 have HW0:=hide hW0
 have hlt:mb ≠ w.heap.size:=by omega
 have hzl:w.heap.size < W0.heap.size:=by omega
 have hr1:W0.heap.size < w1.heap.size:=by omega
 clear hI hM hmb hS hP hdo hB0 hz0 hb1 ho1 hI1 q0 t1 tm hrg hcnt hg1 hs1 hB1 p1 hrel0 hW0
 go_enter Tryz.func105,Tryz.ntmps105
 go_upto_region 1 with (fail)
 rw [HW0.out]
 go_wp2_with fail
 go_loopw [] (fun wr=>ApRel P w1 o1 sb n mb W0.heap.size nW m wr) (fun wr=>wr.rangeLeft mb W0.heap.size)
 case atStart=>exact HH.out.1
 case round=>
  obtain ⟨left,cnt,o',stk,hrg,hc16,hIk,hT,hSm,hPk,hlm⟩:=hrel
  have pk:Qb wr o' .other w.heap.size [.int .i64 dr,.int .i64 dq,.int .i64 saw.a,.int .i64 saw.b,.int .i64 saw.c,.int .i64 saw.d,.int .i64 saw.e,.map (some mb)] 139:=⟨HH.out.2.1.blk.move (hT.block _ HH.out.2.1.blk.lt (fun e=>e.elim (fun e=>by rw [HH.out.2.1.tag] at e; exact e) (fun e=>by omega))),(hSm _ HH.out.2.1.blk.lt).trans HH.out.2.1.tag⟩
  have hrl:=hrg.left_eq
  rcases hrg.next place_keyed place_inj 0 with ⟨h0,hl,hrun⟩ | ⟨p,y,w2,cnt',hkl,hlx,hmx,hrun,hrg2,hltc,hgr,hsz,hen⟩
  ·obtain ⟨vb,cb,eb,ov,cv,ev,kv,h⟩:=hIk
   have b0:wr.cell? ⟨w.heap.size,0,none⟩=some (.int .i64 dr):=pk.blk.cell 0
   have b1:wr.cell? ⟨w.heap.size,1,none⟩=some (.int .i64 dq):=pk.blk.cell 1
   have hall:∀ p,left p=false:=fun p=>by
    cases e:left p with
    | false=>rfl
    | true=>
     obtain ⟨x,hx⟩:=Option.isSome_iff_exists.1 (hlm p e)
     obtain ⟨kl,hkl⟩:=(HS.out.kind p x hx).2.lit
     rw [hl p kl hkl] at e; cases e
   have c0:wr.cell? ⟨sb,0,none⟩=some (.int .i64 stk.vis.a):=h.blk.blk.cell 0
   have c1:wr.cell? ⟨sb,1,none⟩=some (.int .i64 stk.vis.b):=h.blk.blk.cell 1
   have c2:wr.cell? ⟨sb,2,none⟩=some (.int .i64 stk.vis.c):=h.blk.blk.cell 2
   have c3:wr.cell? ⟨sb,3,none⟩=some (.int .i64 stk.vis.d):=h.blk.blk.cell 3
   have c4:wr.cell? ⟨sb,4,none⟩=some (.int .i64 stk.vis.e):=h.blk.blk.cell 4
   have f0:wr.frozen? ⟨sb,0,none⟩=false:=h.blk.blk.frozen 0
   have f1:wr.frozen? ⟨sb,1,none⟩=false:=h.blk.blk.frozen 1
   have f2:wr.frozen? ⟨sb,2,none⟩=false:=h.blk.blk.frozen 2
   have f3:wr.frozen? ⟨sb,3,none⟩=false:=h.blk.blk.frozen 3
   have f4:wr.frozen? ⟨sb,4,none⟩=false:=h.blk.blk.frozen 4
   have hfq:QT stoTag w o wr o':=by
    have q1:=HH.out.2.2.1
    refine ⟨q1.touch.trans (hT.mono fun q hq e=>?_),fun q hq=>(hSm q (Nat.lt_of_lt_of_le hq q1.size)).trans (q1.same q hq)⟩
    by_cases c:q < w.heap.size
    ·rcases e with e | e
     ·rw [q1.same q c] at e; exact Or.inl e
     ·omega
    ·exact Or.inr (by omega)
   have HFQ:=hide hfq
   have hfin:∀ (j:Nat) (v:Vec),v=stk.vis.put dr dq → [.int .i64 v.a,.int .i64 v.b,.int .i64 v.c,.int .i64 v.d,.int .i64 v.e,.map (some vb),.map (some cb),.map (some eb),ov]=[Value.int .i64 stk.vis.a,.int .i64 stk.vis.b,.int .i64 stk.vis.c,.int .i64 stk.vis.d,.int .i64 stk.vis.e,.map (some vb),.map (some cb),.map (some eb),ov].set j (.int .i64 dq) →
     ∃ o' st',(∃ left,P left st' ∧ ∀ p,left p=false) ∧ StIn (wr.setCell ⟨sb,j,none⟩ (.int .i64 dq)).drew o' sb (n + 48) { st' with vis:=st'.vis.put dr dq } ∧ QT stoTag w o (wr.setCell ⟨sb,j,none⟩ (.int .i64 dq)).drew o':=fun j v hv hlist=>by
    have k1:QT (·=.sto) wr o' (wr.setCell ⟨sb,j,none⟩ (.int .i64 dq)).drew o':=((QT.refl _ _ _).set (p:=⟨sb,j,none⟩) h.blk.tag _).drew
    have B1:=(h.blk.set j (.int .i64 dq)).drew
    rw [← hlist] at B1
    have h1:=h.setVis k1 B1
    rw [hv] at h1
    exact ⟨o',stk,⟨left,hPk,hall⟩,⟨vb,cb,eb,ov,cv,ev,kv,h1.mono (by omega)⟩,(HFQ.out.trans (k1.mono fun t ht=>by rw [ht]; trivial))⟩
   have HFIN:=hide hfin
   have hdr:dr=0 ∨ dr=1 ∨ dr=2 ∨ dr=3 ∨ dr=4:=by have:=HH.out.2.2.2.2.2.r0; have:=HH.out.2.2.2.2.2.r5; simp only at *; omega
   clear hrg hrl hl hT hSm hPk hlm pk h hall hfin hfq h0 hrunR c7
   rcases hdr with rfl | rfl | rfl | rfl | rfl
   all_goals
    go_wp2_with fail
    go_region
    all_goals go_wp2_with fail
    all_goals go_end0
   ·exact ⟨rfl,HFIN.out 0 ⟨dq,stk.vis.b,stk.vis.c,stk.vis.d,stk.vis.e⟩ (by simp [Vec.put]) rfl⟩
   ·exact ⟨rfl,HFIN.out 1 ⟨stk.vis.a,dq,stk.vis.c,stk.vis.d,stk.vis.e⟩ (by simp [Vec.put]) rfl⟩
   ·exact ⟨rfl,HFIN.out 2 ⟨stk.vis.a,stk.vis.b,dq,stk.vis.d,stk.vis.e⟩ (by simp [Vec.put]) rfl⟩
   ·exact ⟨rfl,HFIN.out 3 ⟨stk.vis.a,stk.vis.b,stk.vis.c,dq,stk.vis.e⟩ (by simp [Vec.put]) rfl⟩
   ·exact ⟨rfl,HFIN.out 4 ⟨stk.vis.a,stk.vis.b,stk.vis.c,stk.vis.d,dq⟩ (by simp [Vec.put]) rfl⟩
  ·obtain ⟨hkd,hpo⟩:=HS.out.kind p y hmx
   have hml1:mb < w1.heap.size:=by omega
   have tmk:¬ stoTag (o' mb):=by rw [hSm mb hml1]; exact HH.out.2.2.2.1
   have trk:o' W0.heap.size=.other:=by rw [hSm _ hr1]; exact HH.out.2.2.2.2.1
   have hrk:W0.heap.size < wr.heap.size:=Nat.lt_of_lt_of_le hr1 hT.size
   -- the iterator has gone on
   have k2:QT (·=.other) wr o' w2 o':=QT.ofGrown hgr trk
   have hI2:StIn w2 (own2q o' w2.heap.size others) sb (n + 3 * (16 - cnt)) stk:=by
    obtain ⟨vb,cb,eb,ov,cv,ev,kv,h⟩:=hIk
    exact StIn.retag ⟨vb,cb,eb,ov,cv,ev,kv,h.touch k2 (fun t ht e=>by rw [e] at ht; exact ht)⟩ others
   obtain ⟨o2,ho2⟩:∃ o2,o2=own2q o' w2.heap.size others:=⟨_,rfl⟩
   have p2:Qb w2 o2 .other w.heap.size [.int .i64 dr,.int .i64 dq,.int .i64 saw.a,.int .i64 saw.b,.int .i64 saw.c,.int .i64 saw.d,.int .i64 saw.e,.map (some mb)] 139:=by
    have hb:w2.heap[w.heap.size]? = wr.heap[w.heap.size]?:=hgr.block _ pk.blk.lt (fun e=>by injection e with e; omega)
    exact ⟨pk.blk.move hb,by rw [ho2,own2q_low (by have:=pk.blk.lt; omega)]; exact pk.tag⟩
   have t2:∀ q,w2.heap.size ≤ q → o2 q=.other:=fun q hq=>by rw [ho2]; exact own2q_high hq
   rw [← ho2] at hI2
   have hst0:=HS.out.step left stk p y hPk hlx hmx
   have hwf:=HS.out.wf left stk hPk
   have hcm:=HS.out.came left stk p hPk
   have hkp:=HS.out.kept left stk hPk
   obtain ⟨px,py⟩:=p
   obtain ⟨yk,ya,yv⟩:=y
   simp only [Place.val,Wr.val] at hrun hen
   generalize hW3:(w2.alloc (.cells #[.string px,.string py] 129)).alloc (.cells #[.int .i64 yk,.int .i64 ya,.string yv] 132)=W3
   have hB3:Below w2.heap.size w2 W3:=by rw [← hW3]; exact ((Below.refl _ _).alloc (Nat.le_refl _) _).alloc (by simp) _
   have z3:W3.heap.size=w2.heap.size + 2:=by rw [← hW3]; simp
   have p3:Qb W3 o2 .other w.heap.size [.int .i64 dr,.int .i64 dq,.int .i64 saw.a,.int .i64 saw.b,.int .i64 saw.c,.int .i64 saw.d,.int .i64 saw.e,.map (some mb)] 139:=p2.below hB3
   have pp:Qb W3 o2 .other w2.heap.size [.string px,.string py] 129:=⟨by rw [← hW3]; exact Blk.first w2 _ _ _,t2 _ (Nat.le_refl _)⟩
   have pw:Qb W3 o2 .other (w2.heap.size + 1) [.int .i64 yk,.int .i64 ya,.string yv] 132:=⟨by rw [← hW3]; exact Blk.second w2 _ _ _,t2 _ (by omega)⟩
   have hI3:=hI2.below hB3
   have hfin:∀ (w4:World) (o4:Nat → Own) (st4:St),StIn w4 o4 sb (n + 3 * (16 - cnt) + 3) st4 → QT stoTag W3 o2 w4 o4 → st4=writeSt saw ⟨dr,dq⟩ stk ⟨px,py⟩ ⟨yk,ya,yv⟩ → ApRel P w1 o1 sb n mb W0.heap.size nW m w4 ∧ w4.rangeLeft mb W0.heap.size < wr.rangeLeft mb W0.heap.size:=fun w4 o4 st4 hI4 hq4 e=>by
    rw [ho2] at hq4
    obtain ⟨a1,a2⟩:=ap_next hT hSm hgr hB3 hq4
    have hb1:w4.heap[mb]? = w2.heap[mb]?:=(hq4.touch.block mb (by omega) (by rw [own2q_low (by omega)]; exact tmk)).trans (hB3.block _ (by omega))
    have hb2:w4.heap[W0.heap.size]? = w2.heap[W0.heap.size]?:=(hq4.touch.block _ (by omega) (by rw [own2q_low (by omega),trk]; exact sto_other)).trans (hB3.block _ (by omega))
    have hr4:=hrg2.move hb1 hb2
    refine ⟨⟨_,cnt',o4,st4,hr4,by omega,hI4.mono (by omega),a1,a2,by rw [e]; exact hst0,fun q hq=>hlm q (by simp only [Bool.and_eq_true] at hq; exact hq.1)⟩,?_⟩
    rw [hr4.left_eq,hrl]; exact hltc
   have HFIN:=hide hfin
   have H3:=hide (⟨hI3,p3,pp,pw,hwf,hcm,hkp,hpo⟩:_ ∧ _ ∧ _ ∧ _ ∧ _ ∧ _ ∧ _ ∧ _)
   have HW3:=hide hW3
   have hn3:n + 3 * (16 - cnt) + 3 < 1000000000000:=by omega
   obtain ⟨nn,hnn⟩:∃ nn,n + 3 * (16 - cnt)=nn:=⟨_,rfl⟩
   unfold Hid at HFIN H3
   rw [hnn] at HFIN H3 hn3
   have HFIN':=hide HFIN
   have H3':=hide H3
   have hbl:w.heap.size < w2.heap.size:=p2.blk.lt
   have e0:w2.cell? ⟨w.heap.size,0,none⟩=some (.int .i64 dr):=p2.blk.cell 0
   have e1:w2.cell? ⟨w.heap.size,1,none⟩=some (.int .i64 dq):=p2.blk.cell 1
   have e2:w2.cell? ⟨w.heap.size,2,none⟩=some (.int .i64 saw.a):=p2.blk.cell 2
   have e3:w2.cell? ⟨w.heap.size,3,none⟩=some (.int .i64 saw.b):=p2.blk.cell 3
   have e4:w2.cell? ⟨w.heap.size,4,none⟩=some (.int .i64 saw.c):=p2.blk.cell 4
   have e5:w2.cell? ⟨w.heap.size,5,none⟩=some (.int .i64 saw.d):=p2.blk.cell 5
   have e6:w2.cell? ⟨w.heap.size,6,none⟩=some (.int .i64 saw.e):=p2.blk.cell 6
   have HKD:=hide hkd
   clear hrg hrl hT hSm hPk hlm pk hkd hpo hml1 tmk trk hrk k2 hI2 ho2 p2 t2 hst0 hwf hcm hkp hB3 z3 p3 pp pw hI3 hfin HFIN H3 hW3 hnn hIk hkl hlx hmx hrg2 hltc hgr hsz hrunR c7 hc16
   have hkd:=HKD.out
   simp only at hkd
   clear HKD
   rcases hkd with rfl | rfl | rfl | rfl
   ·have hcall:=add_st H3'.out.1 H3'.out.2.2.2.2.1 ⟨px,py⟩ H3'.out.2.2.2.2.2.2.2 ya ⟨dr,dq⟩ HH.out.2.2.2.2.2 (H3'.out.2.2.2.2.2.2.1.less H3'.out.2.2.2.2.2.1) (Nat.le_trans H3'.out.2.2.2.2.2.1 (by omega)) (by omega)
    simp only [Place.val] at hcall
    have HCALL:=hide hcall
    clear hcall
    go_wp2_with fail
    rw [HW3.out]
    refine HCALL.out.mono ?_
    rintro e w4 ⟨rfl,o4,hI4,hq4⟩
    clear e0 e1 e2 e3 e4 e5 e6 hrun hen
    go_wp2_with fail
    exact HFIN'.out w4 o4 _ (hI4.mono (by omega)) hq4 (by simp [writeSt])
   ·have hcall:=retire_st H3'.out.1 H3'.out.2.2.2.2.1 ⟨px,py⟩ H3'.out.2.2.2.2.2.2.2 saw ⟨dr,dq⟩ HH.out.2.2.2.2.2 (H3'.out.2.2.2.2.2.2.1.less H3'.out.2.2.2.2.2.1) (Nat.le_trans H3'.out.2.2.2.2.2.1 (by omega)) (by omega)
    simp only [Place.val] at hcall
    have HCALL:=hide hcall
    clear hcall
    go_wp2_with fail
    rw [HW3.out]
    refine HCALL.out.mono ?_
    rintro e w4 ⟨rfl,o4,hI4,hq4⟩
    clear e0 e1 e2 e3 e4 e5 e6 hrun hen
    have p4:=H3'.out.2.1.touch hq4 sto_other
    have pp4:=H3'.out.2.2.1.touch hq4 sto_other
    have pw4:=H3'.out.2.2.2.1.touch hq4 sto_other
    have e0:w4.cell? ⟨w.heap.size,0,none⟩=some (.int .i64 dr):=p4.blk.cell 0
    have e1:w4.cell? ⟨w.heap.size,1,none⟩=some (.int .i64 dq):=p4.blk.cell 1
    have u0:w4.cell? ⟨w2.heap.size,0,none⟩=some (.string px):=pp4.blk.cell 0
    have u1:w4.cell? ⟨w2.heap.size,1,none⟩=some (.string py):=pp4.blk.cell 1
    have v2:w4.cell? ⟨w2.heap.size + 1,2,none⟩=some (.string yv):=pw4.blk.cell 2
    have hput:=put_in hI4 ⟨⟨px,py⟩,⟨dr,dq⟩⟩ ⟨H3'.out.2.2.2.2.2.2.2,HH.out.2.2.2.2.2⟩ ⟨⟨0,0⟩,0,yv⟩ (Nat.le_trans (retire_came stk _ _ _ _) (Nat.le_trans H3'.out.2.2.2.2.2.1 (by omega))) (by omega)
    simp only [VName.val] at hput
    have HPUT:=hide hput
    have HQ4:=hide hq4
    clear hput p4 pp4 pw4 hI4 hq4
    go_wp2_with fail
    refine HPUT.out.mono ?_
    rintro e w5 ⟨rfl,o5,hI5,hq5⟩
    clear e0 e1 u0 u1 v2
    go_wp2_with fail
    exact HFIN'.out w5 o5 _ (hI5.mono (by omega)) (HQ4.out.trans hq5) (by simp [writeSt])
   ·have hcall:=retire_st H3'.out.1 H3'.out.2.2.2.2.1 ⟨px,py⟩ H3'.out.2.2.2.2.2.2.2 saw ⟨dr,dq⟩ HH.out.2.2.2.2.2 (H3'.out.2.2.2.2.2.2.1.less H3'.out.2.2.2.2.2.1) (Nat.le_trans H3'.out.2.2.2.2.2.1 (by omega)) (by omega)
    simp only [Place.val] at hcall
    have HCALL:=hide hcall
    clear hcall
    go_wp2_with fail
    rw [HW3.out]
    refine HCALL.out.mono ?_
    rintro e w4 ⟨rfl,o4,hI4,hq4⟩
    clear e0 e1 e2 e3 e4 e5 e6 hrun hen
    have p4:=H3'.out.2.1.touch hq4 sto_other
    have pp4:=H3'.out.2.2.1.touch hq4 sto_other
    have e0:w4.cell? ⟨w.heap.size,0,none⟩=some (.int .i64 dr):=p4.blk.cell 0
    have e1:w4.cell? ⟨w.heap.size,1,none⟩=some (.int .i64 dq):=p4.blk.cell 1
    have u0:w4.cell? ⟨w2.heap.size,0,none⟩=some (.string px):=pp4.blk.cell 0
    have u1:w4.cell? ⟨w2.heap.size,1,none⟩=some (.string py):=pp4.blk.cell 1
    have hput:=put_in hI4 ⟨⟨px,py⟩,⟨dr,dq⟩⟩ ⟨H3'.out.2.2.2.2.2.2.2,HH.out.2.2.2.2.2⟩ noVer (Nat.le_trans (retire_came stk _ _ _ _) (Nat.le_trans H3'.out.2.2.2.2.2.1 (by omega))) (by omega)
    simp only [VName.val,noVer] at hput
    have HPUT:=hide hput
    have HQ4:=hide (⟨hq4,pp4⟩:_ ∧ _)
    clear hput p4 pp4 hI4 hq4
    go_wp2_with fail
    refine HPUT.out.mono ?_
    rintro e w5 ⟨rfl,o5,hI5,hq5⟩
    clear e0 e1 u0 u1
    have pp5:Qb w5 o5 .other w2.heap.size [.string px,.string py] 129:=HQ4.out.2.touch hq5 sto_other
    have u0:w5.cell? ⟨w2.heap.size,0,none⟩=some (.string px):=pp5.blk.cell 0
    have u1:w5.cell? ⟨w2.heap.size,1,none⟩=some (.string py):=pp5.blk.cell 1
    have hlist:=list_in hI5 ⟨px,py⟩ H3'.out.2.2.2.2.2.2.2 (by omega)
    simp only [Place.val] at hlist
    have HLIST:=hide hlist
    have HQ5:=hide (HQ4.out.1.trans hq5)
    clear hlist pp5 hI5 hq5
    go_wp2_with fail
    refine HLIST.out.mono ?_
    rintro e w6 ⟨rfl,o6,hI6,hq6⟩
    clear u0 u1
    go_wp2_with fail
    exact HFIN'.out w6 o6 _ (hI6.mono (by omega)) (HQ5.out.trans hq6) (by simp [writeSt,noVer])
   ·have hcall:=retire_st H3'.out.1 H3'.out.2.2.2.2.1 ⟨px,py⟩ H3'.out.2.2.2.2.2.2.2 saw ⟨dr,dq⟩ HH.out.2.2.2.2.2 (H3'.out.2.2.2.2.2.2.1.less H3'.out.2.2.2.2.2.1) (Nat.le_trans H3'.out.2.2.2.2.2.1 (by omega)) (by omega)
    simp only [Place.val] at hcall
    have HCALL:=hide hcall
    clear hcall
    go_wp2_with fail
    rw [HW3.out]
    refine HCALL.out.mono ?_
    rintro e w4 ⟨rfl,o4,hI4,hq4⟩
    clear e0 e1 e2 e3 e4 e5 e6 hrun hen
    go_wp2_with fail
    exact HFIN'.out w4 o4 _ (hI4.mono (by omega)) hq4 (by simp [writeSt])
end Go.Proofs.YtiplgdkpnhamaaaGreatDoor
namespace Go.Proofs.YtiplgdkpnhamaaaGreatDoor
open Go.RowKit
theorem nilRow {w:World} {o:Nat → Own} {t:Own} {e:TypeId} {size:Nat}:Qc w o t e size nilSlice 0 []:=⟨⟨by simp,.inl ⟨rfl,rfl⟩⟩,fun q hq=>by simp [Value.ownBlock] at hq⟩
set_option maxRecDepth 100000 in
set_option maxHeartbeats 2000000 in
theorem snew_any (w:World) (o:Nat → Own):Calls Tryz.prog 86 #[] w fun e w'=>e=.returned (bptr (w.heap.size + 3)) ∧ (Below w.heap.size w w' ∧ w'.heap.size=w.heap.size + 4 ∧
   StIn w' (fun q=>if q=w.heap.size then .mv else if q=w.heap.size + 1 then .mc else if q=w.heap.size + 2 then .me else if q=w.heap.size + 3 then .sto else o q) (w.heap.size + 3) 0 noSt):=by
 have hmm:=@run_makeMap Tryz.prog
 generalize hW:(((w.alloc (.map #[] 0)).alloc (.map #[] 0)).alloc (.map #[] 0)).alloc (.cells #[.int .i64 0,.int .i64 0,.int .i64 0,.int .i64 0,.int .i64 0,.map (some w.heap.size),.map (some (w.heap.size + 1)),.map (some (w.heap.size + 2)),.slice none 0 0] 183)=W
 have hz:W.heap.size=w.heap.size + 4:=by rw [← hW]; simp
 have hB:Below w.heap.size w W:=by rw [← hW]; exact ((((Below.refl _ _).alloc (Nat.le_refl _) _).alloc (by simp) _).alloc (by simp; try omega) _).alloc (by simp; try omega) _
 have m1:W.heap[w.heap.size]? = (w.alloc (.map #[] 0)).heap[w.heap.size]?:=by rw [← hW,Below.heap_alloc _ _ _ (by simp; try omega),Below.heap_alloc _ _ _ (by simp; try omega),Below.heap_alloc _ _ _ (by simp)]
 have m2:W.heap[w.heap.size + 1]? = ((w.alloc (.map #[] 0)).alloc (.map #[] 0)).heap[w.heap.size + 1]?:=by rw [← hW,Below.heap_alloc _ _ _ (by simp; try omega),Below.heap_alloc _ _ _ (by simp)]
 have m3:W.heap[w.heap.size + 2]? = (((w.alloc (.map #[] 0)).alloc (.map #[] 0)).alloc (.map #[] 0)).heap[w.heap.size + 2]?:=by rw [← hW,Below.heap_alloc _ _ _ (by simp)]
 have b4:Blk W (w.heap.size + 3) [.int .i64 0,.int .i64 0,.int .i64 0,.int .i64 0,.int .i64 0,.map (some w.heap.size),.map (some (w.heap.size + 1)),.map (some (w.heap.size + 2)),.slice none 0 0] 183:=by
  rw [← hW]
  have a:=heap_alloc_new (((w.alloc (.map #[] 0)).alloc (.map #[] 0)).alloc (.map #[] 0)) (.cells #[.int .i64 0,.int .i64 0,.int .i64 0,.int .i64 0,.int .i64 0,.map (some w.heap.size),.map (some (w.heap.size + 1)),.map (some (w.heap.size + 2)),.slice none 0 0] 183)
  rw [show (((w.alloc (.map #[] 0)).alloc (.map #[] 0)).alloc (.map #[] 0)).heap.size=w.heap.size + 3 by simp] at a
  exact a
 have v1:MapIn W 233 w.heap.size 0 VName.val Ver.val (fun _=>none):=(MapIn.made w _ _ _).move m1
 have v2:MapIn W 129 (w.heap.size + 1) 0 Place.val idVal (fun _=>none):=by
  have a:=MapIn.made (w.alloc (.map #[] 0)) 129 Place.val idVal
  rw [show (w.alloc (.map #[] 0)).heap.size=w.heap.size + 1 by simp] at a
  exact a.move m2
 have v3:MapIn W 9 (w.heap.size + 2) 0 setVal mapVal (fun _=>none):=by
  have a:=MapIn.made ((w.alloc (.map #[] 0)).alloc (.map #[] 0)) 9 setVal mapVal
  rw [show ((w.alloc (.map #[] 0)).alloc (.map #[] 0)).heap.size=w.heap.size + 2 by simp] at a
  exact a.move m3
 have hfin:Below w.heap.size w W ∧ W.heap.size=w.heap.size + 4 ∧ StIn W (fun q=>if q=w.heap.size then .mv else if q=w.heap.size + 1 then .mc else if q=w.heap.size + 2 then .me else if q=w.heap.size + 3 then .sto else o q) (w.heap.size + 3) 0 noSt:=by
  refine ⟨hB,hz,w.heap.size,w.heap.size + 1,w.heap.size + 2,nilSlice,fun _=>none,fun _=>none,fun _=>nilSlice,⟨b4,by simp⟩,v1,by simp,v2,by simp,fun _ _=>rfl,fun p v e=>by simp at e,v3,by simp,fun _ _ _=>rfl,fun k b e=>by simp at e,fun k b e=>by simp at e,nilRow,fun s hs=>by simp [noSt] at hs,fun s hs=>by simp [noSt] at hs,fun k e h=>by simp [noSt] at h⟩
 have HW:=hide hW
 have HFIN:=hide hfin
 clear hz hB m1 m2 m3 b4 v1 v2 v3 hfin hW
 go_enter Tryz.func86,Tryz.ntmps86
 go_wp2_with fail
 go_ret
 rw [HW.out]
 exact ⟨rfl,HFIN.out⟩
theorem Tryz.infoSnap:(Tryz.prog.info? 117).map (fun i=>(i.zero,i.size,i.bytes))=some (some (.pointer none),1,8):=by kernel_rfl
theorem StP.openIn {w w':World} {o o':Nat → Own} {sb vb cb eb n b:Nat} {ov ov':Value} {cv:Place → Option Value} {ev:ByteArray → Option Nat} {kv:Nat → Value} {st:St} (h:StP w o sb vb cb eb ov cv ev kv n st) (hb:∀ s,s ∈ st.snaps → s.blk ≠ b) (k:QT (fun t=>t=.sto ∨ t=.opens) w o w' o')
  (hS:Qb w' o' .sto sb [.int .i64 st.vis.a,.int .i64 st.vis.b,.int .i64 st.vis.c,.int .i64 st.vis.d,.int .i64 st.vis.e,.map (some vb),.map (some cb),.map (some eb),ov'] 183)
  (hR:Qc w' o' .opens 117 1 ov' (st.snaps.length + 1) ((st.snaps.map fun s=>bptr s.blk) ++ [bptr b])) (hN:Qb w' o' (.snap b) b [bptr sb,.int .i64 st.vis.a,.int .i64 st.vis.b,.int .i64 st.vis.c,.int .i64 st.vis.d,.int .i64 st.vis.e,nilSlice] 186) :
  StP w' o' sb vb cb eb ov' cv ev (fun q=>if q=b then nilSlice else kv q) n (openSt st b):=by
 have hmem:∀ s,s ∈ (openSt st b).snaps → s ∈ st.snaps ∨ s=⟨b,st.vis,[]⟩:=fun s hs=>by
  have hs':s ∈ st.snaps ++ [⟨b,st.vis,[]⟩]:=hs
  simpa using hs'
 refine ⟨hS,h.vers.movet k (by rw [h.versT]; simp),(k.same _ h.vers.lt).trans h.versT,h.came.movet k (by rw [h.cameT]; simp),(k.same _ h.came.lt).trans h.cameT,h.rowN,fun q u hq=>(h.row q u hq).touch k (by simp),h.els.movet k (by rw [h.elsT]; simp),(k.same _ h.els.lt).trans h.elsT,h.setN,
  fun x b e=>(k.same _ (h.set x b e).lt).trans (h.setT x b e),fun x b e=>(h.set x b e).movet k (by rw [h.setT x b e]; simp),?_,fun t ht=>?_,fun t ht=>?_,h.elsOk⟩
 ·show Qc w' o' .opens _ 1 ov' (st.snaps ++ [(⟨b,st.vis,[]⟩:Snap)]).length ((st.snaps ++ [(⟨b,st.vis,[]⟩:Snap)]).map fun s=>bptr s.blk)
  rw [List.length_append,List.map_append]
  exact hR
 ·rcases hmem t ht with c | rfl
  ·have a1:=(h.snap t c).touch k (by simp)
   simpa [hb t c] using a1
  ·simpa using hN
 ·rcases hmem t ht with c | rfl
  ·have a1:=(h.kept t c).touch k (by simp)
   simpa [hb t c] using a1
  ·simpa using (nilRow (w:=w') (o:=o') (t:=.kept b) (e:=233) (size:=4))
set_option maxRecDepth 100000 in
set_option maxHeartbeats 4000000 in
theorem open_st {w:World} {o:Nat → Own} {sb n:Nat} {st:St} (hI:StIn w o sb n st) (hlen:st.snaps.length ≤ 1000) :
  Calls Tryz.prog 59 #[bptr sb] w fun e w'=>e=.returned (bptr w.heap.size) ∧ ∃ o',StIn w' o' sb n (openSt st w.heap.size) ∧ QT stoTag w o w' o':=by
 obtain ⟨vb,cb,eb,ov,cv,ev,kv,h⟩:=hI
 obtain ⟨i0,hi,hz0,hz1,hz2⟩:=info_parts Tryz.infoSnap
 have c0:w.cell? ⟨sb,0,none⟩=some (.int .i64 st.vis.a):=h.blk.blk.cell 0
 have c1:w.cell? ⟨sb,1,none⟩=some (.int .i64 st.vis.b):=h.blk.blk.cell 1
 have c2:w.cell? ⟨sb,2,none⟩=some (.int .i64 st.vis.c):=h.blk.blk.cell 2
 have c3:w.cell? ⟨sb,3,none⟩=some (.int .i64 st.vis.d):=h.blk.blk.cell 3
 have c4:w.cell? ⟨sb,4,none⟩=some (.int .i64 st.vis.e):=h.blk.blk.cell 4
 have c8:w.cell? ⟨sb,8,none⟩=some ov:=h.blk.blk.cell 8
 have hsl:sb < w.heap.size:=h.blk.blk.lt
 obtain ⟨oa,hoa⟩:∃ oa,oa=updq o w.heap.size (.snap w.heap.size):=⟨_,rfl⟩
 generalize hW1:w.alloc (.cells #[bptr sb,.int .i64 st.vis.a,.int .i64 st.vis.b,.int .i64 st.vis.c,.int .i64 st.vis.d,.int .i64 st.vis.e,.slice none 0 0] 186)=W1
 generalize hW2:W1.alloc (.cells #[bptr w.heap.size] 117)=W2
 have z1:W1.heap.size=w.heap.size + 1:=by rw [← hW1]; simp
 have z2:W2.heap.size=w.heap.size + 2:=by rw [← hW2]; simp [z1]
 have hq:QT (fun t=>t=.sto ∨ t=.opens) w o W2 oa:=by
  rw [hoa,← hW2,← hW1]
  exact ⟨((Touch.refl _ _).alloc _).alloc _,fun q hq=>updq_other (by omega)⟩
 have bs2:Qb W2 oa .sto sb [.int .i64 st.vis.a,.int .i64 st.vis.b,.int .i64 st.vis.c,.int .i64 st.vis.d,.int .i64 st.vis.e,.map (some vb),.map (some cb),.map (some eb),ov] 183:=⟨by rw [← hW2,← hW1]; exact (h.blk.blk.alloc _).alloc _,(hq.same _ hsl).trans h.blk.tag⟩
 have bn2:Qb W2 oa (.snap w.heap.size) w.heap.size [bptr sb,.int .i64 st.vis.a,.int .i64 st.vis.b,.int .i64 st.vis.c,.int .i64 st.vis.d,.int .i64 st.vis.e,nilSlice] 186:=⟨by rw [← hW2,← hW1]; exact Blk.first w _ _ _,by rw [hoa]; exact updq_same _ _ _⟩
 have br2:Qc W2 oa .opens 117 1 ov st.snaps.length (st.snaps.map fun s=>bptr s.blk):=by
  refine ⟨?_,fun q hq'=>(hq.same _ (h.opens.lt hq')).trans (h.opens.tag q hq')⟩
  rw [← hW2,← hW1]
  exact World.ownsRow.alloc (World.ownsRow.alloc h.opens.row _) _
 have hnew:∀ j u,[bptr w.heap.size][j]? = some u → W2.cell? ((⟨W1.heap.size,0,none⟩:Addr).add j)=some u:=by
  have:Blk W2 W1.heap.size [bptr w.heap.size] 117:=by rw [← hW2]; exact heap_alloc_new W1 _
  exact news_at this
 have hdis:¬ ov.ownBlock=some sb:=fun e=>by have:=h.opens.tag _ e; rw [h.blk.tag] at this; cases this
 have hbs:∀ s,s ∈ st.snaps → s.blk ≠ w.heap.size:=fun s hs=>by have:=(h.snap s hs).blk.lt; omega
 have HH:=hide (⟨h,hq,bs2,bn2,br2,hnew,hbs⟩:_ ∧ _ ∧ _ ∧ _ ∧ _ ∧ _ ∧ _)
 have HI:=hide (⟨hi,hz0,hz1,hz2⟩:_ ∧ _ ∧ _ ∧ _)
 have HW1:=hide hW1
 have HW2:=hide hW2
 have HZ:=hide (⟨z1,z2⟩:_ ∧ _)
 clear h hq bs2 bn2 br2 hnew hbs hi hz0 hz1 hz2 hW1 hW2 z1 z2 hoa
 go_enter Tryz.func59,Tryz.ntmps59
 go_upto_region 2 with (fail)
 rw [HW1.out]
 have c8':W1.cell? ⟨sb,8,none⟩=some ov:=by rw [← HW1.out,World.cell?_alloc_past _ _ _ hsl]; exact c8
 have hs1:sb < W1.heap.size:=by have:=HZ.out.1; omega
 clear c0 c1 c2 c3 c4 c8
 go_wp2_with (at_builtin; rw [HW2.out]; refine wpList_append_own_at _ rfl _ _ 181 rfl 0 117 i0 (.pointer none) 1 8 Tryz.underlying181 HI.out.1 HI.out.2.1 HI.out.2.2.1 HI.out.2.2.2 rfl (by decide) _ _ _ rfl HH.out.2.2.2.2.1.row ⟨W1.heap.size,0,none⟩ 1 1 [bptr w.heap.size] rfl rfl HH.out.2.2.2.2.2.1 (by intro u hu; simp at hu; subst hu; rfl) (by unfold maxLen; omega) (by omega) (Nat.zero_le _) ?_; intro v1 w3 hown1 hgrow1 hnil1 hat1; obtain ⟨g1,cap1,rfl,-,-,-,-,-⟩:=Row.pos hown1 (by omega); have k5:=HH.out.2.2.1.grew hgrow1 HH.out.2.2.2.2.1.tag (by simp); have q8:=k5.blk.cell 8; have f8:=k5.blk.frozen 8; have l8:=k5.blk.lt; have HK:=hide (⟨k5,hown1,hgrow1,hat1⟩:_ ∧ _ ∧ _ ∧ _); clear k5 hown1 hgrow1 hat1 hnil1)
 go_ret
 obtain ⟨k5,hown,hgrow,hat⟩:=HK.out
 obtain ⟨h,hq,bs2,bn2,br2,hnew,hbs⟩:=HH.out
 have q3:=hq.grew hgrow br2.tag (Or.inr rfl)
 have q4:=q3.set (p:=⟨sb,8,none⟩) (by show _ ∨ _; rw [k5.tag]; exact Or.inl rfl) (.slice (some ⟨g1,0,none⟩) (st.snaps.length + 1) cap1)
 have R4:=(br2.app hown hat).set (p:=⟨sb,8,none⟩) k5.tag (by simp) (.slice (some ⟨g1,0,none⟩) (st.snaps.length + 1) cap1)
 have N4:=(bn2.grew hgrow br2.tag (by simp)).other (p:=⟨sb,8,none⟩) k5.tag (by simp) (.slice (some ⟨g1,0,none⟩) (st.snaps.length + 1) cap1)
 have S4:=k5.set 8 (.slice (some ⟨g1,0,none⟩) (st.snaps.length + 1) cap1)
 have hfin:=h.openIn hbs q4 S4 R4 N4
 exact ⟨rfl,_,⟨_,_,_,_,_,_,_,hfin⟩,q4.mono fun t ht=>by rcases ht with rfl | rfl <;> trivial⟩
end Go.Proofs.YtiplgdkpnhamaaaGreatDoor
