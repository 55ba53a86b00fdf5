/- The texts F4, F5, joined. -/
import Derived.Test.YtiplgdkpnhamaaaGreatDoorE15
import Derived.Test.YtiplgdkpnhamaaaGreatDoorE16
import Derived.Test.YtiplgdkpnhamaaaGreatDoorE02
namespace Go.Proofs.YtiplgdkpnhamaaaGreatDoor
open Go.RowKit Go.Sort
structure SnapIn (w:World) (o:Nat → Own) (sb n nb:Nat) (st:St) (saw:Vec) (kept:Value):Prop where
 sto:StIn w o sb n st
 blk:Blk w nb [.pointer (some ⟨sb,0,none⟩),.int .i64 saw.a,.int .i64 saw.b,.int .i64 saw.c,.int .i64 saw.d,.int .i64 saw.e,kept] 186
 wf:st.Wf
 few:∀ p,(st.came p).length ≤ 1000000000
section
variable {w w':World} {o:Nat → Own} {sb n nb:Nat} {st:St} {saw:Vec} {kept:Value}
theorem SnapIn.below (h:SnapIn w o sb n nb st saw kept) (hb:Below w.heap.size w w'):SnapIn w' o sb n nb st saw kept:=⟨h.sto.below hb,h.blk.below hb,h.wf,h.few⟩
theorem SnapIn.told (h:SnapIn w o sb n nb st saw kept) (p:Place) (hp:p.Ok) :
  Calls Tryz.prog 152 #[bptr nb,.agg #[.string p.key,.string p.el]] w fun e w'=>∃ (v:Value) (l:List Dot),e=.returned v ∧ l.Perm (toldRaw saw st p) ∧ l.Pairwise dotLt ∧ w'.ownsRow w.heap.size 62 2 v l.length (l.flatMap Dot.cells) ∧ Below w.heap.size w w':=
 told_any h.sto h.blk p hp (fun d hd=>h.wf.ok p d hd) (fun x v hv=>⟨(h.wf.went x v hv).r0,(h.wf.went x v hv).r5⟩) (h.few p) (h.wf.once p)
theorem told_few (h:SnapIn w o sb n nb st saw kept) {p:Place} {l:List Dot} (hl:l.Perm (toldRaw saw st p)):l.length ≤ 1000000000:=by
 rw [hl.length_eq]; exact Nat.le_trans (List.length_filter_le _ _) (h.few p)
theorem told_ok (h:SnapIn w o sb n nb st saw kept) {p:Place} {l:List Dot} (hl:l.Perm (toldRaw saw st p)):∀ d ∈ l,(⟨p,d⟩:VName).Ok:=fun d hd=>h.wf.ok p d (by have:=hl.mem_iff.1 hd; unfold toldRaw at this; exact (List.mem_filter.1 this).1)
end
theorem field_sum (a b s:Int) (v:ByteArray) (W:World):(Instr.field 239 (.agg #[.int .i64 a,.int .i64 b,.int .i64 s,.string v]) 1).run Tryz.prog W=.ok (.int .i64 s) W:=by kernel_rfl
theorem field_value (a b s:Int) (v:ByteArray) (W:World):(Instr.field 239 (.agg #[.int .i64 a,.int .i64 b,.int .i64 s,.string v]) 2).run Tryz.prog W=.ok (.string v) W:=by kernel_rfl
def sumTold (vers:VName → Option Ver) (p:Place) (l:List Dot):Int:=l.foldl (fun a x=>wrap64 (a + (verAt vers ⟨p,x⟩).sum)) 0
theorem sumTold_snoc (vers:VName → Option Ver) (p:Place) (l:List Dot) (d:Dot):sumTold vers p (l ++ [d])=wrap64 (sumTold vers p l + (verAt vers ⟨p,d⟩).sum):=by unfold sumTold; simp
set_option maxRecDepth 100000 in
set_option maxHeartbeats 8000000 in
theorem snap_sum {w:World} {o:Nat → Own} {sb n nb:Nat} {st:St} {saw:Vec} {kept:Value} (hS:SnapIn w o sb n nb st saw kept) (key:ByteArray) (hk:key.size ≤ maxLen) :
  Calls Tryz.prog 107 #[bptr nb,.string key] w fun e w'=>∃ l:List Dot,l.Perm (toldRaw saw st ⟨key,noEl⟩) ∧ e=.returned (.int .i64 (sumTold st.vers ⟨key,noEl⟩ l)) ∧ Below w.heap.size w w':=by
 generalize hW0:w.alloc (.cells #[.string key,.string ⟨#[]⟩] 129)=W0
 have hB0:Below w.heap.size w W0:=by rw [← hW0]; exact (Below.refl _ _).alloc (Nat.le_refl _) _
 have hbx:Blk W0 w.heap.size [.string key,.string ⟨#[]⟩] 129:=by rw [← hW0]; exact heap_alloc_new w _
 have hS0:=hS.below hB0
 have hp:(⟨key,noEl⟩:Place).Ok:=⟨hk,by show (ByteArray.mk #[]).size ≤ _; exact Nat.zero_le _⟩
 have x0:W0.cell? ⟨w.heap.size,0,none⟩=some (.string key):=hbx.cell 0
 have x1:W0.cell? ⟨w.heap.size,1,none⟩=some (.string ⟨#[]⟩):=hbx.cell 1
 have HH:=hide (⟨hS0,hbx,hB0,hp⟩:_ ∧ _ ∧ _ ∧ _)
 have HW0:=hide hW0
 clear hS hS0 hbx hB0 hp hW0
 go_enter Tryz.func107,Tryz.ntmps107
 go_upto_region 3 with (fail)
 rw [HW0.out]
 go_wp2_with fail
 refine (HH.out.1.told ⟨key,noEl⟩ HH.out.2.2.2).mono ?_
 rintro e w1 ⟨v,l,rfl,hl,hsort,hown,hB1⟩
 obtain ⟨ao,cap,rfl,hcap,hmx,hcell⟩:=Row.shape (ownsRow_low hown (Nat.zero_le _))
 unfold maxLen at hmx
 have HL:=hide (⟨hl,hown,hcell,hB1,told_ok HH.out.1 hl⟩:_ ∧ _ ∧ _ ∧ _ ∧ _)
 clear hl hsort hown hcell x0 x1
 go_wp2_with fail
 go_loopw [5,15] (fun m i wr=>∃ k:Nat,k ≤ l.length ∧ i=.int .i64 k ∧ m=.int .i64 (sumTold st.vers ⟨key,noEl⟩ (l.take k)) ∧ Hid (Below w1.heap.size w1 wr)) (fun _ i _=>l.length - (intOf i).toNat)
 case atStart=>exact ⟨0,Nat.zero_le _,rfl,rfl,Below.refl _ _⟩
 case round=>
  obtain ⟨k,hkl,rfl,rfl,hinv⟩:=hrel
  by_cases hlk:k < l.length
  ·obtain ⟨g,e0,d0⟩:=HL.out.2.2.1 (k * 2 + 0) (by omega)
   obtain ⟨g1,e1,d1⟩:=HL.out.2.2.1 (k * 2 + 1) (by omega)
   subst e0
   cases e1
   rw [flat_get _ 2 (fun _=>rfl) _ _ _ hlk (by omega)] at d0 d1
   simp only [Dot.cells,List.getElem?_cons_zero,List.getElem?_cons_succ,Nat.add_zero] at d0 d1
   have d0':=cell_later hinv.out d0
   have d1':=cell_later hinv.out d1
   have HSN:Hid (sumTold st.vers ⟨key,noEl⟩ (l.take (k + 1))=wrap64 (sumTold st.vers ⟨key,noEl⟩ (l.take k) + (verAt st.vers ⟨⟨key,noEl⟩,l[k]⟩).sum)):=by
    unfold Hid
    rw [List.take_succ_eq_append_getElem hlk,sumTold_snoc]
   obtain ⟨d,hd⟩:∃ d,l[k]=d:=⟨_,rfl⟩
   have hdo:(⟨⟨key,noEl⟩,d⟩:VName).Ok:=HL.out.2.2.2.2 d (by rw [← hd]; exact List.getElem_mem hlk)
   rw [hd] at d0' d1' HSN
   clear d0 d1
   generalize hW2:wr.alloc (.cells #[.int .i64 d.rep,.int .i64 d.seq] 62)=W2
   have hB2:Below wr.heap.size wr W2:=by rw [← hW2]; exact (Below.refl _ _).alloc (Nat.le_refl _) _
   have hBy:Below w1.heap.size w1 W2:=hinv.out.trans (hB2.mono hinv.out.size)
   have hBz:Below W0.heap.size W0 W2:=HL.out.2.2.2.1.trans (hBy.mono HL.out.2.2.2.1.size)
   obtain ⟨vb,cb,eb,ov,cv,ev,kv,h2⟩:=(HH.out.1.below hBz).sto
   have bN:=HH.out.1.blk.below hBz
   have bd2:Blk W2 wr.heap.size [.int .i64 d.rep,.int .i64 d.seq] 62:=by rw [← hW2]; exact heap_alloc_new wr _
   have bp2:=HH.out.2.1.below hBz
   have c0:=Bel.cell (show W2.cell? ⟨nb,0,none⟩=some (.pointer (some ⟨sb,0,none⟩)) from bN.cell 0)
   have c5:=Bel.cell (show W2.cell? ⟨sb,5,none⟩=some (.map (some vb)) from h2.blk.blk.cell 5)
   have p0:=Bel.cell (show W2.cell? ⟨w.heap.size,0,none⟩=some (.string key) from bp2.cell 0)
   have p1:=Bel.cell (show W2.cell? ⟨w.heap.size,1,none⟩=some (.string ⟨#[]⟩) from bp2.cell 1)
   have q0:=Bel.cell (show W2.cell? ⟨wr.heap.size,0,none⟩=some (.int .i64 d.rep) from bd2.cell 0)
   have q1:=Bel.cell (show W2.cell? ⟨wr.heap.size,1,none⟩=some (.int .i64 d.seq) from bd2.cell 1)
   have hver:∀ f:Fam (Bel W2),(Instr.lookup 178 (.map (some vb)) (.agg #[.string key,.string ⟨#[]⟩,.int .i64 d.rep,.int .i64 d.seq]) false).run Tryz.prog f.w=.ok (verAt st.vers ⟨⟨key,noEl⟩,d⟩).val f.w:=fun f=>ver_look h2.vers hdo (f.ok.block _ h2.vers.lt)
   obtain ⟨vv,hv⟩:∃ vv,verAt st.vers ⟨⟨key,noEl⟩,d⟩=vv:=⟨_,rfl⟩
   rw [hv] at hver HSN
   have hfs:=field_sum vv.went.rep vv.went.seq vv.sum vv.value
   obtain ⟨acc,hacc⟩:∃ acc,sumTold st.vers ⟨key,noEl⟩ (l.take k)=acc:=⟨_,rfl⟩
   rw [hacc] at HSN
   have HA:=hide (⟨hBy,hBz⟩:_ ∧ _)
   have HW2:=hide hW2
   have HAC:=hide hacc
   clear h2 hB2 hBz bd2 bp2 hd hdo hW2 bN hv hBy hacc
   go_upto_region 6 with (fail)
   rw [HW2.out,HAC.out]
   refine region_fam (Bel W2) (by kernel_rfl) (by kernel_rfl) (Below.refl _ _).drew ?_
   repeat (go_big_quiet_step (fail))
   refine wpQuiet_nil ?_
   intro _ hw'
   obtain ⟨fq,rfl⟩:=hw'
   obtain ⟨W3,hB3⟩:=fq
   try dsimp only
   have HB3:=hide hB3
   clear c0 c5 p0 p1 q0 q1 hver hfs hB3
   go_wp2_with fail
   refine ⟨⟨k + 1,by omega,by go_num,?_,HA.out.1.trans (HB3.out.mono HA.out.1.size)⟩,by simp [intOf]; omega⟩
   rw [HSN.out]
  ·have hke:k=l.length:=by omega
   subst hke
   rw [List.take_length]
   go_wp2_with fail
   go_ret
   exact ⟨l,HL.out.1,rfl,HH.out.2.2.1.trans ((HL.out.2.2.2.1.trans (hinv.out.mono HL.out.2.2.2.1.size)).mono HH.out.2.2.1.size)⟩
end Go.Proofs.YtiplgdkpnhamaaaGreatDoor
namespace Go.Proofs.YtiplgdkpnhamaaaGreatDoor
open Go.RowKit Go.Sort
def valsTold (vers:VName → Option Ver) (p:Place) (l:List Dot):List ByteArray:=l.map fun x=>(verAt vers ⟨p,x⟩).value
set_option maxRecDepth 100000 in
set_option maxHeartbeats 8000000 in
theorem snap_values {w:World} {o:Nat → Own} {sb n nb:Nat} {st:St} {saw:Vec} {kept:Value} (hS:SnapIn w o sb n nb st saw kept) (key:ByteArray) (hk:key.size ≤ maxLen) :
  Calls Tryz.prog 108 #[bptr nb,.string key] w fun e w'=>∃ (v:Value) (l:List Dot),l.Perm (toldRaw saw st ⟨key,noEl⟩) ∧ l.Pairwise dotLt ∧ e=.returned v ∧ w'.ownsRow w.heap.size 9 1 v (valsTold st.vers ⟨key,noEl⟩ l).length (strs (valsTold st.vers ⟨key,noEl⟩ l)) ∧ Below w.heap.size w w':=by
 obtain ⟨i0,hi,hz0,hz1,hz2⟩:=info_parts Tryz.infoStr
 have HI:=hide (⟨hi,hz0,hz1,hz2⟩:_ ∧ _ ∧ _ ∧ _)
 clear hi hz0 hz1 hz2
 generalize hW0:w.alloc (.cells #[.string key,.string ⟨#[]⟩] 129)=W0
 have hB0:Below w.heap.size w W0:=by rw [← hW0]; exact (Below.refl _ _).alloc (Nat.le_refl _) _
 have hbx:Blk W0 w.heap.size [.string key,.string ⟨#[]⟩] 129:=by rw [← hW0]; exact heap_alloc_new w _
 have hS0:=hS.below hB0
 have hp:(⟨key,noEl⟩:Place).Ok:=⟨hk,by show (ByteArray.mk #[]).size ≤ _; exact Nat.zero_le _⟩
 have x0:W0.cell? ⟨w.heap.size,0,none⟩=some (.string key):=hbx.cell 0
 have x1:W0.cell? ⟨w.heap.size,1,none⟩=some (.string ⟨#[]⟩):=hbx.cell 1
 have HH:=hide (⟨hS0,hbx,hB0,hp⟩:_ ∧ _ ∧ _ ∧ _)
 have HW0:=hide hW0
 clear hS hS0 hbx hB0 hp hW0
 go_enter Tryz.func108,Tryz.ntmps108
 go_upto_region 3 with (fail)
 rw [HW0.out]
 go_wp2_with fail
 refine (HH.out.1.told ⟨key,noEl⟩ HH.out.2.2.2).mono ?_
 rintro e w1 ⟨v,l,rfl,hl,hsort,hown,hB1⟩
 obtain ⟨ao,cap,rfl,hcap,hmx,hcell⟩:=Row.shape (ownsRow_low hown (Nat.zero_le _))
 unfold maxLen at hmx
 have HL:=hide (⟨hl,hown,hcell,hB1,told_ok HH.out.1 hl,hsort,told_few HH.out.1 hl⟩:_ ∧ _ ∧ _ ∧ _ ∧ _ ∧ _ ∧ _)
 clear hl hsort hown hcell x0 x1
 go_wp2_with fail
 go_loopw [5,15] (fun m i wr=>∃ k:Nat,k ≤ l.length ∧ i=.int .i64 k ∧ Hid (wr.ownsRow w1.heap.size 9 1 m (valsTold st.vers ⟨key,noEl⟩ (l.take k)).length (strs (valsTold st.vers ⟨key,noEl⟩ (l.take k))) ∧ Below w1.heap.size w1 wr)) (fun _ i _=>l.length - (intOf i).toNat)
 case atStart=>exact ⟨0,Nat.zero_le _,rfl,by simpa [valsTold,strs] using World.ownsRow_nil _ _ _ _,Below.refl _ _⟩
 case round=>
  obtain ⟨k,hkl,rfl,hinv⟩:=hrel
  by_cases hlk:k < l.length
  ·obtain ⟨g,e0,d0⟩:=HL.out.2.2.1 (k * 2 + 0) (by omega)
   obtain ⟨g1,e1,d1⟩:=HL.out.2.2.1 (k * 2 + 1) (by omega)
   subst e0
   cases e1
   rw [flat_get _ 2 (fun _=>rfl) _ _ _ hlk (by omega)] at d0 d1
   simp only [Dot.cells,List.getElem?_cons_zero,List.getElem?_cons_succ,Nat.add_zero] at d0 d1
   have d0':=cell_later hinv.out.2 d0
   have d1':=cell_later hinv.out.2 d1
   have HSN:Hid (valsTold st.vers ⟨key,noEl⟩ (l.take (k + 1))=valsTold st.vers ⟨key,noEl⟩ (l.take k) ++ [(verAt st.vers ⟨⟨key,noEl⟩,l[k]⟩).value]):=by
    unfold Hid valsTold
    rw [List.take_succ_eq_append_getElem hlk,List.map_append]; rfl
   have HN:Hid ((valsTold st.vers ⟨key,noEl⟩ (l.take k)).length ≤ k):=by
    unfold Hid valsTold; rw [List.length_map,List.length_take]; omega
   obtain ⟨d,hd⟩:∃ d,l[k]=d:=⟨_,rfl⟩
   have hdo:(⟨⟨key,noEl⟩,d⟩:VName).Ok:=HL.out.2.2.2.2.1 d (by rw [← hd]; exact List.getElem_mem hlk)
   rw [hd] at d0' d1' HSN
   clear d0 d1
   generalize hW2:wr.alloc (.cells #[.int .i64 d.rep,.int .i64 d.seq] 62)=W2
   have hB2:Below wr.heap.size wr W2:=by rw [← hW2]; exact (Below.refl _ _).alloc (Nat.le_refl _) _
   have hBy:Below w1.heap.size w1 W2:=hinv.out.2.trans (hB2.mono hinv.out.2.size)
   have hBz:Below W0.heap.size W0 W2:=HL.out.2.2.2.1.trans (hBy.mono HL.out.2.2.2.1.size)
   obtain ⟨vb,cb,eb,ov,cv,ev,kv,h2⟩:=(HH.out.1.below hBz).sto
   have bN:=HH.out.1.blk.below hBz
   have bd2:Blk W2 wr.heap.size [.int .i64 d.rep,.int .i64 d.seq] 62:=by rw [← hW2]; exact heap_alloc_new wr _
   have bp2:=HH.out.2.1.below hBz
   have c0:W2.cell? ⟨nb,0,none⟩=some (.pointer (some ⟨sb,0,none⟩)):=bN.cell 0
   have c5:W2.cell? ⟨sb,5,none⟩=some (.map (some vb)):=h2.blk.blk.cell 5
   have p0:W2.cell? ⟨w.heap.size,0,none⟩=some (.string key):=bp2.cell 0
   have p1:W2.cell? ⟨w.heap.size,1,none⟩=some (.string ⟨#[]⟩):=bp2.cell 1
   have q0:W2.cell? ⟨wr.heap.size,0,none⟩=some (.int .i64 d.rep):=bd2.cell 0
   have q1:W2.cell? ⟨wr.heap.size,1,none⟩=some (.int .i64 d.seq):=bd2.cell 1
   have t1:nb < W2.heap.size:=bN.lt
   have t2:sb < W2.heap.size:=h2.blk.blk.lt
   have t3:w.heap.size < W2.heap.size:=bp2.lt
   have t4:wr.heap.size < W2.heap.size:=bd2.lt
   have hver:(Instr.lookup 178 (.map (some vb)) (.agg #[.string key,.string ⟨#[]⟩,.int .i64 d.rep,.int .i64 d.seq]) false).run Tryz.prog W2.drew=.ok (verAt st.vers ⟨⟨key,noEl⟩,d⟩).val W2.drew:=ver_look h2.vers hdo (W:=W2.drew) rfl
   obtain ⟨vv,hv⟩:∃ vv,verAt st.vers ⟨⟨key,noEl⟩,d⟩=vv:=⟨_,rfl⟩
   rw [hv] at hver HSN
   have hfs:=field_value vv.went.rep vv.went.seq vv.sum vv.value
   generalize valsTold st.vers ⟨key,noEl⟩ (l.take k)=es at *
   have hown2:=ownsRow_below hinv.out.1 hB2
   have HA:=hide (⟨hBy,hBz,hown2⟩:_ ∧ _ ∧ _)
   have HW2:=hide hW2
   clear h2 hB2 hBz bd2 bp2 hd hdo hW2 bN hv hBy hown2
   go_upto_region 6 with (fail)
   rw [HW2.out]
   go_region_law (refine step_append_own rfl _ _ 41 rfl 9 i0 (.string ⟨#[]⟩) 1 16 Tryz.underlying41 HI.out.1 HI.out.2.1 HI.out.2.2.1 HI.out.2.2.2 rfl (by decide) u5 es.length (strs es) (by simp [Act.eval]) (by exact World.ownsRow.alloc (ownsRow_low HA.out.2.2 (Nat.zero_le _)) _) ⟨W2.heap.size,0,none⟩ 1 1 [.string vv.value] (by simp [Act.eval]) rfl (by exact news1 _ _ _) (by intro u hu; simp at hu; subst hu; rfl) (by have:=HN.out; have:=HL.out.2.2.2.2.2.2; unfold maxLen; omega) (by have:=HN.out; have:=HL.out.2.2.2.2.2.2; omega) ?_; intro v5 w5 r1 r2 r3; have HR5:=hide (⟨r1,r2,r3⟩:_ ∧ _ ∧ _); clear r1 r2 r3)
   all_goals go_wp2_with fail
   all_goals
    obtain ⟨r1,r2,r3⟩:=HR5.out
    have hz2:(W2.alloc (.cells #[.string vv.value] 9)).heap.size=W2.heap.size + 1:=by simp
    have hB12:=HA.out.1
    have hB5:Below w1.heap.size w1 w5:=(hB12.alloc hB12.size (.cells #[.string vv.value] 9)).grown (row:=u5.ownBlock) ⟨r2.os,r2.tape,r2.output,r2.size,r2.block⟩ (by rw [hz2]; have:=hB12.size; omega) (fun j hj=>(HA.out.2.2.lt j hj).1)
    refine ⟨⟨k + 1,by omega,by go_num,?_,hB5⟩,by simp [intOf]; omega⟩
    rw [HSN.out,strs_snoc]
    refine own_base (by simpa using r1) (fun j hj=>?_)
    rcases r3 with e | e
    ·rw [e] at hj; exact (HA.out.2.2.lt j hj).1
    ·rw [e] at hj
     injection hj with hj
     have:(W2.alloc (.cells #[.string vv.value] 9)).drew.heap.size=W2.heap.size + 1:=by simp
     have:=hB12.size
     omega
  ·have hke:k=l.length:=by omega
   subst hke
   rw [List.take_length] at hinv
   go_wp2_with fail
   go_ret
   have hb:Below w.heap.size w wr:=HH.out.2.2.1.trans ((HL.out.2.2.2.1.trans (hinv.out.2.mono HL.out.2.2.2.1.size)).mono HH.out.2.2.1.size)
   have hle:w.heap.size ≤ w1.heap.size:=Nat.le_trans HH.out.2.2.1.size HL.out.2.2.2.1.size
   exact ⟨_,l,HL.out.1,HL.out.2.2.2.2.2.1,rfl,ownsRow_low hinv.out.1 hle,hb⟩
end Go.Proofs.YtiplgdkpnhamaaaGreatDoor
