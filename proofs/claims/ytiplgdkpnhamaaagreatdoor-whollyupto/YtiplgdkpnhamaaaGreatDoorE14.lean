/- The texts D1, D2, D3, joined. -/
import Derived.Test.YtiplgdkpnhamaaaGreatDoorE09
import Derived.Test.YtiplgdkpnhamaaaGreatDoorE10
import Derived.Test.YtiplgdkpnhamaaaGreatDoorE08
import Derived.Deep.RegionHeld3
import Derived.Laws.StructEq
namespace Go.Proofs.YtiplgdkpnhamaaaGreatDoor
open Go.RowKit
theorem Tryz.infoDot:(Tryz.prog.info? 62).map (fun i=>(i.zero,i.size,i.bytes))=some (some (.agg #[.int .i64 0,.int .i64 0]),2,16):=by kernel_rfl
theorem zeroDots (w:World):(zeroValue 241).run Tryz.prog w=.ok nilSlice w:=by kernel_rfl
theorem came_entry {w:World} {cb n:Nat} {cv:Place → Option Value} {p:Place} (hM:MapIn w 129 cb n Place.val idVal cv) (hp:p.Ok) (hn:n < maxLen) {W:World} (hW:W.heap[cb]? = w.heap[cb]?) :
  ∃ (w1:World) (st:Nat),(Instr.mapEntry 179 (.map (some cb)) (.agg #[.string p.key,.string p.el])).run Tryz.prog W=.ok (.tuple #[cvAt cv p,.int .i64 st]) w1 ∧ W.grownBy w1 (some cb) ∧
   ∀ (W':World),W'.heap[cb]? = w1.heap[cb]? → ∀ x:Value,∃ W2,(Instr.entryStore 179 (.map (some cb)) (.int .i64 st) x).run Tryz.prog W'=.ok () W2 ∧ MapIn W2 129 cb (n + 1) Place.val idVal (fun q=>if q=p then some x else cv q) ∧ W'.grownBy W2 (some cb):=by
 obtain ⟨kl,hk⟩:=hp.lit
 obtain ⟨w1,s,a,b,c⟩:=(hM.move hW).entry (t:=179) place_keyed Tryz.underlying179 place_inj (zeroDots W) hn hk
 have e:(cv p).elim nilSlice idVal=cvAt cv p:=by unfold cvAt; cases cv p <;> rfl
 rw [e] at a
 exact ⟨w1,s,a,b,fun W' hW' x=>c W' hW' x⟩
set_option maxRecDepth 100000 in
set_option maxHeartbeats 4000000 in
theorem put_st {w:World} {o:Nat → Own} {sb vb cb eb n:Nat} {ov:Value} {cv:Place → Option Value} {ev:ByteArray → Option Nat} {kv:Nat → Value} {st:St} (h:StP w o sb vb cb eb ov cv ev kv n st) (x:VName) (hx:x.Ok) (v:Ver) (hl:(st.came x.at_).length ≤ 1000000000) (hn:n < 1000000000000) :
  Calls Tryz.prog 150 #[bptr sb,x.val,v.val] w fun e w'=>e=.returned (.tuple #[]) ∧ ∃ o' cv',StP w' o' sb vb cb eb ov cv' ev kv (n + 1) (putSt st x v) ∧ QT stoTag w o w' o':=by
 obtain ⟨i0,hi,hz0,hz1,hz2⟩:=info_parts Tryz.infoDot
 have hmax:n < maxLen:=by unfold maxLen; omega
 obtain ⟨kl,hk⟩:=hx.lit
 have hxp:=hx.at_
 obtain ⟨⟨px,py⟩,⟨dr,dq⟩⟩:=x
 obtain ⟨⟨wr,wq⟩,vs,vv⟩:=v
 simp only [VName.val] at *
 generalize hW0:(w.alloc (.cells #[.string px,.string py,.int .i64 dr,.int .i64 dq] 233)).alloc (.cells #[.int .i64 wr,.int .i64 wq,.int .i64 vs,.string vv] 239)=W0
 have hB0:Below w.heap.size w W0:=by rw [← hW0]; exact ((Below.refl _ _).alloc (Nat.le_refl _) _).alloc (by simp) _
 have hz0':W0.heap.size=w.heap.size + 2:=by rw [← hW0]; simp
 have hbx:Blk W0 w.heap.size [.string px,.string py,.int .i64 dr,.int .i64 dq] 233:=by
  rw [← hW0]; exact (Blk.alloc (heap_alloc_new w _) _)
 have hbv:Blk W0 (w.heap.size + 1) [.int .i64 wr,.int .i64 wq,.int .i64 vs,.string vv] 239:=by
  rw [← hW0]; exact Blk.second w _ _ _
 have h0:StP W0 o sb vb cb eb ov cv ev kv n st:=h.below hB0
 have s5:=Bel.cell (show W0.cell? ⟨sb,5,none⟩=some (.map (some vb)) from h0.blk.blk.cell 5)
 have x0:=Bel.cell (show W0.cell? ⟨w.heap.size,0,none⟩=some (.string px) from hbx.cell 0)
 have x1:=Bel.cell (show W0.cell? ⟨w.heap.size,1,none⟩=some (.string py) from hbx.cell 1)
 have x2:=Bel.cell (show W0.cell? ⟨w.heap.size,2,none⟩=some (.int .i64 dr) from hbx.cell 2)
 have x3:=Bel.cell (show W0.cell? ⟨w.heap.size,3,none⟩=some (.int .i64 dq) from hbx.cell 3)
 have v0:=Bel.cell (show W0.cell? ⟨w.heap.size + 1,0,none⟩=some (.int .i64 wr) from hbv.cell 0)
 have v1:=Bel.cell (show W0.cell? ⟨w.heap.size + 1,1,none⟩=some (.int .i64 wq) from hbv.cell 1)
 have v2:=Bel.cell (show W0.cell? ⟨w.heap.size + 1,2,none⟩=some (.int .i64 vs) from hbv.cell 2)
 have v3:=Bel.cell (show W0.cell? ⟨w.heap.size + 1,3,none⟩=some (.string vv) from hbv.cell 3)
 have HH:=hide (⟨h,h0,hbx,hB0,hz0'⟩:_ ∧ _ ∧ _ ∧ _ ∧ _)
 have HW0:=hide hW0
 have HI:=hide (⟨hi,hz0,hz1,hz2⟩:_ ∧ _ ∧ _ ∧ _)
 have HX:=hide (⟨hk,hxp,hl,hx⟩:_ ∧ _ ∧ _ ∧ _)
 clear h h0 hbx hbv hB0 hz0' hi hz0 hz1 hz2 hk hxp hl hW0 hx
 go_enter Tryz.func150,Tryz.ntmps150
 go_wp2_with fail
 rw [HW0.out]
 refine region_fam_tail (Bel W0) 6 (by kernel_rfl) (by kernel_rfl) (Below.refl _ _).drew ?_
 simp only [List.take_succ_cons,List.take_zero,List.drop_succ_cons,List.drop_zero]
 repeat (go_big_quiet_step (fail))
 refine wpQuiet_nil ?_
 intro _ hw'
 obtain ⟨fq,rfl⟩:=hw'
 obtain ⟨w2,hrun1,hM2,hg2⟩:=(HH.out.2.1.vers.move (w':=fq.w) (fq.ok.block _ HH.out.2.1.vers.lt)).store (t:=178) name_keyed Tryz.underlying178 name_inj hmax (a:=⟨⟨px,py⟩,⟨dr,dq⟩⟩) HX.out.1 ⟨⟨wr,wq⟩,vs,vv⟩
 have hq2:QT (·=.mv) fq.w o w2 o:=QT.ofGrown hg2 HH.out.2.1.versT
 have h2:StP w2 o sb vb cb eb ov cv ev kv (n + 1) { st with vers:=setVer st.vers ⟨⟨px,py⟩,⟨dr,dq⟩⟩ (some ⟨⟨wr,wq⟩,vs,vv⟩) }:=((HH.out.2.1.below fq.ok).mono (Nat.le_succ n)).setVers hq2 hM2
 have hvl:vb < w.heap.size:=HH.out.1.vers.lt
 have hbx2:Blk w2 w.heap.size [.string px,.string py,.int .i64 dr,.int .i64 dq] 233:=(HH.out.2.2.1.below fq.ok).move (hg2.block _ (HH.out.2.2.1.below fq.ok).lt (fun e=>by injection e with e; omega))
 have s6:w2.cell? ⟨sb,6,none⟩=some (.map (some cb)):=h2.blk.blk.cell 6
 have y0:w2.cell? ⟨w.heap.size,0,none⟩=some (.string px):=hbx2.cell 0
 have y1:w2.cell? ⟨w.heap.size,1,none⟩=some (.string py):=hbx2.cell 1
 have y2:w2.cell? ⟨w.heap.size,2,none⟩=some (.int .i64 dr):=hbx2.cell 2
 have y3:w2.cell? ⟨w.heap.size,3,none⟩=some (.int .i64 dq):=hbx2.cell 3
 have hsl:sb < w2.heap.size:=h2.blk.blk.lt
 have hbl:w.heap.size < w2.heap.size:=hbx2.lt
 have hcw:cb < w.heap.size:=HH.out.1.came.lt
 have hne1:¬ w.heap.size=sb:=by have:=HH.out.1.blk.blk.lt; omega
 -- the entry is fetched
 generalize hW8:(w2.alloc (.cells #[.int .i64 dr,.int .i64 dq] 62)).drew=W8
 have hB8:Below w2.heap.size w2 W8:=by rw [← hW8]; exact ((Below.refl _ _).alloc (Nat.le_refl _) _).drew
 have hz8:W8.heap.size=w2.heap.size + 1:=by rw [← hW8]; simp
 have hd8:Blk W8 w2.heap.size [.int .i64 dr,.int .i64 dq] 62:=by rw [← hW8]; exact heap_alloc_new w2 _
 have h8:=h2.below hB8
 obtain ⟨w3,stamp,hrunE,hg3,hfill⟩:=came_entry HH.out.2.1.came HX.out.2.1 hmax (W:=W8) ((hB8.block _ h2.came.lt).trans ((hg2.block cb (HH.out.2.1.below fq.ok).came.lt (fun e=>by injection e with e; exact h2.ne_vc e.symm)).trans (fq.ok.block _ HH.out.2.1.came.lt)))
 have hcl:cb < w2.heap.size:=h2.came.lt
 have hq3:QT (fun t=>t=.mc ∨ t=.row ⟨px,py⟩) W8 o w3 o:=(QT.ofGrown hg3 (A:=fun t=>t=Own.mc ∨ t=.row ⟨px,py⟩) (Or.inl h2.cameT))
 have hd3:Blk w3 w2.heap.size [.int .i64 dr,.int .i64 dq] 62:=hd8.move (hg3.block _ hd8.lt (fun e=>by injection e with e; omega))
 have hrow3:Qc w3 o (.row ⟨px,py⟩) 62 2 (cvAt cv ⟨px,py⟩) (st.came ⟨px,py⟩).length ((st.came ⟨px,py⟩).flatMap Dot.cells):=(h8.rowAt ⟨px,py⟩).touch (QT.ofGrown (A:=(·=Own.mc)) hg3 h2.cameT) (by simp)
 have n3:∀ q,q < W8.heap.size → q ≠ cb → w3.heap[q]? = W8.heap[q]?:=fun q hq hne=>hg3.block q hq (fun e=>hne (by injection e))
 have s6':w3.cell? ⟨sb,6,none⟩=some (.map (some cb)):=(World.cell?_of_block (w:=W8) (n3 sb (by omega) (fun e=>h2.ne_cs e.symm))).trans (h8.blk.blk.cell 6)
 have hbx8:=hbx2.below hB8
 have z0:w3.cell? ⟨w.heap.size,0,none⟩=some (.string px):=(World.cell?_of_block (w:=W8) (n3 w.heap.size (by omega) (by omega))).trans (hbx8.cell 0)
 have z1:w3.cell? ⟨w.heap.size,1,none⟩=some (.string py):=(World.cell?_of_block (w:=W8) (n3 w.heap.size (by omega) (by omega))).trans (hbx8.cell 1)
 have z2:w3.cell? ⟨w.heap.size,2,none⟩=some (.int .i64 dr):=(World.cell?_of_block (w:=W8) (n3 w.heap.size (by omega) (by omega))).trans (hbx8.cell 2)
 have z3:w3.cell? ⟨w.heap.size,3,none⟩=some (.int .i64 dq):=(World.cell?_of_block (w:=W8) (n3 w.heap.size (by omega) (by omega))).trans (hbx8.cell 3)
 simp only [VName.val,Ver.val] at hrun1
 have HROW:=hide hrow3
 have HNEW:=hide (news_at hd3)
 obtain ⟨rv,hrv⟩:∃ rv,cvAt cv ⟨px,py⟩=rv:=⟨_,rfl⟩
 unfold Hid at HROW
 rw [hrv] at HROW hrunE
 have HRV:=hide hrv
 have HROW':=hide HROW
 have tsb:o sb=.sto:=h2.blk.tag
 have tcb:o cb=.mc:=h2.cameT
 have hbl3:W8.heap.size ≤ w3.heap.size:=hg3.size
 have HK5:Hid (∀ w5,w3.grownBy w5 rv.ownBlock → w5.cell? ⟨sb,6,none⟩=some (.map (some cb)) ∧ w5.cell? ⟨w.heap.size,0,none⟩=some (.string px) ∧ w5.cell? ⟨w.heap.size,1,none⟩=some (.string py) ∧ w5.cell? ⟨w.heap.size,2,none⟩=some (.int .i64 dr) ∧ w5.cell? ⟨w.heap.size,3,none⟩=some (.int .i64 dq) ∧ w5.heap[cb]? = w3.heap[cb]? ∧ w5.heap[sb]? = w3.heap[sb]? ∧ w5.heap[w.heap.size]? = w3.heap[w.heap.size]?):=fun w5 g=>by
  have hrq:∀ q,rv.ownBlock=some q → o q=.row ⟨px,py⟩:=HROW'.out.tag
  have a1:w5.heap[sb]? = w3.heap[sb]?:=g.block sb (by omega) (fun e=>by have:=hrq sb e.symm; rw [tsb] at this; cases this)
  have a2:w5.heap[cb]? = w3.heap[cb]?:=g.block cb (by omega) (fun e=>by have:=hrq cb e.symm; rw [tcb] at this; cases this)
  have a3:w5.heap[w.heap.size]? = w3.heap[w.heap.size]?:=g.block w.heap.size (by omega) (fun e=>by
   have hq:=(HH.out.1.rowAt ⟨px,py⟩).lt (q:=w.heap.size) (by rw [HRV.out]; exact e.symm)
   omega)
  exact ⟨cell_blk a1 s6',cell_blk a3 z0,cell_blk a3 z1,cell_blk a3 z2,cell_blk a3 z3,a2,a1,a3⟩
 have HK6:Hid (∀ w5 w6:World,w5.grownBy w6 (some cb) → sb < w5.heap.size → w.heap.size < w5.heap.size → w6.heap[sb]? = w5.heap[sb]? ∧ w6.heap[w.heap.size]? = w5.heap[w.heap.size]?):=fun w5 w6 g h1 h2'=>⟨g.block sb h1 (fun e=>by injection e with e; exact h2.ne_cs e.symm),g.block _ h2' (fun e=>by injection e with e; omega)⟩
 have ne1:=World.new_ne w2 _ s6
 have ne2:=World.new_ne w2 _ y0
 have hb3:w2.heap.size < w3.heap.size:=by omega
 rw [← hW8] at hrunE
 dsimp only at hrunE
 have HFILL:=hide hfill
 have H2:=hide (⟨h2,h8,hq3,hq2,hg3⟩:_ ∧ _ ∧ _ ∧ _ ∧ _)
 have HB8:=hide (⟨hB8,hz8,hbl3⟩:_ ∧ _ ∧ _)
 clear hfill h2 h8 hq3 hq2 hg3 hB8 hz8 hbl3 hrv HROW hrow3 hd3 hd8 n3 hbx8 hbx2 tsb tcb hM2 hg2 hW8
 go_wp2_with fail
 go_region_held3 (fun W=>W.cell? ⟨sb,6,none⟩=some (.map (some cb)) ∧ W.cell? ⟨w.heap.size,0,none⟩=some (.string px) ∧ W.cell? ⟨w.heap.size,1,none⟩=some (.string py) ∧ W.cell? ⟨w.heap.size,2,none⟩=some (.int .i64 dr) ∧ W.cell? ⟨w.heap.size,3,none⟩=some (.int .i64 dq)) (go_keep)
  ((refine step_append_own rfl _ _ 241 rfl 62 i0 (.agg #[.int .i64 0,.int .i64 0]) 2 16 Tryz.underlying241 HI.out.1 HI.out.2.1 HI.out.2.2.1 HI.out.2.2.2 rfl (by decide) rv (st.came ⟨px,py⟩).length ((st.came ⟨px,py⟩).flatMap Dot.cells) (by simp [Act.eval]) HROW'.out.row ⟨w2.heap.size,0,none⟩ 1 1 [.int .i64 dr,.int .i64 dq] (by simp [Act.eval]) rfl HNEW.out (by intro u hu; simp at hu; rcases hu with rfl | rfl <;> rfl) (by have:=HX.out.2.2.1; unfold maxLen; omega) (by have:=HX.out.2.2.1; omega) ?_; intro v5 w5 r1 r2 r3; obtain ⟨k0,k1,k2,k3,k4,k5,k6,k7⟩:=HK5.out _ r2; obtain ⟨w6,hrunS,hM6,hg6⟩:=HFILL.out w5 k5 v5; obtain ⟨m1,m2⟩:=HK6.out w5 w6 hg6 (by have:=r2.size; omega) (by have:=r2.size; omega); have l0:=cell_blk m1 k0; have l1:=cell_blk m2 k1; have l2:=cell_blk m2 k2; have l3:=cell_blk m2 k3; have l4:=cell_blk m2 k4; clear k5 k6 k7 m1 m2; have HR5:=hide (⟨r1,r2,r3,hM6,hg6⟩:_ ∧ _ ∧ _ ∧ _ ∧ _); clear r1 r2 r3 hM6 hg6))
 all_goals go_wp2_with fail
 all_goals
  go_end0
  obtain ⟨r1,r2,r3,hM6,hg6⟩:=HR5.out
  obtain ⟨h2,h8,hq3,hq2,hg3⟩:=H2.out
  have tcb:o cb=.mc:=h8.cameT
  have hc3:cb < w3.heap.size:=by omega
  have q5:=hq3.grew (t:=Own.row ⟨px,py⟩) r2 HROW'.out.tag (Or.inr rfl)
  have tcb':updq o w3.heap.size (Own.row ⟨px,py⟩) cb=.mc:=by rw [updq_other (by omega)]; exact tcb
  have q6:=QT.ofGrown (A:=(·=Own.mc)) hg6 tcb'
  have R5:=HROW'.out.app r1 r3
  have R6:=R5.touch q6 (by simp)
  have e1:(st.came ⟨px,py⟩).length + 1=(st.came ⟨px,py⟩ ++ [(⟨dr,dq⟩:Dot)]).length:=by simp
  rw [e1,show (st.came ⟨px,py⟩).flatMap Dot.cells ++ [Value.int .i64 dr,Value.int .i64 dq]=(st.came ⟨px,py⟩ ++ [(⟨dr,dq⟩:Dot)]).flatMap Dot.cells by simp] at R6
  have q7:=q5.trans (q6.mono fun t ht=>Or.inl ht)
  refine ⟨rfl,_,_,StP.setRow (p:=⟨px,py⟩) (v:=v5) (l:=st.came ⟨px,py⟩ ++ [⟨dr,dq⟩]) h8 q7 hM6 (fun q hq=>by simp [hq]) (by simp) R6,?_⟩
  have b1:QT stoTag w o fq.w o:=(QT.ofBelow HH.out.2.2.2.1).below fq.ok
  have b2:QT stoTag w o w2 o:=b1.trans (hq2.mono fun t ht=>by rw [ht]; trivial)
  have b3:QT stoTag w o W8 o:=b2.below HB8.out.1
  exact b3.trans (q7.mono fun t ht=>by rcases ht with rfl | rfl <;> trivial)
end Go.Proofs.YtiplgdkpnhamaaaGreatDoor
namespace Go.Proofs.YtiplgdkpnhamaaaGreatDoor
open Go.RowKit
theorem str_keyed:Maps.Keyed Tryz.prog 9:=Maps.string_keyed Tryz.underlying9
theorem str_key {s:ByteArray} (h:s.size ≤ maxLen):∃ kl,keyOf Tryz.prog 9 (setVal s)=some kl:=⟨_,by simp [keyOf,Tryz.underlying9,mapKey,setVal,h]; rfl⟩
theorem set_inj (a a':ByteArray) (h:setVal a=setVal a'):a=a':=by injection h
theorem zeroSet (w:World):(zeroValue 244).run Tryz.prog w=.ok (.map none) w:=by kernel_rfl
theorem els_look {w:World} {eb n:Nat} {ev:ByteArray → Option Nat} {key:ByteArray} (hM:MapIn w 9 eb n setVal mapVal ev) (hk:key.size ≤ maxLen) {W:World} (hW:W.heap[eb]? = w.heap[eb]?) :
  (Instr.lookup 180 (.map (some eb)) (.string key) false).run Tryz.prog W=.ok (.map (ev key)) W:=by
 obtain ⟨kl,hkl⟩:=str_key hk
 have a:=(hM.move hW).lookup (t:=180) str_keyed Tryz.underlying180 (zeroSet W) hkl
 have e:(ev key).elim (.map none) mapVal=.map (ev key):=by cases ev key <;> rfl
 rw [e] at a
 exact a
set_option maxRecDepth 100000 in
set_option maxHeartbeats 4000000 in
theorem list_st {w:World} {o:Nat → Own} {sb vb cb eb n:Nat} {ov:Value} {cv:Place → Option Value} {ev:ByteArray → Option Nat} {kv:Nat → Value} {st:St} (h:StP w o sb vb cb eb ov cv ev kv n st) (p:Place) (hp:p.Ok) (hn:n < 1000000000000) :
  Calls Tryz.prog 151 #[bptr sb,p.val] w fun e w'=>e=.returned (.tuple #[]) ∧ ∃ o' ev',StP w' o' sb vb cb eb ov cv ev' kv (n + 2) (listSt st p) ∧ QT stoTag w o w' o':=by
 have hmax:n < maxLen:=by unfold maxLen; omega
 have hpk:=hp.key
 have hpe:=hp.el
 obtain ⟨px,py⟩:=p
 simp only [Place.val] at *
 generalize hW0:w.alloc (.cells #[.string px,.string py] 129)=W0
 have hB0:Below w.heap.size w W0:=by rw [← hW0]; exact (Below.refl _ _).alloc (Nat.le_refl _) _
 have hbx:Blk W0 w.heap.size [.string px,.string py] 129:=by rw [← hW0]; exact heap_alloc_new w _
 have h0:StP W0 o sb vb cb eb ov cv ev kv n st:=h.below hB0
 have s7:=Bel.cell (show W0.cell? ⟨sb,7,none⟩=some (.map (some eb)) from h0.blk.blk.cell 7)
 have x0:=Bel.cell (show W0.cell? ⟨w.heap.size,0,none⟩=some (.string px) from hbx.cell 0)
 have hlk:∀ f:Fam (Bel W0),(Instr.lookup 180 (.map (some eb)) (.string px) false).run Tryz.prog f.w=.ok (.map (ev px)) f.w:=fun f=>els_look h0.els hpk (f.ok.block _ h0.els.lt)
 have hnil:=fun w r=>run_eql_map_nil (P:=Tryz.prog) w 244 9 195 r Tryz.underlying244
 have hmm:=@run_makeMap Tryz.prog
 have HH:=hide (⟨h,h0,hbx,hB0⟩:_ ∧ _ ∧ _ ∧ _)
 have HW0:=hide hW0
 have HP:=hide (⟨hpk,hpe⟩:_ ∧ _)
 clear h h0 hbx hB0 hW0 hp hpk hpe
 cases hev:ev px with
 | none=>
  have HEV:=hide hev
  rw [hev] at hlk
  clear hev
  go_enter Tryz.func151,Tryz.ntmps151
  go_wp2_with fail
  rw [HW0.out]
  refine region_fam (Bel W0) (by kernel_rfl) (by kernel_rfl) (Below.refl _ _).drew ?_
  repeat (go_big_quiet_step (fail))
  refine wpQuiet_nil ?_
  intro _ hw'
  obtain ⟨fq,rfl⟩:=hw'
  obtain ⟨W1,hB1⟩:=fq
  try dsimp only
  have h1:=HH.out.2.1.below hB1
  have hsl:sb < W1.heap.size:=h1.blk.blk.lt
  have hbx1:=HH.out.2.2.1.below hB1
  have hbl:w.heap.size < W1.heap.size:=hbx1.lt
  have c7:W1.cell? ⟨sb,7,none⟩=some (.map (some eb)):=h1.blk.blk.cell 7
  have d0:W1.cell? ⟨w.heap.size,0,none⟩=some (.string px):=hbx1.cell 0
  obtain ⟨kl,hkl⟩:=str_key HP.out.1
  have hMn:=MapIn.made W1 9 setVal unitVal
  have hel:=h1.els.lt
  obtain ⟨w2,hrunU,hM2,hg2⟩:=(h1.els.move (w':=(W1.alloc (.map #[] 0)).drew) (Below.heap_alloc _ _ _ h1.els.lt)).store (t:=180) str_keyed Tryz.underlying180 set_inj hmax hkl W1.heap.size
  have k1:QT (·=.me) W1 o ((W1.alloc (.map #[] 0)).drew) (updq o W1.heap.size (.set px)):=⟨((Touch.refl _ _).alloc _).drew,fun q hq=>updq_other (by omega)⟩
  have tme:updq o W1.heap.size (Own.set px) eb=.me:=by rw [updq_other (by omega)]; exact h1.elsT
  have k2:QT (·=.me) W1 o w2 (updq o W1.heap.size (.set px)):=k1.trans (QT.ofGrown hg2 tme)
  have hMb:MapIn w2 9 W1.heap.size (n + 1) setVal unitVal (fun _=>none):=(hMn.move (w':=w2) (hg2.block _ (by simp [World.drew]) (fun e=>by injection e with e; omega))).mono (by omega)
  have h3:StP w2 (updq o W1.heap.size (.set px)) sb vb cb eb ov cv (fun q=>if q=px then some W1.heap.size else ev q) kv (n + 1) st:=(h1.mono (Nat.le_succ n)).newSet k2 hM2 (fun q hq=>by simp [hq]) HEV.out (b:=W1.heap.size) (by simp) (updq_same _ _ _) hMb
  have hbx3:Blk w2 w.heap.size [.string px,.string py] 129:=(hbx1.alloc (.map #[] 0)).move (hg2.block _ (by simp [World.drew]; omega) (fun e=>by injection e with e; have:=HH.out.1.els.lt; omega))
  have q3:QT stoTag w o w2 (updq o W1.heap.size (.set px)):=((QT.ofBelow HH.out.2.2.2).below hB1).trans (k2.mono fun t ht=>by rw [ht]; trivial)
  obtain ⟨ev3,hE3⟩:∃ e,e=(fun q=>if q=px then some W1.heap.size else ev q):=⟨_,rfl⟩
  rw [← hE3] at h3
  have HB:Hid (ev3 px=some W1.heap.size):=by unfold Hid; rw [hE3]; simp
  have HF:=hide (⟨h3,hbx3,q3⟩:_ ∧ _ ∧ _)
  clear hE3
  clear h1 hbx1 hkl hMn hM2 hg2 k1 tme k2 hMb h3 hbx3 q3 hlk s7 x0 hel
  go_wp2_with fail
  go_region
  all_goals go_wp2_with fail
  all_goals
   have t7:=Bel.cell (show w2.cell? ⟨sb,7,none⟩=some (.map (some eb)) from HF.out.1.blk.blk.cell 7)
   have y0:=Bel.cell (show w2.cell? ⟨w.heap.size,0,none⟩=some (.string px) from HF.out.2.1.cell 0)
   have y1:=Bel.cell (show w2.cell? ⟨w.heap.size,1,none⟩=some (.string py) from HF.out.2.1.cell 1)
   have hlk3:∀ f:Fam (Bel w2),(Instr.lookup 180 (.map (some eb)) (.string px) false).run Tryz.prog f.w=.ok (.map (some W1.heap.size)) f.w:=fun f=>by
    have:=els_look HF.out.1.els HP.out.1 (f.ok.block _ HF.out.1.els.lt)
    rw [HB.out] at this
    exact this
   refine region_fam_tail (Bel w2) 10 (by kernel_rfl) (by kernel_rfl) (Below.refl _ _).drew ?_
   simp only [List.take_succ_cons,List.take_zero,List.drop_succ_cons,List.drop_zero]
   repeat (go_big_quiet_step (fail))
   refine wpQuiet_nil ?_
   intro _ hw'
   obtain ⟨fz,rfl⟩:=hw'
   obtain ⟨W5,hB5⟩:=fz
   try dsimp only
   have h5:=HF.out.1.below hB5
   obtain ⟨kl,hkl⟩:=str_key HP.out.2
   obtain ⟨w6,hrun6,hM6,hg6⟩:=(h5.set px W1.heap.size HB.out).store (t:=244) str_keyed Tryz.underlying244 set_inj (by unfold maxLen; omega) hkl ()
   have k6:QT (·=.set px) W5 (updq o W1.heap.size (Own.set px)) w6 (updq o W1.heap.size (Own.set px)):=QT.ofGrown hg6 (h5.setT px W1.heap.size HB.out)
   have h6:=(h5.mono (n':=n + 2) (by omega)).setSet (p:=⟨px,py⟩) (x:=true) k6 HB.out HP.out.2 (by simpa using hM6.mono (n':=n + 2) (by omega))
   have HE:=hide (⟨h6,(HF.out.2.2.below hB5).trans (k6.mono fun t ht=>by rw [ht]; trivial)⟩:_ ∧ QT stoTag w o w6 (updq o W1.heap.size (Own.set px)))
   clear t7 y0 y1 hlk3 h5 hM6 hg6 k6 h6
   go_wp2_with fail
   go_end0
   exact ⟨rfl,_,_,HE.out.1,HE.out.2⟩
 | some b=>
  have HEV:=hide hev
  rw [hev] at hlk
  clear hev
  go_enter Tryz.func151,Tryz.ntmps151
  go_wp2_with fail
  rw [HW0.out]
  refine region_fam (Bel W0) (by kernel_rfl) (by kernel_rfl) (Below.refl _ _).drew ?_
  repeat (go_big_quiet_step (fail))
  refine wpQuiet_nil ?_
  intro _ hw'
  obtain ⟨fz,rfl⟩:=hw'
  obtain ⟨W1,hB1⟩:=fz
  try dsimp only
  have HF:=hide (⟨(HH.out.2.1.below hB1).mono (n':=n + 1) (by omega),HH.out.2.2.1.below hB1,(QT.ofBelow HH.out.2.2.2).below hB1⟩:_ ∧ _ ∧ QT stoTag w o W1 o)
  have HB:=HEV
  clear hlk s7 x0
  go_wp2_with fail
  have t7:=Bel.cell (show W1.cell? ⟨sb,7,none⟩=some (.map (some eb)) from HF.out.1.blk.blk.cell 7)
  have y0:=Bel.cell (show W1.cell? ⟨w.heap.size,0,none⟩=some (.string px) from HF.out.2.1.cell 0)
  have y1:=Bel.cell (show W1.cell? ⟨w.heap.size,1,none⟩=some (.string py) from HF.out.2.1.cell 1)
  have hlk3:∀ f:Fam (Bel W1),(Instr.lookup 180 (.map (some eb)) (.string px) false).run Tryz.prog f.w=.ok (.map (some b)) f.w:=fun f=>by
   have:=els_look HF.out.1.els HP.out.1 (f.ok.block _ HF.out.1.els.lt)
   rw [HB.out] at this
   exact this
  refine region_fam_tail (Bel W1) 10 (by kernel_rfl) (by kernel_rfl) (Below.refl _ _).drew ?_
  simp only [List.take_succ_cons,List.take_zero,List.drop_succ_cons,List.drop_zero]
  repeat (go_big_quiet_step (fail))
  refine wpQuiet_nil ?_
  intro _ hw'
  obtain ⟨fz,rfl⟩:=hw'
  obtain ⟨W5,hB5⟩:=fz
  try dsimp only
  have h5:=HF.out.1.below hB5
  obtain ⟨kl,hkl⟩:=str_key HP.out.2
  obtain ⟨w6,hrun6,hM6,hg6⟩:=(h5.set px b HB.out).store (t:=244) str_keyed Tryz.underlying244 set_inj (by unfold maxLen; omega) hkl ()
  have k6:QT (·=.set px) W5 o w6 o:=QT.ofGrown hg6 (h5.setT px b HB.out)
  have h6:=(h5.mono (n':=n + 2) (by omega)).setSet (p:=⟨px,py⟩) (x:=true) k6 HB.out HP.out.2 (by simpa using hM6.mono (n':=n + 2) (by omega))
  have HE:=hide (⟨h6,(HF.out.2.2.below hB5).trans (k6.mono fun t ht=>by rw [ht]; trivial)⟩:_ ∧ QT stoTag w o w6 o)
  clear t7 y0 y1 hlk3 h5 hM6 hg6 k6 h6
  go_wp2_with fail
  go_end0
  exact ⟨rfl,_,_,HE.out.1,HE.out.2⟩
end Go.Proofs.YtiplgdkpnhamaaaGreatDoor
namespace Go.Proofs.YtiplgdkpnhamaaaGreatDoor
open Go.RowKit
theorem dot_eq (a b c d:Int) (w:World):(binOp .eql 62 (.agg #[.int .i64 a,.int .i64 b]) (.agg #[.int .i64 c,.int .i64 d])).run Tryz.prog w=.ok (.bool (decide ((⟨a,b⟩:Dot)=⟨c,d⟩))) w:=by
 have u3:=Tryz.underlying3
 have a3:=Tryz.isAgg3
 have z3:=Tryz.sizeOf3
 have hS:Tryz.prog.underlying 62=some (.struct (Tryz.prog.fieldsOf 62)):=by kernel_rfl
 have hp:Tryz.prog.stoodInHeld 62=false:=by kernel_rfl
 rw [run_eql_struct,show (10000:Nat)=9999 + 1 from rfl,run_equalIn_agg w 9999 62 _ _ hS hp]
 simp only [Program.fieldsOf,Tryz.underlying62]
 go_simp
 by_cases h1:a=c <;> by_cases h2:b=d <;> simp [h1,h2]
theorem dot_guard (op:BinOp) (a b:Operand) (xs ys:Array Value) (w:World):(eqGuard op 62 a b (.agg xs) (.agg ys)).run Tryz.prog w=.ok () w:=run_eqGuard_agg w op 62 a b xs ys (by kernel_rfl)
set_option maxHeartbeats 1000000 in
theorem dropfn (W:World) (nb:Nat) (d x:Dot) (c2:W.cell? ⟨nb,2,none⟩=some (.int .i64 x.rep)) (c3:W.cell? ⟨nb,3,none⟩=some (.int .i64 x.seq)) :
  Calls Tryz.prog 207 (#[d.val] ++ #[bptr nb]) W fun e w'=>e=.returned (.bool (decide (d=x))) ∧ Below W.heap.size W w':=by
 have hl:=World.block_lt_of_cell? W _ c2
 obtain ⟨a,b⟩:=d
 obtain ⟨c,e⟩:=x
 have he:=dot_eq a b c e
 have hg:=dot_guard
 obtain ⟨r,hr⟩:∃ r,decide ((⟨a,b⟩:Dot)=⟨c,e⟩)=r:=⟨_,rfl⟩
 rw [hr] at he ⊢
 clear hr
 simp only [List.append_toArray,List.cons_append,List.nil_append]
 go_enter Tryz.func207,Tryz.ntmps207
 go_wp2_with fail
 go_ret
 exact ⟨rfl,(Below.refl _ _).alloc (Nat.le_refl _) _⟩
end Go.Proofs.YtiplgdkpnhamaaaGreatDoor
