/- The texts F3, joined. -/
import Derived.Test.YtiplgdkpnhamaaaGreatDoorE13
import Derived.Test.YtiplgdkpnhamaaaGreatDoorE14
import Derived.Test.YtiplgdkpnhamaaaGreatDoorE09
import Derived.Shelf.SlSortCmp.NoneTotal
namespace Go.Proofs.YtiplgdkpnhamaaaGreatDoor
open Go.RowKit Go.Sort
theorem own_base {w:World} {b:Nat} {e:TypeId} {size:Nat} {v:Value} {n:Nat} {xs:List Value} (h:w.ownsRow 0 e size v n xs) (hb:∀ k,v.ownBlock=some k → b ≤ k):w.ownsRow b e size v n xs:=by
 refine ⟨h.1,?_⟩
 rcases h.2 with hn | ⟨g,cap,cur,rfl,h0,rest⟩
 ·exact .inl hn
 ·exact .inr ⟨g,cap,cur,rfl,hb g rfl,rest⟩
theorem sort_own (w:World) (base:Nat) (v:Value) (l:List Dot) (hrow:w.ownsRow base 62 2 v l.length (l.flatMap Dot.cells)) (hl:l.length ≤ 1000000000) (hnd:l.Nodup) :
  Calls Tryz.prog 181 #[v,.func (.func 182) #[] #[]] w fun e w'=>e=.returned (.tuple #[]) ∧
   ∃ l':List Dot,l'.Perm l ∧ l'.Pairwise dotLt ∧ w'.ownsRow base 62 2 v l'.length (l'.flatMap Dot.cells) ∧ w.grownBy w' v.ownBlock:=by
 rcases Nat.eq_zero_or_pos l.length with hz | hp
 ·have hnil:l=[]:=List.length_eq_zero_iff.1 hz
  subst hnil
  obtain ⟨ao,cap,rfl,-⟩:=Row.shape (ownsRow_low hrow (Nat.zero_le _))
  have a:=AnyF.slices_SortFunc_none (P:=Tryz.prog) (ρ:=Tryz.sortDots_ren) { Tryz.sortDots with } ao cap (.func (.func 182) #[] #[]) w
  change Calls Tryz.prog 181 _ _ _ at a
  refine a.mono ?_
  rintro e w' ⟨rfl,rfl⟩
  exact ⟨rfl,[],List.Perm.refl _,List.Pairwise.nil,hrow,⟨rfl,rfl,rfl,Nat.le_refl _,fun _ _ _=>rfl⟩⟩
 ·have hr0:=ownsRow_low hrow (Nat.zero_le _)
  obtain ⟨g,cap,rfl,-⟩:=Row.pos hr0 hp
  refine (sort_dots w g cap l hr0 hl hnd).mono ?_
  rintro e w' ⟨rfl,l',h1,h2,h3,h4⟩
  refine ⟨rfl,l',h1,h2,?_,h4⟩
  rw [h1.length_eq]
  exact own_base h3 (fun k hk=>(hrow.lt k hk).1)
set_option maxRecDepth 100000 in
set_option maxHeartbeats 8000000 in
theorem told_any {w:World} {o:Nat → Own} {sb n nb:Nat} {st:St} {saw:Vec} {kept:Value} (hI:StIn w o sb n st) (hN:Blk w nb [.pointer (some ⟨sb,0,none⟩),.int .i64 saw.a,.int .i64 saw.b,.int .i64 saw.c,.int .i64 saw.d,.int .i64 saw.e,kept] 186) (p:Place) (hp:p.Ok) (hok:∀ d,d ∈ st.came p → (⟨p,d⟩:VName).Ok)
  (hw:∀ x v,st.vers x=some v → 0 ≤ v.went.rep ∧ v.went.rep < 5) (hlen:(st.came p).length ≤ 1000000000) (hnd:(st.came p).Nodup) :
  Calls Tryz.prog 152 #[bptr nb,p.val] w fun e w'=>∃ (v:Value) (l:List Dot),e=.returned v ∧ l.Perm (toldRaw saw st p) ∧ l.Pairwise dotLt ∧ w'.ownsRow w.heap.size 62 2 v l.length (l.flatMap Dot.cells) ∧ Below w.heap.size w w':=by
 obtain ⟨vb,cb,eb,ov,cv,ev,kv,h⟩:=hI
 obtain ⟨i0,hi,hz0,hz1,hz2⟩:=info_parts Tryz.infoDot
 obtain ⟨px,py⟩:=p
 simp only [Place.val] at *
 generalize hW0:w.alloc (.cells #[.string px,.string py] 129)=W0
 have hB0:Below w.heap.size w W0:=by rw [← hW0]; exact (Below.refl _ _).alloc (Nat.le_refl _) _
 have hbx:Blk W0 w.heap.size [.string px,.string py] 129:=by rw [← hW0]; exact heap_alloc_new w _
 have h0:=h.below hB0
 have hN0:=hN.below hB0
 obtain ⟨l,hll⟩:∃ l,st.came ⟨px,py⟩=l:=⟨_,rfl⟩
 have hrow:=h0.rowAt ⟨px,py⟩
 have htr:toldRaw saw st ⟨px,py⟩=l.filter fun d=>readsB saw st.vers ⟨⟨px,py⟩,d⟩:=by unfold toldRaw; rw [hll]
 rw [hll] at hrow hok hlen hnd
 have hlk:∀ f:Fam (Bel W0),(Instr.lookup 179 (.map (some cb)) (.agg #[.string px,.string py]) false).run Tryz.prog f.w=.ok (cvAt cv ⟨px,py⟩) f.w:=fun f=>came_look h0 hp (f.ok.block _ h0.came.lt)
 obtain ⟨ao,cap,hsh,hcap,hmx,hcell⟩:=hrow.row.shape
 unfold maxLen at hmx
 rw [hsh] at hlk
 have c0:=Bel.cell (show W0.cell? ⟨nb,0,none⟩=some (.pointer (some ⟨sb,0,none⟩)) from hN0.cell 0)
 have c6:=Bel.cell (show W0.cell? ⟨sb,6,none⟩=some (.map (some cb)) from h0.blk.blk.cell 6)
 have x0:=Bel.cell (show W0.cell? ⟨w.heap.size,0,none⟩=some (.string px) from hbx.cell 0)
 have x1:=Bel.cell (show W0.cell? ⟨w.heap.size,1,none⟩=some (.string py) from hbx.cell 1)
 have HH:=hide (⟨h0,hbx,hB0,hcell,hN0⟩:_ ∧ _ ∧ _ ∧ _ ∧ _)
 have HX:=hide (⟨hp,hok,hw,hlen,hnd,htr⟩:_ ∧ _ ∧ _ ∧ _ ∧ _ ∧ _)
 have HI:=hide (⟨hi,hz0,hz1,hz2⟩:_ ∧ _ ∧ _ ∧ _)
 have HLL:=hide hll
 have HW0:=hide hW0
 clear h h0 hbx hB0 hcell hrow hsh hp hok hll hW0 hw hlen hnd htr hN hN0 hi hz0 hz1 hz2
 go_enter Tryz.func152,Tryz.ntmps152
 go_wp2_with fail
 rw [HW0.out]
 refine region_fam (Bel W0) (by kernel_rfl) (by kernel_rfl) (Below.refl _ _).drew ?_
 repeat (go_big_quiet_step (fail))
 refine wpQuiet_nil ?_
 intro _ hw'
 obtain ⟨fq,rfl⟩:=hw'
 obtain ⟨W1,hB1⟩:=fq
 try dsimp only
 clear c0 c6 x0 x1 hlk
 go_wp2_with fail
 go_loopw [5,18] (fun m i wr=>∃ k:Nat,k ≤ l.length ∧ i=.int .i64 k ∧ Hid (wr.ownsRow W0.heap.size 62 2 m ((l.take k).filter fun d=>readsB saw st.vers ⟨⟨px,py⟩,d⟩).length (((l.take k).filter fun d=>readsB saw st.vers ⟨⟨px,py⟩,d⟩).flatMap Dot.cells) ∧ Below W0.heap.size W0 wr)) (fun _ i _=>l.length - (intOf i).toNat)
 case atStart=>exact ⟨0,Nat.zero_le _,rfl,by simpa using World.ownsRow_nil _ _ _ _,hB1⟩
 case round=>
  obtain ⟨k,hkl,rfl,hinv⟩:=hrel
  by_cases hlk:k < l.length
  ·obtain ⟨g,e0,d0⟩:=HH.out.2.2.2.1 (k * 2 + 0) (by omega)
   obtain ⟨g1,e1,d1⟩:=HH.out.2.2.2.1 (k * 2 + 1) (by omega)
   subst e0
   cases e1
   rw [flat_get _ 2 (fun _=>rfl) _ _ _ hlk (by omega)] at d0 d1
   simp only [Dot.cells,List.getElem?_cons_zero,List.getElem?_cons_succ,Nat.add_zero] at d0 d1
   have d0':=cell_later hinv.out.2 d0
   have d1':=cell_later hinv.out.2 d1
   have HS:Hid (((l.take (k + 1)).filter fun d=>readsB saw st.vers ⟨⟨px,py⟩,d⟩)=((l.take k).filter fun d=>readsB saw st.vers ⟨⟨px,py⟩,d⟩) ++ (if readsB saw st.vers ⟨⟨px,py⟩,l[k]⟩ then [l[k]] else [])):=by
    unfold Hid
    rw [List.take_succ_eq_append_getElem hlk,List.filter_append]
    congr 1
    cases hrb:readsB saw st.vers ⟨⟨px,py⟩,l[k]⟩ <;> simp [hrb]
   have HN:Hid (((l.take k).filter fun d=>readsB saw st.vers ⟨⟨px,py⟩,d⟩).length ≤ k):=by
    refine Nat.le_trans (List.length_filter_le _ _) ?_
    rw [List.length_take]; omega
   generalize ((l.take k).filter fun d=>readsB saw st.vers ⟨⟨px,py⟩,d⟩)=es at *
   obtain ⟨d,hd⟩:∃ d,l[k]=d:=⟨_,rfl⟩
   have hdo:(⟨⟨px,py⟩,d⟩:VName).Ok:=HX.out.2.1 d (by rw [← hd]; exact List.getElem_mem hlk)
   rw [hd] at d0' d1' HS
   clear d0 d1
   generalize hW2:wr.alloc (.cells #[.int .i64 d.rep,.int .i64 d.seq] 62)=W2
   have hB2:Below wr.heap.size wr W2:=by rw [← hW2]; exact (Below.refl _ _).alloc (Nat.le_refl _) _
   have hBz:Below W0.heap.size W0 W2:=hinv.out.2.trans (hB2.mono hinv.out.2.size)
   have h2:=HH.out.1.below hBz
   have hN2:=HH.out.2.2.2.2.below hBz
   have bd2:Blk W2 wr.heap.size [.int .i64 d.rep,.int .i64 d.seq] 62:=by rw [← hW2]; exact heap_alloc_new wr _
   have bp2:=HH.out.2.1.below hBz
   have hown2:=ownsRow_below hinv.out.1 hB2
   have hbx1:=HH.out.2.1.below hinv.out.2
   have x0:wr.cell? ⟨w.heap.size,0,none⟩=some (.string px):=hbx1.cell 0
   have x1:wr.cell? ⟨w.heap.size,1,none⟩=some (.string py):=hbx1.cell 1
   have hbl:w.heap.size < wr.heap.size:=hbx1.lt
   have HA:=hide (⟨hBz,bd2,hdo,h2,hN2,hown2⟩:_ ∧ _ ∧ _ ∧ _ ∧ _ ∧ _)
   have HW2:=hide hW2
   clear h2 hB2 hBz bd2 bp2 hd hdo hW2 hN2 hown2 hbx1
   go_wp2_with fail
   rw [HW2.out]
   refine (reads_any W2 nb sb vb n saw kept ⟨⟨px,py⟩,d⟩ st.vers HA.out.2.2.2.2.1 (HA.out.2.2.2.1.blk.blk.cell 5) HA.out.2.2.2.1.vers HA.out.2.2.1 (HX.out.2.2.1 _)).mono ?_
   rintro e w3 ⟨rfl,hB3⟩
   have hBf:Below W0.heap.size W0 w3:=HA.out.1.trans (hB3.mono HA.out.1.size)
   have own3:=ownsRow_below HA.out.2.2.2.2.2 hB3
   have bd3:=HA.out.2.1.below hB3
   have v0:w3.cell? ⟨wr.heap.size,0,none⟩=some (.int .i64 d.rep):=bd3.cell 0
   have v1:w3.cell? ⟨wr.heap.size,1,none⟩=some (.int .i64 d.seq):=bd3.cell 1
   clear x0 x1 d0' d1'
   cases hs:readsB saw st.vers ⟨⟨px,py⟩,d⟩
   ·rw [hs] at HS
    have HB:=hide (⟨own3,hBf⟩:_ ∧ _)
    clear hs own3 hBf bd3 v0 v1 hB3
    go_wp2_with fail
    refine ⟨⟨k + 1,by omega,by go_num,?_⟩,by simp [intOf]; omega⟩
    rw [HS.out]
    unfold Hid; simpa using HB.out
   ·rw [hs] at HS
    have HB:=hide (⟨own3,hBf⟩:_ ∧ _)
    clear hs own3 hBf bd3 hB3
    have hsz3:W0.heap.size ≤ w3.heap.size:=HB.out.2.size
    go_wp2_with (at_builtin; refine wpList_append_own _ rfl _ _ 241 rfl W0.heap.size 62 i0 (.agg #[.int .i64 0,.int .i64 0]) 2 16 Tryz.underlying241 HI.out.1 HI.out.2.1 HI.out.2.2.1 HI.out.2.2.2 rfl (by decide) _ _ _ rfl (HB.out.1.alloc _) ⟨w3.heap.size,0,none⟩ 1 1 [.int .i64 d.rep,.int .i64 d.seq] rfl rfl (news_at (show Blk _ _ _ 62 from heap_alloc_new w3 _)) (by intro u hu; simp at hu; rcases hu with rfl | rfl <;> rfl) (by have:=HN.out; have:=HX.out.2.2.2.1; unfold maxLen; omega) (by have:=HN.out; have:=HX.out.2.2.2.1; omega) (by simp; omega) ?_; intro v1 w4 hown4 hgrow4 hnil4)
    refine ⟨⟨k + 1,by omega,by go_num,?_⟩,by simp [intOf]; omega⟩
    rw [HS.out]
    refine ⟨?_,(HB.out.2.alloc hsz3 _).grown hgrow4 (by simp; omega) (fun j hj=>(HB.out.1.lt j hj).1)⟩
    simpa using hown4
  ·have hke:k=l.length:=by omega
   subst hke
   rw [List.take_length] at hinv
   have HF:Hid _:=hinv.out
   clear hinv hlk
   go_wp2_with fail
   refine (sort_own _ _ _ _ HF.out.1 (Nat.le_trans (List.length_filter_le _ _) HX.out.2.2.2.1) (HX.out.2.2.2.2.1.sublist List.filter_sublist)).mono ?_
   rintro e w2 ⟨rfl,l',hl1,hl2,hl3,hl4⟩
   have HE:=hide (⟨hl1,hl2,hl3,hl4⟩:_ ∧ _ ∧ _ ∧ _)
   clear hl1 hl2 hl3 hl4
   go_wp2_with fail
   go_ret
   obtain ⟨hl1,hl2,hl3,hl4⟩:=HE.out
   have hb:Below W0.heap.size W0 w2:=HF.out.2.grown hl4 HF.out.2.size (fun j hj=>(HF.out.1.lt j hj).1)
   refine ⟨_,l',rfl,by rw [HX.out.2.2.2.2.2]; exact hl1,hl2,own_base (ownsRow_low hl3 (Nat.zero_le _)) (fun j hj=>Nat.le_trans HH.out.2.2.1.size (hl3.lt j hj).1),HH.out.2.2.1.trans (hb.mono HH.out.2.2.1.size)⟩
end Go.Proofs.YtiplgdkpnhamaaaGreatDoor
