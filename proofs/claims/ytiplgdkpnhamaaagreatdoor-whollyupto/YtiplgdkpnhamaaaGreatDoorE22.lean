/- The texts E2, joined. -/
import Derived.Test.YtiplgdkpnhamaaaGreatDoorE16
import Derived.Test.YtiplgdkpnhamaaaGreatDoorE09
import Derived.LaidEqlPtr
namespace Go.Proofs.YtiplgdkpnhamaaaGreatDoor
open Go.RowKit
set_option maxHeartbeats 1000000 in
set_option maxRecDepth 100000 in
theorem closefn (W:World) (nb q b:Nat) {cs cs':List Value} {ty ty':TypeId} (c0:W.cell? ⟨nb,0,none⟩=some (bptr b)) (hq:Blk W q cs ty) (hb:Blk W b cs' ty') :
  Calls Tryz.prog 146 (#[bptr q] ++ #[bptr nb]) W fun e w'=>e=.returned (.bool (decide (q=b))) ∧ Below W.heap.size W w':=by
 simp only [List.append_toArray,List.cons_append,List.nil_append]
 obtain ⟨j,hj,hs⟩:∃ j,Tryz.prog.info? 186=some j ∧ j.size ≠ 0:=by
  have:(Tryz.prog.info? 186).map (·.size)=some 7:=by kernel_rfl
  cases e:Tryz.prog.info? 186 with
  | none=>rw [e] at this; cases this
  | some j=>rw [e] at this; exact ⟨j,rfl,by simp at this; omega⟩
 have heq:(binOp .eql 117 (bptr q) (bptr b)).run Tryz.prog W=.ok (.bool (decide (q=b))) W:=by
  by_cases c:q=b
  ·subst c
   rw [run_eql_ptr_same W ⟨q,0,none⟩ Tryz.underlying117 hj]; simp
  ·rw [run_eql_ptr_other W Tryz.underlying117 hj hs (a:=⟨q,0,none⟩) (b:=⟨b,0,none⟩) (fun e=>c (by injection e)) hq hb]; simp [c]
 obtain ⟨r,hr⟩:∃ r,decide (q=b)=r:=⟨_,rfl⟩
 rw [hr] at heq ⊢
 clear hq hb hj hs hr
 go_enter Tryz.func146,Tryz.ntmps146
 go_wp2_with fail
 go_ret
 exact ⟨rfl,Below.refl _ _⟩
theorem enters_closefn (args:Array Value) (w:World):(callFunc 146 args).run Tryz.prog w=.ok (.enter 146 args) w:=enters_of Tryz.func146 (by kernel_rfl) rfl args w
theorem StP.closeIn {w w':World} {o o1:Nat → Own} {sb vb cb eb n b:Nat} {ov ov':Value} {cv:Place → Option Value} {ev:ByteArray → Option Nat} {kv:Nat → Value} {st:St} (h:StP w o sb vb cb eb ov cv ev kv n st) (k:Touch (fun q=>o q=.sto ∨ o q=.opens) w w') (ho:∀ q,q < w.heap.size → o q ≠ .snap b → o q ≠ .kept b → o1 q=o q)
  (hS:Qb w' o1 .sto sb [.int .i64 st.vis.a,.int .i64 st.vis.b,.int .i64 st.vis.c,.int .i64 st.vis.d,.int .i64 st.vis.e,.map (some vb),.map (some cb),.map (some eb),ov'] 183)
  (hR:Qc w' o1 .opens 117 1 ov' (st.snaps.filter fun t=>!decide (t.blk=b)).length ((st.snaps.filter fun t=>!decide (t.blk=b)).map fun s=>bptr s.blk)) :
  StP w' o1 sb vb cb eb ov' cv ev kv n { st with snaps:=st.snaps.filter fun t=>!decide (t.blk=b) }:=by
 have f:∀ t:Own,t ≠ .sto → t ≠ .opens → t ≠ .snap b → t ≠ .kept b → ∀ q,q < w.heap.size → o q=t → w'.heap[q]? = w.heap[q]? ∧ o1 q=t:=fun t h1 h2 h3 h4 q hq e=>by
  subst e
  exact ⟨k.block q hq (fun c=>c.elim h1 h2),ho q hq h3 h4⟩
 have g:∀ {α β:Type} {ky:TypeId} {bk nn:Nat} {fk:α → Value} {fe:β → Value} {m:α → Option β} {t:Own},MapIn w ky bk nn fk fe m → o bk=t → t ≠ .sto → t ≠ .opens → t ≠ .snap b → t ≠ .kept b → MapIn w' ky bk nn fk fe m ∧ o1 bk=t:=fun hM e h1 h2 h3 h4=>by
  have a:=f _ h1 h2 h3 h4 _ hM.lt e
  exact ⟨hM.move a.1,a.2⟩
 have hmem:∀ t,t ∈ st.snaps.filter (fun t=>!decide (t.blk=b)) → t ∈ st.snaps ∧ t.blk ≠ b:=fun t ht=>by
  rw [List.mem_filter] at ht; simpa using ht
 obtain ⟨m1,m2⟩:=g h.vers h.versT (by simp) (by simp) (by simp) (by simp)
 obtain ⟨m3,m4⟩:=g h.came h.cameT (by simp) (by simp) (by simp) (by simp)
 obtain ⟨m5,m6⟩:=g h.els h.elsT (by simp) (by simp) (by simp) (by simp)
 exact ⟨hS,m1,m2,m3,m4,h.rowN,fun p v e=>(h.row p v e).move2 (f _ (by simp) (by simp) (by simp) (by simp)),m5,m6,h.setN,fun x c e=>(g (h.set x c e) (h.setT x c e) (by simp) (by simp) (by simp) (by simp)).2,fun x c e=>(g (h.set x c e) (h.setT x c e) (by simp) (by simp) (by simp) (by simp)).1,hR,
  fun t ht=>(h.snap t (hmem t ht).1).move2 (f _ (by simp) (by simp) (by simp [(hmem t ht).2]) (by simp)),fun t ht=>(h.kept t (hmem t ht).1).move2 (f _ (by simp) (by simp) (by simp) (by simp [(hmem t ht).2])),h.elsOk⟩
theorem St.Wf.entrusts:∀ (l:List VName) {st:St},st.Wf → (∀ x,x ∈ l → x.Ok) → (l.foldl entrustSt st).Wf
 | [],_,h,_=>h
 | x :: l,_,h,hl=>St.Wf.entrusts l (h.entrust (hl x (by simp))) fun y hy=>hl y (by simp [hy])
theorem KeptRoom.entrusts:∀ (l:List VName) {st:St} {m:Nat},KeptRoom st (m + l.length) → KeptRoom (l.foldl entrustSt st) m
 | [],_,_,h=>h
 | x :: l,st,m,h=>KeptRoom.entrusts l (KeptRoom.entrust (m:=m + l.length) (by rw [List.length_cons] at h; exact h) x)
set_option maxRecDepth 100000 in
set_option maxHeartbeats 8000000 in
theorem close_st {w:World} {o:Nat → Own} {sb n:Nat} {st:St} {s:Snap} (hI:StIn w o sb n st) (hW:st.Wf) (hs:s ∈ st.snaps) (hk:KeptRoom st s.kept.length) (hn:n < 1000000000000) :
  Calls Tryz.prog 104 #[bptr s.blk] w fun e w'=>e=.returned (.tuple #[]) ∧ ∃ o',StIn w' o' sb n (closeSt st s) ∧ QT stoTag w o w' o' ∧ Blk w' s.blk [bptr sb,.int .i64 s.saw.a,.int .i64 s.saw.b,.int .i64 s.saw.c,.int .i64 s.saw.d,.int .i64 s.saw.e,.slice none 0 0] 186:=by
 obtain ⟨vb,cb,eb,ov,cv,ev,kv,h⟩:=hI
 generalize hW0:w.alloc (.cells #[bptr s.blk] 117)=W0
 have hB0:Below w.heap.size w W0:=by rw [← hW0]; exact (Below.refl _ _).alloc (Nat.le_refl _) _
 have hz0:W0.heap.size=w.heap.size + 1:=by rw [← hW0]; simp
 have hbx:Blk W0 w.heap.size [bptr s.blk] 117:=by rw [← hW0]; exact heap_alloc_new w _
 have h0:=h.below hB0
 have hsn:=h0.snap s hs
 have hlt:=(h.snap s hs).blk.lt
 have x0:W0.cell? ⟨w.heap.size,0,none⟩=some (bptr s.blk):=hbx.cell 0
 have n0:W0.cell? ⟨s.blk,0,none⟩=some (bptr sb):=hsn.blk.cell 0
 have s8:W0.cell? ⟨sb,8,none⟩=some ov:=h0.blk.blk.cell 8
 have hsl:sb < W0.heap.size:=h0.blk.blk.lt
 have hol:∀ q,ov.ownBlock=some q → q < w.heap.size ∧ o q=.opens:=fun q hq=>⟨h.opens.lt hq,h.opens.tag q hq⟩
 have hrow:Row W0 117 1 ov (st.snaps.map Snap.blk).length ((st.snaps.map Snap.blk).flatMap ptrCells):=by
  have a:=h0.opens.row
  rw [show (st.snaps.map Snap.blk).flatMap ptrCells=st.snaps.map fun s=>bptr s.blk by rw [List.flatMap_map]; induction st.snaps <;> simp_all,List.length_map]
  exact a
 have hD:=delf_snaps W0 ov (st.snaps.map Snap.blk) hrow 146 #[bptr w.heap.size] (fun q=>decide (q=s.blk)) enters_closefn (fun W hW d hd=>by
  obtain ⟨t,ht,rfl⟩:=List.mem_map.1 hd
  have hn':∀ q,q < W0.heap.size → o q ≠ .opens → W.heap[q]? = W0.heap[q]?:=fun q hq c=>hW.block q hq (fun e=>c (hol q e).2)
  have e1:W.heap[w.heap.size]? = W0.heap[w.heap.size]?:=hW.block _ hbx.lt (fun e=>by have:=(hol _ e).1; omega)
  have t1:=h0.snap t ht
  exact closefn W w.heap.size t.blk s.blk (cell_blk e1 x0) (t1.blk.move (hn' _ t1.blk.lt (by rw [t1.tag]; simp))) (hsn.blk.move (hn' _ hsn.blk.lt (by rw [hsn.tag]; simp))))
 have HH:=hide (⟨h,h0,hbx,hB0,hz0⟩:_ ∧ _ ∧ _ ∧ _ ∧ _)
 have HX:=hide (⟨hW,hs,hk,hol⟩:_ ∧ _ ∧ _ ∧ _)
 have HD:=hide hD
 have HW0:=hide hW0
 clear h h0 hbx hB0 hz0 hsn hW hs hk hol hrow hD hW0
 go_enter Tryz.func104,Tryz.ntmps104
 go_upto_region 1 with (fail)
 rw [HW0.out]
 go_wp2_with fail
 refine HD.out.mono ?_
 rintro e w1 ⟨v1,rfl,hR1,hv1,hT1⟩
 obtain ⟨ao,cap,rfl,hcap,hmx,-⟩:=hR1.shape
 clear x0 n0 s8
 obtain ⟨h,h0,hbx,hB0,hz0⟩:=HH.out
 obtain ⟨hW,hs,hk,hol⟩:=HX.out
 classical
 obtain ⟨o1,ho1⟩:∃ o1:Nat → Own,o1=fun q=>if q < w.heap.size then (if o q=.snap s.blk ∨ o q=.kept s.blk then .other else o q) else .other:=⟨_,rfl⟩
 have t1:∀ q,q < w.heap.size → o q ≠ .snap s.blk → o q ≠ .kept s.blk → o1 q=o q:=fun q hq a b=>by rw [ho1]; simp [hq,a,b]
 have t2:∀ q,stoTag (o1 q) → q < w.heap.size ∧ o1 q=o q:=fun q hq=>by
  rw [ho1] at hq ⊢
  by_cases c:q < w.heap.size
  ·by_cases d:o q=.snap s.blk ∨ o q=.kept s.blk
   ·simp [c,d,stoTag] at hq
   ·simp [c,d]
  ·simp [c,stoTag] at hq
 have t3:o1 w.heap.size=.other:=by rw [ho1]; simp
 have t4:∀ q,q < w.heap.size → o q=.snap s.blk ∨ o q=.kept s.blk → o1 q=.other:=fun q hq a=>by rw [ho1]; simp [hq,a]
 have hkeep:∀ q,q < W0.heap.size → o q ≠ .opens ∨ w.heap.size ≤ q → w1.heap[q]? = W0.heap[q]?:=fun q hq c=>hT1.block q hq (fun e=>by have:=hol q e; rcases c with c | c; exact c this.2; omega)
 have tsb:o sb=.sto:=h.blk.tag
 have hsw:sb < w.heap.size:=h.blk.blk.lt
 have bs1:Blk w1 sb [.int .i64 st.vis.a,.int .i64 st.vis.b,.int .i64 st.vis.c,.int .i64 st.vis.d,.int .i64 st.vis.e,.map (some vb),.map (some cb),.map (some eb),ov] 183:=h0.blk.blk.move (hkeep sb hsl (Or.inl (by rw [tsb]; simp)))
 have c8:w1.cell? ⟨sb,8,none⟩=some ov:=bs1.cell 8
 have f8:w1.frozen? ⟨sb,8,none⟩=false:=bs1.frozen 8
 have bx1:Blk w1 w.heap.size [bptr s.blk] 117:=hbx.move (hkeep _ hbx.lt (Or.inr (Nat.le_refl _)))
 have sn0:=h0.snap s hs
 have sn1:Blk w1 s.blk [bptr sb,.int .i64 s.saw.a,.int .i64 s.saw.b,.int .i64 s.saw.c,.int .i64 s.saw.d,.int .i64 s.saw.e,kv s.blk] 186:=sn0.blk.move (hkeep _ sn0.blk.lt (Or.inl (by rw [sn0.tag]; simp)))
 have kp0:=h0.kept s hs
 have kp1:Row w1 233 4 (kv s.blk) s.kept.length (s.kept.flatMap VName.cells):=kp0.row.move fun q hq=>hkeep q (kp0.lt hq) (Or.inl (by rw [kp0.tag q hq]; simp))
 have hne:s.blk ≠ sb:=fun e=>by have:=sn0.tag; rw [e,tsb] at this; cases this
 have hne2:w.heap.size ≠ sb:=by omega
 have hl1:sb < w1.heap.size:=bs1.lt
 have hl2:s.blk < w1.heap.size:=sn1.lt
 have hl3:w.heap.size < w1.heap.size:=bx1.lt
 generalize hW2:w1.setCell ⟨sb,8,none⟩ (.slice ao ((st.snaps.map Snap.blk).filter fun x=>!decide (x=s.blk)).length cap)=W2
 have hlen2:((st.snaps.map Snap.blk).filter fun x=>!decide (x=s.blk))=(st.snaps.filter fun t=>!decide (t.blk=s.blk)).map Snap.blk:=by
  rw [List.filter_map]; rfl
 have sv2:Qb W2 o1 .sto sb [.int .i64 st.vis.a,.int .i64 st.vis.b,.int .i64 st.vis.c,.int .i64 st.vis.d,.int .i64 st.vis.e,.map (some vb),.map (some cb),.map (some eb),.slice ao ((st.snaps.map Snap.blk).filter fun x=>!decide (x=s.blk)).length cap] 183:=⟨by rw [← hW2]; exact bs1.set 8 _,by rw [t1 sb hsw (by rw [tsb]; simp) (by rw [tsb]; simp)]; exact tsb⟩
 have hR2:Qc W2 o1 .opens 117 1 (.slice ao ((st.snaps.map Snap.blk).filter fun x=>!decide (x=s.blk)).length cap) (st.snaps.filter fun t=>!decide (t.blk=s.blk)).length ((st.snaps.filter fun t=>!decide (t.blk=s.blk)).map fun s=>bptr s.blk):=by
  refine ⟨?_,fun q hq=>?_⟩
  ·have a:Row W2 117 1 (.slice ao ((st.snaps.map Snap.blk).filter fun x=>!decide (x=s.blk)).length cap) ((st.snaps.map Snap.blk).filter fun x=>!decide (x=s.blk)).length (((st.snaps.map Snap.blk).filter fun x=>!decide (x=s.blk)).flatMap ptrCells):=by
    rw [← hW2]
    exact Row.other hR1 (fun e=>by have:=hol sb (by rw [← hv1]; exact e); rw [tsb] at this; cases this.2) _
   have e1:((st.snaps.map Snap.blk).filter fun x=>!decide (x=s.blk)).flatMap ptrCells=(st.snaps.filter fun t=>!decide (t.blk=s.blk)).map fun s=>bptr s.blk:=by
    rw [hlen2,List.flatMap_map]
    induction st.snaps.filter fun t=>!decide (t.blk=s.blk) <;> simp_all
   rw [e1] at a
   rw [show (st.snaps.filter fun t=>!decide (t.blk=s.blk)).length=((st.snaps.map Snap.blk).filter fun x=>!decide (x=s.blk)).length by rw [hlen2,List.length_map]]
   exact a
  ·have:=hol q (by rw [← hv1]; exact hq)
   rw [t1 q this.1 (by rw [this.2]; simp) (by rw [this.2]; simp)]; exact this.2
 have hTw:Touch (fun q=>o q=.sto ∨ o q=.opens) w W2:=by
  rw [← hW2]
  have T1:Touch (fun q=>o q=.sto ∨ o q=.opens) w w1:=(Touch.ofBelow hB0).trans (hT1.mono fun q _ e=>Or.inl (Or.inr (hol q e).2))
  exact T1.setCell (p:=⟨sb,8,none⟩) (Or.inl (Or.inl tsb)) _
 have h2:=h.closeIn hTw t1 sv2 hR2
 have bx2:Qb W2 o1 .other w.heap.size [bptr s.blk] 117:=⟨by rw [← hW2]; exact bx1.other hne2 _,t3⟩
 have sn2:Qb W2 o1 .other s.blk [bptr sb,.int .i64 s.saw.a,.int .i64 s.saw.b,.int .i64 s.saw.c,.int .i64 s.saw.d,.int .i64 s.saw.e,kv s.blk] 186:=⟨by rw [← hW2]; exact sn1.other hne _,t4 _ hlt (Or.inl (h.snap s hs).tag)⟩
 have kp2:Qc W2 o1 .other 233 4 (kv s.blk) s.kept.length (s.kept.flatMap VName.cells):=by
  refine ⟨?_,fun q hq=>t4 q ((h.kept s hs).lt hq) (Or.inr ((h.kept s hs).tag q hq))⟩
  rw [← hW2]
  exact Row.other kp1 (fun e=>by have:=(h.kept s hs).tag sb e; rw [tsb] at this; cases this) _
 obtain ⟨ko,kcap,hks,hkc,hkm,hkcell⟩:=kp2.row.shape
 unfold maxLen at hkm hmx
 have H2:=hide (⟨⟨vb,cb,eb,_,cv,ev,kv,h2⟩,bx2,sn2,kp2,hTw⟩:StIn W2 o1 sb n { st with snaps:=st.snaps.filter fun t=>!decide (t.blk=s.blk) } ∧ _ ∧ _ ∧ _ ∧ _)
 have HT:=hide (⟨t1,t2,t4⟩:_ ∧ _ ∧ _)
 have HW2:=hide hW2
 have HKS:=hide hks
 have y0:W2.cell? ⟨w.heap.size,0,none⟩=some (bptr s.blk):=bx2.blk.cell 0
 have y6:W2.cell? ⟨s.blk,6,none⟩=some (kv s.blk):=sn2.blk.cell 6
 rw [hks] at y6
 clear h h0 hbx hB0 hz0 hW hs hk hol ho1 t1 t2 t3 t4 hkeep tsb hsw bs1 bx1 sn0 sn1 kp0 kp1 hne hne2 hlen2 sv2 hR2 hTw h2 bx2 sn2 kp2 hkcell hW2 hks hR1 hv1 hT1
 go_upto_region 3 with (fail)
 rw [HW2.out]
 clear c8 f8
 go_wp2_with fail
 clear y0 y6
 go_loopw [23] (fun i wr=>∃ (k:Nat) (o':Nat → Own),k ≤ s.kept.length ∧ i=.int .i64 k ∧ Hid (StIn wr o' sb n ((s.kept.take k).foldl entrustSt { st with snaps:=st.snaps.filter fun t=>!decide (t.blk=s.blk) }) ∧ QT stoTag W2 o1 wr o')) (fun i _=>s.kept.length - (intOf i).toNat)
 case atStart=>exact ⟨0,o1,Nat.zero_le _,rfl,H2.out.1,QT.refl _ _ _⟩
 case round=>
  obtain ⟨k,o',hkl,rfl,hinv⟩:=hrel
  by_cases hlk:k < s.kept.length
  ·have hR:=H2.out.2.2.2.1.touch hinv.out.2 sto_other
   rw [HKS.out] at hR
   obtain ⟨g,_,e,-,-,hgl,hcell,-⟩:=Row.pos hR.row (by omega)
   cases e
   have d0:=hcell (k * 4 + 0) (by omega)
   have d1:=hcell (k * 4 + 1) (by omega)
   have d2:=hcell (k * 4 + 2) (by omega)
   have d3:=hcell (k * 4 + 3) (by omega)
   rw [flat_get _ 4 (fun _=>rfl) _ _ _ hlk (by omega)] at d0 d1 d2 d3
   simp only [VName.cells,List.getElem?_cons_zero,List.getElem?_cons_succ,Nat.add_zero] at d0 d1 d2 d3
   obtain ⟨x,hx⟩:∃ x,s.kept[k]=x:=⟨_,rfl⟩
   rw [hx] at d0 d1 d2 d3
   have hin:x ∈ s.kept:=by rw [← hx]; exact List.getElem_mem hlk
   obtain ⟨hW,hs,hk,-⟩:=HX.out
   have hsub:∀ t,t ∈ st.snaps.filter (fun t=>!decide (t.blk=s.blk)) → t ∈ st.snaps:=fun t ht=>(List.mem_filter.1 ht).1
   have hW1:({ st with snaps:=st.snaps.filter fun t=>!decide (t.blk=s.blk) }:St).Wf:=⟨hW.here,hW.once,hW.ok,hW.went,fun t ht=>hW.kept t (hsub t ht),hW.blks.sublist (List.Sublist.map _ List.filter_sublist)⟩
   have hWk:=St.Wf.entrusts (s.kept.take k) hW1 (fun y hy=>hW.kept s hs y (List.mem_of_mem_take hy))
   have hk1:KeptRoom ({ st with snaps:=st.snaps.filter fun t=>!decide (t.blk=s.blk) }:St) (1 + (s.kept.take k).length):=fun t ht=>by
    have:=hk t (hsub t ht)
    rw [List.length_take]; omega
   have hkr:=KeptRoom.entrusts (s.kept.take k) hk1
   obtain ⟨stk,hstk⟩:∃ z,(s.kept.take k).foldl entrustSt { st with snaps:=st.snaps.filter fun t=>!decide (t.blk=s.blk) }=z:=⟨_,rfl⟩
   have hIk:=hinv.out.1
   rw [hstk] at hWk hkr hIk
   have hstep:(s.kept.take (k + 1)).foldl entrustSt { st with snaps:=st.snaps.filter fun t=>!decide (t.blk=s.blk) }=entrustSt stk x:=by
    rw [List.take_succ_eq_append_getElem hlk,List.foldl_append,hstk,hx]; rfl
   generalize hW3:wr.alloc (.cells #[.string x.at_.key,.string x.at_.el,.int .i64 x.dot.rep,.int .i64 x.dot.seq] 233)=W3
   have hB3:Below wr.heap.size wr W3:=by rw [← hW3]; exact (Below.refl _ _).alloc (Nat.le_refl _) _
   have hen:=entrust_st (hIk.below hB3) hWk.blks x (hW.kept s hs x hin) (fun v hv=>⟨(hWk.went x v hv).r0,(hWk.went x v hv).r5⟩) hkr hn
   simp only [VName.val] at hen
   have HEN:=hide hen
   have HW3:=hide hW3
   have HF:=hide (⟨hstep,hinv.out.2.below hB3⟩:_ ∧ QT stoTag W2 o1 W3 o')
   clear hR hcell hx hin hW hs hk hsub hW1 hWk hk1 hkr hstk hIk hstep hW3 hB3 hen
   go_wp2_with fail
   rw [HW3.out]
   refine HEN.out.mono ?_
   rintro e w5 ⟨rfl,o5,hI5,hq5⟩
   clear d0 d1 d2 d3
   go_wp2_with fail
   refine ⟨⟨k + 1,o5,by omega,by go_num,?_,HF.out.2.trans hq5⟩,by simp [intOf]; omega⟩
   rw [HF.out.1]
   exact hI5
  ·have bx:=H2.out.2.1.touch hinv.out.2 sto_other
   have sn:=H2.out.2.2.1.touch hinv.out.2 sto_other
   have y0:wr.cell? ⟨w.heap.size,0,none⟩=some (bptr s.blk):=bx.blk.cell 0
   have y6:wr.cell? ⟨s.blk,6,none⟩=some (kv s.blk):=sn.blk.cell 6
   have f6:wr.frozen? ⟨s.blk,6,none⟩=false:=sn.blk.frozen 6
   have SN:=hide sn
   clear bx sn
   go_wp2_with fail
   go_end0
   have hI9:StIn (wr.setCell ⟨s.blk,6,none⟩ (.slice none 0 0)) o' sb n (closeSt st s):=by
    have a:=hinv.out.1
    rw [List.take_of_length_le (by omega)] at a
    obtain ⟨vb,cb,eb,ov,cv,ev,kv,h⟩:=a
    exact ⟨vb,cb,eb,ov,cv,ev,kv,h.touch (A:=(·=.other)) ((QT.refl _ _ _).set (p:=⟨s.blk,6,none⟩) SN.out.tag _) (fun t ht e=>by rw [e] at ht; exact ht)⟩
   obtain ⟨t1,t2,t4⟩:=HT.out
   have hz:w.heap.size ≤ wr.heap.size:=Nat.le_trans H2.out.2.2.2.2.size hinv.out.2.size
   have hlw:w.heap.size < W2.heap.size:=H2.out.2.1.blk.lt
   refine ⟨rfl,fun q=>if q < w.heap.size then o q else o' q,?_,?_,SN.out.blk.set 6 (.slice none 0 0)⟩
   ·obtain ⟨vb,cb,eb,ov,cv,ev,kv,h⟩:=hI9
    refine ⟨vb,cb,eb,ov,cv,ev,kv,h.move fun q hq ht=>⟨rfl,?_⟩⟩
    by_cases c:q < w.heap.size
    ·have e1:=hinv.out.2.same q (by omega)
     rw [e1] at ht
     simp only [c,if_true]
     rw [e1]; exact (t2 q ht).2.symm
    ·simp [c]
   ·refine ⟨?_,fun q hq=>by simp [hq]⟩
    have T1:Touch (fun q=>stoTag (o q)) w W2:=H2.out.2.2.2.2.mono fun q _ e=>by rcases e with e | e <;> rw [e] <;> trivial
    have T2:Touch (fun q=>stoTag (o q)) w wr:=T1.trans (hinv.out.2.touch.mono fun q hq e=>by
     obtain ⟨a,b⟩:=t2 q e
     rw [b] at e; exact Or.inl e)
    exact T2.setCell (p:=⟨s.blk,6,none⟩) (Or.inl (by show stoTag (o s.blk); rw [(HH.out.1.snap s HX.out.2.1).tag]; trivial)) _
end Go.Proofs.YtiplgdkpnhamaaaGreatDoor
