/- The texts F1, joined. -/
import Derived.Test.YtiplgdkpnhamaaaGreatDoorE10
import Derived.Test.YtiplgdkpnhamaaaGreatDoorE06
import Derived.Test.YtiplgdkpnhamaaaGreatDoorE09
import Derived.Shelf.SlSortCmp.QuietGrown
namespace Go.Proofs.YtiplgdkpnhamaaaGreatDoor
open Go.RowKit Go.Sort
def orInt (a b:Int):Int:=if a=0 then b else a
set_option maxHeartbeats 2000000 in
set_option maxRecDepth 100000 in
theorem or_two (w:World) (g:Nat) (a b:Int) (c0:w.cell? ⟨g,0,none⟩=some (.int .i64 a)) (c1:w.cell? ⟨g,1,none⟩=some (.int .i64 b)) :
  Calls Tryz.prog 202 #[.slice (some ⟨g,0,none⟩) 2 2] w fun e w'=>e=.returned (.int .i64 (orInt a b)) ∧ w'=w:=by
 have HA:Hid (a=0 ∨ a ≠ 0):=by unfold Hid; omega
 have HB:Hid (b=0 ∨ b ≠ 0):=by unfold Hid; omega
 go_enter Tryz.func202,Tryz.ntmps202
 go_wp2_with fail
 go_loop [8] (fun i=>i=.int .i64 0 ∨ (i=.int .i64 1 ∧ Hid (a=0)) ∨ (i=.int .i64 2 ∧ Hid (a=0 ∧ b=0))) (fun i=>2 - (intOf i).toNat)
 case atStart=>exact Or.inl rfl
 case round=>
  rcases hrel with rfl | ⟨rfl,h1⟩ | ⟨rfl,h1⟩
  ·rcases HA.out with h | h
   ·have h':(a == 0)=true:=by simp [h]
    have HH:=hide h
    clear h
    go_wp2_with fail
    exact ⟨Or.inr (Or.inl ⟨rfl,HH.out⟩),by simp [intOf]⟩
   ·have h':(a == 0)=false:=by simp [h]
    have HH:=hide h
    clear h
    go_wp2_with fail
    go_ret
    exact ⟨ret_int (by unfold orInt; rw [if_neg HH.out]),rfl⟩
  ·rcases HB.out with h | h
   ·have h':(b == 0)=true:=by simp [h]
    have HH:=hide h
    clear h
    go_wp2_with fail
    exact ⟨Or.inr (Or.inr ⟨rfl,h1.out,HH.out⟩),by simp [intOf]⟩
   ·have h':(b == 0)=false:=by simp [h]
    clear h
    go_wp2_with fail
    go_ret
    exact ⟨ret_int (by unfold orInt; rw [if_pos h1.out]),rfl⟩
  ·go_wp2_with fail
   go_ret
   exact ⟨ret_int (by unfold orInt; rw [if_pos h1.out.1,h1.out.2]),rfl⟩
abbrev Gr (w:World):World → Prop:=fun W=>∃ (q:Nat) (os:Array Obj),W=grow (w.drewN q) os
instance (w:World):Nonempty (Fam (Gr w)):=⟨⟨w,0,#[],by simp [World.drewN]⟩⟩
theorem Gr.cell {w:World} {p:Addr} {v:Value} (h:w.cell? p=some v) (f:Fam (Gr w)):f.w.cell? p=some v:=by
 obtain ⟨q,os,e⟩:=f.ok
 rw [e]; exact cell_grown (World.block_lt_of_cell? w p h) h q os
theorem Gr.of {w W W':World} (h:Gr w W) (h':Gr W W'):Gr w W':=by
 obtain ⟨q,os,rfl⟩:=h
 obtain ⟨q',os',rfl⟩:=h'
 refine ⟨q + q',os ++ os',?_⟩
 unfold grow World.drewN
 simp [Array.append_assoc,Nat.add_assoc]
theorem Gr.alloc (w:World) (o:Obj):Gr w (w.alloc o):=⟨0,#[o],by rw [alloc_eq_grow]; rfl⟩
theorem Gr.drew {w W:World} (h:Gr w W):Gr w W.drew:=h.of ⟨1,#[],by rw [grow_empty]; rfl⟩
theorem Gr.refl (w:World):Gr w w:=⟨0,#[],by simp [World.drewN]⟩
def cmpDot (a b:Dot):Int:=orInt (cmpInt a.rep b.rep) (cmpInt a.seq b.seq)
set_option maxHeartbeats 4000000 in
set_option maxRecDepth 100000 in
theorem inorder_any (a b:Dot) (W:World):Calls Tryz.prog 182 #[a.val,b.val] W fun e w'=>e=.returned (.int .i64 (cmpDot a b)) ∧ Gr W w':=by
 obtain ⟨ar,aq⟩:=a
 obtain ⟨br,bq⟩:=b
 generalize hW0:(W.alloc (.cells #[.int .i64 ar,.int .i64 aq] 62)).alloc (.cells #[.int .i64 br,.int .i64 bq] 62)=W0
 have hG:Gr W W0:=by rw [← hW0]; exact (Gr.alloc _ _).of (Gr.alloc _ _)
 have b1:Blk W0 W.heap.size [.int .i64 ar,.int .i64 aq] 62:=by rw [← hW0]; exact Blk.first W _ _ _
 have b2:Blk W0 (W.heap.size + 1) [.int .i64 br,.int .i64 bq] 62:=by rw [← hW0]; exact Blk.second W _ _ _
 have x0:=Gr.cell (show W0.cell? ⟨W.heap.size,0,none⟩=some (.int .i64 ar) from b1.cell 0)
 have x1:=Gr.cell (show W0.cell? ⟨W.heap.size,1,none⟩=some (.int .i64 aq) from b1.cell 1)
 have y0:=Gr.cell (show W0.cell? ⟨W.heap.size + 1,0,none⟩=some (.int .i64 br) from b2.cell 0)
 have y1:=Gr.cell (show W0.cell? ⟨W.heap.size + 1,1,none⟩=some (.int .i64 bq) from b2.cell 1)
 unfold cmpDot
 simp only
 have k1:∀ f:Fam (Gr W0),Calls Tryz.prog 209 #[.int .i64 ar,.int .i64 br] f.w fun e w''=>e=.returned (.int .i64 (cmpInt ar br)) ∧ ∃ g:Fam (Gr W0),w''=g.w:=fun f=>(cmp_int ar br f.w).mono fun e w'' ⟨h1,h2⟩=>⟨h1,f,h2⟩
 have k2:∀ f:Fam (Gr W0),Calls Tryz.prog 209 #[.int .i64 aq,.int .i64 bq] f.w fun e w''=>e=.returned (.int .i64 (cmpInt aq bq)) ∧ ∃ g:Fam (Gr W0),w''=g.w:=fun f=>(cmp_int aq bq f.w).mono fun e w'' ⟨h1,h2⟩=>⟨h1,f,h2⟩
 obtain ⟨p,hp⟩:∃ p,cmpInt ar br=p:=⟨_,rfl⟩
 obtain ⟨q,hq⟩:∃ q,cmpInt aq bq=q:=⟨_,rfl⟩
 rw [hp] at k1 ⊢
 rw [hq] at k2 ⊢
 have K1:=hide k1
 have K2:=hide k2
 have HG:=hide hG
 have HW0:=hide hW0
 clear hp hq k1 k2 hG b1 b2 hW0
 go_enter Tryz.func182,Tryz.ntmps182
 go_wp2_with fail
 rw [HW0.out]
 refine region_fam_tail (Gr W0) 10 (by kernel_rfl) (by kernel_rfl) ((Gr.refl _).drew) ?_
 simp only [List.take_succ_cons,List.take_zero,List.drop_succ_cons,List.drop_zero]
 repeat (go_big_quiet_step (first | (go_at_call_of 209 (Value.int .i64 ar); exact K1.out _) | (go_at_call_of 209 (Value.int .i64 aq); exact K2.out _)))
 refine wpQuiet_nil ?_
 intro _ hw'
 obtain ⟨fq,rfl⟩:=hw'
 obtain ⟨W1,hG1⟩:=fq
 try dsimp only
 clear x0 x1 y0 y1
 have o1:Blk (W1.alloc (.cells #[.int .i64 p,.int .i64 q] 3)) W1.heap.size [.int .i64 p,.int .i64 q] 3:=heap_alloc_new W1 _
 have hor:=or_two (W1.alloc (.cells #[.int .i64 p,.int .i64 q] 3)) W1.heap.size p q (o1.cell 0) (o1.cell 1)
 have HOR:=hide hor
 clear hor o1
 go_wp2_with fail
 refine HOR.out.mono ?_
 rintro e w2 ⟨rfl,rfl⟩
 go_wp2_with fail
 go_ret
 exact ⟨rfl,(HG.out.of hG1).of (Gr.alloc _ _)⟩
end Go.Proofs.YtiplgdkpnhamaaaGreatDoor
