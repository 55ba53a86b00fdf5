/- The texts U18, U19, U20, QM1, joined. -/
import Derived.Test.YtiplgdkpnhamaaaGreatDoorE33
import Derived.Test.YtiplgdkpnhamaaaGreatDoorE25
namespace Go.Proofs.YtiplgdkpnhamaaaGreatDoor
open Go.RowKit
def Vec.join (v o:Vec):Vec:=⟨max v.a o.a,max v.b o.b,max v.c o.c,max v.d o.d,max v.e o.e⟩
def Vec.joinTo (v o:Vec) (k:Nat):Vec:=⟨if 0 < k then max v.a o.a else v.a,if 1 < k then max v.b o.b else v.b,if 2 < k then max v.c o.c else v.c,if 3 < k then max v.d o.d else v.d,if 4 < k then max v.e o.e else v.e⟩
theorem joinTo_step (v o:Vec) {k:Nat} (hk:k < 5):(v.joinTo o k).cells[k]? = some (.int .i64 (v.get k)) ∧ (v.joinTo o k).cells.set k (.int .i64 (max (v.get k) (o.get k)))=(v.joinTo o (k + 1)).cells:=by
 have:k=0 ∨ k=1 ∨ k=2 ∨ k=3 ∨ k=4:=by omega
 rcases this with rfl | rfl | rfl | rfl | rfl <;> exact ⟨rfl,rfl⟩
set_option maxRecDepth 100000 in
set_option maxHeartbeats 4000000 in
theorem join_any (w:World) (v o:Vec):Calls Tryz.prog 118 #[v.val,o.val] w fun e w'=>e=.returned (v.join o).val ∧ Below w.heap.size w w':=by
 generalize hW0:((w.alloc (.cells #[.int .i64 v.a,.int .i64 v.b,.int .i64 v.c,.int .i64 v.d,.int .i64 v.e] 104)).alloc (.cells #[.int .i64 o.a,.int .i64 o.b,.int .i64 o.c,.int .i64 o.d,.int .i64 o.e] 104)).alloc (.cells #[.int .i64 0,.int .i64 0,.int .i64 0,.int .i64 0,.int .i64 0] 104)=W0
 have hB0:Below w.heap.size w W0:=by rw [← hW0]; exact (((Below.refl _ _).alloc (Nat.le_refl _) _).alloc (by simp) _).alloc (by simp; omega) _
 have b0:Blk W0 w.heap.size (v.joinTo o 0).cells 104:=by
  rw [← hW0]
  exact (Blk.alloc (Blk.alloc (heap_alloc_new w _) _) _)
 have b2:Blk W0 (w.heap.size + 1 + 1) [.int .i64 0,.int .i64 0,.int .i64 0,.int .i64 0,.int .i64 0] 104:=by
  rw [← hW0,show w.heap.size + 1 + 1=((w.alloc (.cells #[.int .i64 v.a,.int .i64 v.b,.int .i64 v.c,.int .i64 v.d,.int .i64 v.e] 104)).alloc (.cells #[.int .i64 o.a,.int .i64 o.b,.int .i64 o.c,.int .i64 o.d,.int .i64 o.e] 104)).heap.size by simp]
  exact heap_alloc_new _ _
 have HS:=hide (⟨hB0,b0,b2⟩:_ ∧ _ ∧ _)
 have HW0:=hide hW0
 clear hW0 hB0 b0 b2
 go_enter Tryz.func118,Tryz.ntmps118
 go_wp2_with fail
 rw [HW0.out]
 clear HW0
 go_loopw [5,6,8] (fun _ _ ii wr=>∃ k:Nat,k ≤ 5 ∧ ii=.int .i64 k ∧ Hid (Below w.heap.size w wr ∧ Blk wr w.heap.size (v.joinTo o k).cells 104 ∧ Blk wr (w.heap.size + 1 + 1) [.int .i64 0,.int .i64 0,.int .i64 0,.int .i64 0,.int .i64 0] 104)) (fun _ _ ii _=>5 - (intOf ii).toNat)
 case atStart=>exact ⟨0,Nat.zero_le _,rfl,HS.out⟩
 case round=>
  clear HS
  obtain ⟨k,hk,rfl,HR⟩:=hrel
  by_cases hlt:k < 5
  ·have hx:=idx5_at o k hlt
   have c0:wr.cell? ⟨w.heap.size,k,none⟩=some (.int .i64 (v.get k)):=by rw [HR.out.2.1.cell k]; exact (joinTo_step v o hlt).1
   have f0:=HR.out.2.1.frozen k
   have g1:(k:Int) < 5:=by omega
   have HN:Hid (Below w.heap.size w (wr.setCell ⟨w.heap.size,k,none⟩ (.int .i64 (max (v.get k) (o.get k)))) ∧ Blk (wr.setCell ⟨w.heap.size,k,none⟩ (.int .i64 (max (v.get k) (o.get k)))) w.heap.size (v.joinTo o (k + 1)).cells 104 ∧ Blk (wr.setCell ⟨w.heap.size,k,none⟩ (.int .i64 (max (v.get k) (o.get k)))) (w.heap.size + 1 + 1) [.int .i64 0,.int .i64 0,.int .i64 0,.int .i64 0,.int .i64 0] 104):=
    ⟨HR.out.1.setCell (p:=⟨w.heap.size,k,none⟩) (Nat.le_refl _) _,by rw [← (joinTo_step v o hlt).2]; exact HR.out.2.1.set k _,HR.out.2.2.other (by show w.heap.size + 1 + 1 ≠ w.heap.size; omega) _⟩
   generalize v.get k=vk at *
   generalize o.get k=ok at *
   go_wp2_with fail
   exact ⟨⟨k + 1,by omega,by go_num,HN.out⟩,by simp [intOf]; omega⟩
  ·have hk5:k=5:=by omega
   subst hk5
   have d0:wr.cell? ⟨w.heap.size,0,none⟩=some (.int .i64 (max v.a o.a)):=HR.out.2.1.cell 0
   have d1:wr.cell? ⟨w.heap.size,1,none⟩=some (.int .i64 (max v.b o.b)):=HR.out.2.1.cell 1
   have d2:wr.cell? ⟨w.heap.size,2,none⟩=some (.int .i64 (max v.c o.c)):=HR.out.2.1.cell 2
   have d3:wr.cell? ⟨w.heap.size,3,none⟩=some (.int .i64 (max v.d o.d)):=HR.out.2.1.cell 3
   have d4:wr.cell? ⟨w.heap.size,4,none⟩=some (.int .i64 (max v.e o.e)):=HR.out.2.1.cell 4
   have r0:wr.cell? ⟨w.heap.size + 1 + 1,0,none⟩=some (.int .i64 0):=HR.out.2.2.cell 0
   have r1:wr.cell? ⟨w.heap.size + 1 + 1,1,none⟩=some (.int .i64 0):=HR.out.2.2.cell 1
   have r2:wr.cell? ⟨w.heap.size + 1 + 1,2,none⟩=some (.int .i64 0):=HR.out.2.2.cell 2
   have r3:wr.cell? ⟨w.heap.size + 1 + 1,3,none⟩=some (.int .i64 0):=HR.out.2.2.cell 3
   have r4:wr.cell? ⟨w.heap.size + 1 + 1,4,none⟩=some (.int .i64 0):=HR.out.2.2.cell 4
   have q0:wr.frozen? ⟨w.heap.size + 1 + 1,0,none⟩=false:=HR.out.2.2.frozen 0
   have q1:wr.frozen? ⟨w.heap.size + 1 + 1,1,none⟩=false:=HR.out.2.2.frozen 1
   have q2:wr.frozen? ⟨w.heap.size + 1 + 1,2,none⟩=false:=HR.out.2.2.frozen 2
   have q3:wr.frozen? ⟨w.heap.size + 1 + 1,3,none⟩=false:=HR.out.2.2.frozen 3
   have q4:wr.frozen? ⟨w.heap.size + 1 + 1,4,none⟩=false:=HR.out.2.2.frozen 4
   go_wp2_with fail
   have hb5:=put5_blk (v.join o) HR.out.2.2
   have hT5:=put5_touch wr (w.heap.size + 1 + 1) (v.join o)
   unfold put5 at hb5 hT5
   simp only [Vec.join] at hb5 hT5
   generalize World.setCell _ _ _=W5 at *
   have s0:W5.cell? ⟨w.heap.size + 1 + 1,0,none⟩=some (.int .i64 (max v.a o.a)):=hb5.cell 0
   have s1:W5.cell? ⟨w.heap.size + 1 + 1,1,none⟩=some (.int .i64 (max v.b o.b)):=hb5.cell 1
   have s2:W5.cell? ⟨w.heap.size + 1 + 1,2,none⟩=some (.int .i64 (max v.c o.c)):=hb5.cell 2
   have s3:W5.cell? ⟨w.heap.size + 1 + 1,3,none⟩=some (.int .i64 (max v.d o.d)):=hb5.cell 3
   have s4:W5.cell? ⟨w.heap.size + 1 + 1,4,none⟩=some (.int .i64 (max v.e o.e)):=hb5.cell 4
   exact bodyPost_ret (v:=(v.join o).val) (by simp [results,Tryz.results118,go_sem,s0,s1,s2,s3,s4,Vec.join]) rfl ⟨rfl,below_tch HR.out.1 hT5 (by omega) HR.out.1.size⟩
def Vec.incl (v o:Vec):Bool:=decide (o.a ≤ v.a ∧ o.b ≤ v.b ∧ o.c ≤ v.c ∧ o.d ≤ v.d ∧ o.e ≤ v.e)
theorem incl_iff (v o:Vec):v.incl o=true ↔ ∀ k:Nat,k < 5 → o.get k ≤ v.get k:=by
 unfold Vec.incl
 rw [decide_eq_true_eq]
 constructor
 ·rintro ⟨h0,h1,h2,h3,h4⟩ k hk
  have:k=0 ∨ k=1 ∨ k=2 ∨ k=3 ∨ k=4:=by omega
  rcases this with rfl | rfl | rfl | rfl | rfl
  ·exact h0
  ·exact h1
  ·exact h2
  ·exact h3
  ·exact h4
 ·intro h
  exact ⟨h 0 (by omega),h 1 (by omega),h 2 (by omega),h 3 (by omega),h 4 (by omega)⟩
theorem vec_cell (v:Vec) {k:Nat} (hk:k < 5):v.cells[k]? = some (.int .i64 (v.get k)):=by
 have:k=0 ∨ k=1 ∨ k=2 ∨ k=3 ∨ k=4:=by omega
 rcases this with rfl | rfl | rfl | rfl | rfl <;> rfl
set_option maxRecDepth 100000 in
set_option maxHeartbeats 4000000 in
theorem includes_any (w:World) (v o:Vec):Calls Tryz.prog 130 #[v.val,o.val] w fun e w'=>e=.returned (.bool (v.incl o)) ∧ Below w.heap.size w w':=by
 generalize hW0:(w.alloc (.cells #[.int .i64 v.a,.int .i64 v.b,.int .i64 v.c,.int .i64 v.d,.int .i64 v.e] 104)).alloc (.cells #[.int .i64 o.a,.int .i64 o.b,.int .i64 o.c,.int .i64 o.d,.int .i64 o.e] 104)=W0
 have HB:Hid (Below w.heap.size w W0):=by rw [← hW0]; exact ((Below.refl _ _).alloc (Nat.le_refl _) _).alloc (by simp) _
 have b0:Blk W0 w.heap.size v.cells 104:=by rw [← hW0]; exact (Blk.alloc (heap_alloc_new w _) _)
 have HK:=hide b0
 have HW0:=hide hW0
 clear hW0 b0
 go_enter Tryz.func130,Tryz.ntmps130
 go_wp2_with fail
 rw [HW0.out]
 clear HW0
 go_loopw [5,6,8] (fun _ _ ii wr=>∃ k:Nat,k ≤ 5 ∧ ii=.int .i64 k ∧ wr=W0 ∧ Hid (∀ j:Nat,j < k → o.get j ≤ v.get j)) (fun _ _ ii _=>5 - (intOf ii).toNat)
 case atStart=>exact ⟨0,Nat.zero_le _,rfl,rfl,fun j hj=>by omega⟩
 case round=>
  obtain ⟨k,hk,rfl,rfl,HR⟩:=hrel
  by_cases hlt:k < 5
  ·have hx:=idx5_at o k hlt
   have c0:wr.cell? ⟨w.heap.size,k,none⟩=some (.int .i64 (v.get k)):=by rw [HK.out.cell k]; exact vec_cell v hlt
   have g1:(k:Int) < 5:=by omega
   by_cases hc:o.get k ≤ v.get k
   ·have HN:Hid (∀ j:Nat,j < k + 1 → o.get j ≤ v.get j):=fun j hj=>by
     by_cases e:j=k
     ·subst e; exact hc
     ·exact HR.out j (by omega)
    have g2:¬ v.get k < o.get k:=by omega
    clear hc
    generalize v.get k=vk at *
    generalize o.get k=ok at *
    go_wp2_with fail
    exact ⟨⟨k + 1,by omega,by go_num,trivial,HN.out⟩,by simp [intOf]; omega⟩
   ·have HN:Hid (v.incl o=false):=by
     show v.incl o=false
     rw [Bool.eq_false_iff]
     intro e
     exact hc ((incl_iff v o).1 e k hlt)
    have g2:v.get k < o.get k:=by omega
    clear hc
    generalize v.get k=vk at *
    generalize o.get k=ok at *
    go_wp2_with fail
    go_ret
    exact ⟨by rw [HN.out]; rfl,HB.out⟩
  ·have hk5:k=5:=by omega
   subst hk5
   have HN:Hid (v.incl o=true):=(incl_iff v o).2 HR.out
   go_wp2_with fail
   go_ret
   exact ⟨by rw [HN.out]; rfl,HB.out⟩
end Go.Proofs.YtiplgdkpnhamaaaGreatDoor
namespace Go.Proofs.YtiplgdkpnhamaaaGreatDoor
open Go.RowKit
def Vec.count (v:Vec):Int:=v.a + v.b + v.c + v.d + v.e
def Vec.small (v:Vec):Prop:=∀ k:Nat,k < 5 → 0 ≤ v.get k ∧ v.get k ≤ maxSeq
def Vec.countTo (v:Vec):Nat → Int
 | 0=>0
 | k + 1=>v.countTo k + v.get k
theorem countTo_le {v:Vec} (h:v.small):∀ k:Nat,k ≤ 5 → 0 ≤ v.countTo k ∧ v.countTo k ≤ k * 1844674407370955161
 | 0,_=>by simp [Vec.countTo]
 | k + 1,hk=>by
  have h1:=countTo_le h k (by omega)
  have h2:=h k (by omega)
  have h3:v.get k ≤ 1844674407370955161:=h2.2
  simp only [Vec.countTo]
  omega
theorem countTo_five (v:Vec):v.countTo 5=v.count:=by
 simp only [Vec.countTo,Vec.count,Vec.get,Vec.list,Int.toNat_natCast]
 simp
set_option maxRecDepth 100000 in
set_option maxHeartbeats 4000000 in
theorem count_any (w:World) (v:Vec) (hv:v.small):Calls Tryz.prog 127 #[v.val] w fun e w'=>e=.returned (.int .i64 v.count) ∧ Below w.heap.size w w':=by
 go_enter Tryz.func127,Tryz.ntmps127
 go_wp2_with fail
 generalize hW0:w.alloc (.cells #[.int .i64 v.a,.int .i64 v.b,.int .i64 v.c,.int .i64 v.d,.int .i64 v.e] 104)=W0
 have HB:Hid (Below w.heap.size w W0):=by rw [← hW0]; exact (Below.refl _ _).alloc (Nat.le_refl _) _
 clear hW0
 go_loopw [3,5,7] (fun ss _ ii wr=>∃ (k:Nat) (a:Int),k ≤ 5 ∧ ii=.int .i64 k ∧ ss=.int .i64 a ∧ wr=W0 ∧ Hid (a=v.countTo k)) (fun _ _ ii _=>5 - (intOf ii).toNat)
 case atStart=>exact ⟨0,0,Nat.zero_le _,rfl,rfl,rfl,rfl⟩
 case round=>
  obtain ⟨k,a,hk,rfl,rfl,rfl,HR⟩:=hrel
  by_cases hlt:k < 5
  ·have hx:=idx5_at v k hlt
   have hv1:=countTo_le hv k hk
   have hv2:=hv k hlt
   have HN:Hid (a + v.get k=v.countTo (k + 1)):=by
    show a + v.get k=v.countTo (k + 1)
    rw [HR.out]; rfl
   have g1:0 ≤ a + v.get k:=by rw [HR.out]; omega
   have g2:a + v.get k ≤ 9223372036854775807:=by
    have h3:v.get k ≤ 1844674407370955161:=hv2.2
    rw [HR.out]; omega
   clear hv1 hv2
   generalize v.get k=vk at *
   go_wp2_with fail
   exact ⟨⟨k + 1,_,by omega,by go_num,rfl,trivial,HN.out⟩,by simp [intOf]; omega⟩
  ·have hk5:k=5:=by omega
   subst hk5
   have HN:Hid (a=v.count):=by
    show a=v.count
    rw [HR.out,countTo_five]
   go_wp2_with fail
   go_ret
   exact ⟨by rw [HN.out]; rfl,HB.out⟩
abbrev txVal (rep seq:Int) (saw:Vec) (mv:Value):Value:=.agg #[.int .i64 rep,.int .i64 seq,.int .i64 saw.a,.int .i64 saw.b,.int .i64 saw.c,.int .i64 saw.d,.int .i64 saw.e,mv]
def canF (rep:Nat) (seq:Int) (saw vis:Vec):Bool:=decide (seq=vis.get rep + 1) && vis.incl saw
set_option maxRecDepth 100000 in
set_option maxHeartbeats 4000000 in
theorem can_follow (w:World) (rep:Nat) (seq:Int) (saw vis:Vec) (mv:Value) (hr:rep < 5) (hv:vis.get rep + 1 ≤ 9223372036854775807) (hv0:0 ≤ vis.get rep) :
  Calls Tryz.prog 82 #[txVal rep seq saw mv,vis.val] w fun e w'=>e=.returned (.bool (canF rep seq saw vis)) ∧ Below w.heap.size w w':=by
 generalize hW0:(w.alloc (.cells #[.int .i64 rep,.int .i64 seq,.int .i64 saw.a,.int .i64 saw.b,.int .i64 saw.c,.int .i64 saw.d,.int .i64 saw.e,mv] 139)).alloc (.cells #[.int .i64 vis.a,.int .i64 vis.b,.int .i64 vis.c,.int .i64 vis.d,.int .i64 vis.e] 104)=W0
 have HB:Hid (Below w.heap.size w W0):=by rw [← hW0]; exact ((Below.refl _ _).alloc (Nat.le_refl _) _).alloc (by simp) _
 have b0:Blk W0 w.heap.size [.int .i64 rep,.int .i64 seq,.int .i64 saw.a,.int .i64 saw.b,.int .i64 saw.c,.int .i64 saw.d,.int .i64 saw.e,mv] 139:=by rw [← hW0]; exact (Blk.alloc (heap_alloc_new w _) _)
 have b1:Blk W0 (w.heap.size + 1) vis.cells 104:=by
  rw [← hW0,show w.heap.size + 1=(w.alloc (.cells #[.int .i64 rep,.int .i64 seq,.int .i64 saw.a,.int .i64 saw.b,.int .i64 saw.c,.int .i64 saw.d,.int .i64 saw.e,mv] 139)).heap.size by simp]
  exact heap_alloc_new _ _
 have c0:∀ f:Fam (Bel W0),f.w.cell? ⟨w.heap.size,0,none⟩=some (.int .i64 rep):=Bel.cell (b0.cell 0)
 have c1:∀ f:Fam (Bel W0),f.w.cell? ⟨w.heap.size,1,none⟩=some (.int .i64 seq):=Bel.cell (b0.cell 1)
 have c2:∀ f:Fam (Bel W0),f.w.cell? ⟨w.heap.size,2,none⟩=some (.int .i64 saw.a):=Bel.cell (b0.cell 2)
 have c3:∀ f:Fam (Bel W0),f.w.cell? ⟨w.heap.size,3,none⟩=some (.int .i64 saw.b):=Bel.cell (b0.cell 3)
 have c4:∀ f:Fam (Bel W0),f.w.cell? ⟨w.heap.size,4,none⟩=some (.int .i64 saw.c):=Bel.cell (b0.cell 4)
 have c5:∀ f:Fam (Bel W0),f.w.cell? ⟨w.heap.size,5,none⟩=some (.int .i64 saw.d):=Bel.cell (b0.cell 5)
 have c6:∀ f:Fam (Bel W0),f.w.cell? ⟨w.heap.size,6,none⟩=some (.int .i64 saw.e):=Bel.cell (b0.cell 6)
 have d0:∀ f:Fam (Bel W0),f.w.cell? ⟨w.heap.size + 1,0,none⟩=some (.int .i64 vis.a):=Bel.cell (b1.cell 0)
 have d1:∀ f:Fam (Bel W0),f.w.cell? ⟨w.heap.size + 1,1,none⟩=some (.int .i64 vis.b):=Bel.cell (b1.cell 1)
 have d2:∀ f:Fam (Bel W0),f.w.cell? ⟨w.heap.size + 1,2,none⟩=some (.int .i64 vis.c):=Bel.cell (b1.cell 2)
 have d3:∀ f:Fam (Bel W0),f.w.cell? ⟨w.heap.size + 1,3,none⟩=some (.int .i64 vis.d):=Bel.cell (b1.cell 3)
 have d4:∀ f:Fam (Bel W0),f.w.cell? ⟨w.heap.size + 1,4,none⟩=some (.int .i64 vis.e):=Bel.cell (b1.cell 4)
 have dr:∀ f:Fam (Bel W0),f.w.cell? ⟨w.heap.size + 1,rep,none⟩=some (.int .i64 (vis.get rep)):=Bel.cell (by rw [b1.cell rep]; exact vec_cell vis hr)
 have hic:∀ f:Fam (Bel W0),Calls Tryz.prog 130 #[vis.val,saw.val] f.w fun e w''=>e=.returned (.bool (vis.incl saw)) ∧ ∃ g:Fam (Bel W0),w''=g.w:=fun f=>Bel.call f (includes_any f.w vis saw)
 have HC:=hide hic
 have HW0:=hide hW0
 have g1:(rep:Int) < 5:=by omega
 clear hW0 b0 b1 hic
 by_cases he:seq=vis.get rep + 1
 ·have hd:(seq == vis.get rep + 1)=true:=by simpa using he
  have HF:Hid (canF rep seq saw vis=vis.incl saw):=by show canF rep seq saw vis=_; simp [canF,he]
  clear he
  generalize vis.get rep=vr at *
  generalize vis.incl saw=bb at *
  go_enter Tryz.func82,Tryz.ntmps82
  go_wp2_with fail
  rw [HW0.out]
  refine region_fam (Bel W0) (by kernel_rfl) (by kernel_rfl) (Below.refl _ _).drew ?_
  repeat (go_big_quiet_step (first | (go_at_call 130; exact HC.out _)))
  refine wpQuiet_nil ?_
  intro _ hw'
  obtain ⟨fq,rfl⟩:=hw'
  have HB2:Hid (Below w.heap.size w fq.w):=HB.out.trans (fq.ok.mono HB.out.size)
  generalize fq.w=w1 at *
  go_wp2_with fail
  go_ret
  exact ⟨by rw [HF.out]; rfl,HB2.out⟩
 ·have hd:(seq == vis.get rep + 1)=false:=by simpa using he
  have HF:Hid (canF rep seq saw vis=false):=by show canF rep seq saw vis=_; simp [canF,he]
  clear he
  generalize vis.get rep=vr at *
  go_enter Tryz.func82,Tryz.ntmps82
  go_wp2_with fail
  rw [HW0.out]
  refine region_fam (Bel W0) (by kernel_rfl) (by kernel_rfl) (Below.refl _ _).drew ?_
  repeat (go_big_quiet_step (fail))
  refine wpQuiet_nil ?_
  intro _ hw'
  obtain ⟨fq,rfl⟩:=hw'
  have HB2:Hid (Below w.heap.size w fq.w):=HB.out.trans (fq.ok.mono HB.out.size)
  generalize fq.w=w1 at *
  go_wp2_with fail
  go_ret
  exact ⟨by rw [HF.out]; rfl,HB2.out⟩
end Go.Proofs.YtiplgdkpnhamaaaGreatDoor
namespace Go.Proofs.YtiplgdkpnhamaaaGreatDoor
open Go.RowKit
def wrT (p:Place) (x:Wr):List UInt8:=bytesT p.key ++ (if x.kind=0 then numT x.amount else if x.kind=1 then bytesT x.value else if x.kind=2 then bytesT p.el ++ [43] else bytesT p.el ++ [45])
theorem bytes_len {s:ByteArray} (h:s.size ≤ 1000):(bytesT s).length ≤ 1022:=by
 have h1:=num_len (k:=s.size) (by omega) (by omega)
 have h2:s.data.toList.length=s.size:=by simp
 simp only [bytesT,List.length_append]; omega
theorem WrAt.later {B:Nat} {w0 w w':World} {wb n:Nat} {xs:List UInt8} (h:WrAt B w0 wb n xs w) (hb:Below w.heap.size w w'):WrAt B w0 wb n xs w':=
 ⟨h.wr.later hb,h.bel.trans (hb.mono (by have:=h.wr.hB; omega)),fun k o a b c=>by
  have h1:=h.kp k o a b c
  rw [hb.block k (Array.getElem?_eq_some_iff.1 h1).1]; exact h1⟩
set_option maxRecDepth 100000 in
set_option maxHeartbeats 8000000 in
theorem wr_write0 (B:Nat) (w:World) (wb n:Nat) (xs:List UInt8) (p:Place) (am:Int) (va:ByteArray) (h:WrIn B w wb n xs) (hl:xs.length ≤ 80000000000) (hk:p.key.size ≤ 1000) (h0:-9223372036854775808 ≤ am) (h1:am ≤ 9223372036854775807) (htab:PowTab B w) :
  Calls Tryz.prog 166 #[bptr wb,.agg #[.string p.key,.string p.el],.agg #[.int .i64 0,.int .i64 am,.string va]] w fun e w'=>e=.returned (.tuple #[]) ∧ WrIn B w' wb n (xs ++ wrT p ⟨0,am,va⟩) ∧ Below B w w' ∧ Keeps wb w w':=by
 have hwb:=h.hB
 generalize hW0:(w.alloc (.cells #[.string p.key,.string p.el] 129)).alloc (.cells #[.int .i64 0,.int .i64 am,.string va] 132)=W0
 have b0:Blk W0 w.heap.size [.string p.key,.string p.el] 129:=by rw [← hW0]; exact (Blk.alloc (heap_alloc_new w _) _)
 have b1:Blk W0 (w.heap.size + 1) [.int .i64 0,.int .i64 am,.string va] 132:=by
  rw [← hW0,show w.heap.size + 1=(w.alloc (.cells #[.string p.key,.string p.el] 129)).heap.size by simp]
  exact heap_alloc_new _ _
 have H0:Hid (WrAt B w wb n xs W0):=by rw [← hW0]; exact (WrAt.start h _).later ((Below.refl _ _).alloc (Nat.le_refl _) _)
 have hn0:w.heap.size ≠ wb:=by omega
 have hn1:w.heap.size + 1 ≠ wb:=by omega
 have c0:W0.cell? ⟨w.heap.size,0,none⟩=some (.string p.key):=b0.cell 0
 have hz:w.heap.size < W0.heap.size:=b0.lt
 have lk:=bytes_len hk
 have HN:=hide (wr_bytes B W0 wb n xs p.key H0.out.wr (by omega) (by omega) (htab.on H0.out.bel))
 have HK:=hide (⟨b0,b1⟩:_ ∧ _)
 have HW0:=hide hW0
 clear h hW0 b0 b1
 go_enter Tryz.func166,Tryz.ntmps166
 go_upto_region 1 with (fail)
 rw [HW0.out]
 clear HW0
 go_wp2_with (go_at_call 204; refine HN.out.mono ?_; rintro e w2 ⟨rfl,hp⟩; refine Hid.out ?_)
 refine Lib.hid ?_
 have H2:=hide (H0.out.step hp)
 have b0:=hp.2.2.blk HK.out.1 hn0 (by decide)
 have b1:=hp.2.2.blk HK.out.2 hn1 (by decide)
 have HK2:=hide (⟨b0,b1⟩:_ ∧ _)
 have e0:w2.cell? ⟨w.heap.size,1,none⟩=some (.string p.el):=b0.cell 1
 have d0:w2.cell? ⟨w.heap.size + 1,0,none⟩=some (.int .i64 0):=b1.cell 0
 have d1:w2.cell? ⟨w.heap.size + 1,1,none⟩=some (.int .i64 am):=b1.cell 1
 have d2:w2.cell? ⟨w.heap.size + 1,2,none⟩=some (.string va):=b1.cell 2
 have hll:(xs ++ bytesT p.key).length ≤ 85000000000:=by rw [List.length_append]; omega
 clear hp HN H0 HK c0 b0 b1
 have HN:=hide (wr_number B w2 wb n _ am H2.out.wr (by omega) h0 h1 (htab.on H2.out.bel))
 go_wp2_with (go_at_call 157; refine HN.out.mono ?_; rintro e w3 ⟨rfl,hp⟩; have H3:=hide (H2.out.step hp); clear hp)
 go_end0
 exact ⟨rfl,by simpa [wrT] using H3.out.wr,H3.out.bel,H3.out.kp⟩
set_option maxRecDepth 100000 in
set_option maxHeartbeats 8000000 in
theorem wr_write1 (B:Nat) (w:World) (wb n:Nat) (xs:List UInt8) (p:Place) (am:Int) (va:ByteArray) (h:WrIn B w wb n xs) (hl:xs.length ≤ 80000000000) (hk:p.key.size ≤ 1000) (hv:va.size ≤ 1000) (htab:PowTab B w) :
  Calls Tryz.prog 166 #[bptr wb,.agg #[.string p.key,.string p.el],.agg #[.int .i64 1,.int .i64 am,.string va]] w fun e w'=>e=.returned (.tuple #[]) ∧ WrIn B w' wb n (xs ++ wrT p ⟨1,am,va⟩) ∧ Below B w w' ∧ Keeps wb w w':=by
 have hwb:=h.hB
 generalize hW0:(w.alloc (.cells #[.string p.key,.string p.el] 129)).alloc (.cells #[.int .i64 1,.int .i64 am,.string va] 132)=W0
 have b0:Blk W0 w.heap.size [.string p.key,.string p.el] 129:=by rw [← hW0]; exact (Blk.alloc (heap_alloc_new w _) _)
 have b1:Blk W0 (w.heap.size + 1) [.int .i64 1,.int .i64 am,.string va] 132:=by
  rw [← hW0,show w.heap.size + 1=(w.alloc (.cells #[.string p.key,.string p.el] 129)).heap.size by simp]
  exact heap_alloc_new _ _
 have H0:Hid (WrAt B w wb n xs W0):=by rw [← hW0]; exact (WrAt.start h _).later ((Below.refl _ _).alloc (Nat.le_refl _) _)
 have hn0:w.heap.size ≠ wb:=by omega
 have hn1:w.heap.size + 1 ≠ wb:=by omega
 have c0:W0.cell? ⟨w.heap.size,0,none⟩=some (.string p.key):=b0.cell 0
 have hz:w.heap.size < W0.heap.size:=b0.lt
 have lk:=bytes_len hk
 have HN:=hide (wr_bytes B W0 wb n xs p.key H0.out.wr (by omega) (by omega) (htab.on H0.out.bel))
 have HK:=hide (⟨b0,b1⟩:_ ∧ _)
 have HW0:=hide hW0
 clear h hW0 b0 b1
 go_enter Tryz.func166,Tryz.ntmps166
 go_upto_region 1 with (fail)
 rw [HW0.out]
 clear HW0
 go_wp2_with (go_at_call 204; refine HN.out.mono ?_; rintro e w2 ⟨rfl,hp⟩; refine Hid.out ?_)
 refine Lib.hid ?_
 have H2:=hide (H0.out.step hp)
 have b0:=hp.2.2.blk HK.out.1 hn0 (by decide)
 have b1:=hp.2.2.blk HK.out.2 hn1 (by decide)
 have HK2:=hide (⟨b0,b1⟩:_ ∧ _)
 have e0:w2.cell? ⟨w.heap.size,1,none⟩=some (.string p.el):=b0.cell 1
 have d0:w2.cell? ⟨w.heap.size + 1,0,none⟩=some (.int .i64 1):=b1.cell 0
 have d1:w2.cell? ⟨w.heap.size + 1,1,none⟩=some (.int .i64 am):=b1.cell 1
 have d2:w2.cell? ⟨w.heap.size + 1,2,none⟩=some (.string va):=b1.cell 2
 have hll:(xs ++ bytesT p.key).length ≤ 85000000000:=by rw [List.length_append]; omega
 clear hp HN H0 HK c0 b0 b1
 have HN:=hide (wr_bytes B w2 wb n _ va H2.out.wr (by omega) (by omega) (htab.on H2.out.bel))
 go_wp2_with (go_at_call 204; refine HN.out.mono ?_; rintro e w3 ⟨rfl,hp⟩; have H3:=hide (H2.out.step hp); clear hp)
 go_end0
 exact ⟨rfl,by simpa [wrT] using H3.out.wr,H3.out.bel,H3.out.kp⟩
set_option maxRecDepth 100000 in
set_option maxHeartbeats 8000000 in
theorem wr_write2 (B:Nat) (w:World) (wb n:Nat) (xs:List UInt8) (p:Place) (am:Int) (va:ByteArray) (h:WrIn B w wb n xs) (hl:xs.length ≤ 80000000000) (hk:p.key.size ≤ 1000) (he:p.el.size ≤ 1000) (htab:PowTab B w) :
  Calls Tryz.prog 166 #[bptr wb,.agg #[.string p.key,.string p.el],.agg #[.int .i64 2,.int .i64 am,.string va]] w fun e w'=>e=.returned (.tuple #[]) ∧ WrIn B w' wb n (xs ++ wrT p ⟨2,am,va⟩) ∧ Below B w w' ∧ Keeps wb w w':=by
 have hwb:=h.hB
 generalize hW0:(w.alloc (.cells #[.string p.key,.string p.el] 129)).alloc (.cells #[.int .i64 2,.int .i64 am,.string va] 132)=W0
 have b0:Blk W0 w.heap.size [.string p.key,.string p.el] 129:=by rw [← hW0]; exact (Blk.alloc (heap_alloc_new w _) _)
 have b1:Blk W0 (w.heap.size + 1) [.int .i64 2,.int .i64 am,.string va] 132:=by
  rw [← hW0,show w.heap.size + 1=(w.alloc (.cells #[.string p.key,.string p.el] 129)).heap.size by simp]
  exact heap_alloc_new _ _
 have H0:Hid (WrAt B w wb n xs W0):=by rw [← hW0]; exact (WrAt.start h _).later ((Below.refl _ _).alloc (Nat.le_refl _) _)
 have hn0:w.heap.size ≠ wb:=by omega
 have hn1:w.heap.size + 1 ≠ wb:=by omega
 have c0:W0.cell? ⟨w.heap.size,0,none⟩=some (.string p.key):=b0.cell 0
 have hz:w.heap.size < W0.heap.size:=b0.lt
 have lk:=bytes_len hk
 have HN:=hide (wr_bytes B W0 wb n xs p.key H0.out.wr (by omega) (by omega) (htab.on H0.out.bel))
 have HK:=hide (⟨b0,b1⟩:_ ∧ _)
 have HW0:=hide hW0
 clear h hW0 b0 b1
 go_enter Tryz.func166,Tryz.ntmps166
 go_upto_region 1 with (fail)
 rw [HW0.out]
 clear HW0
 go_wp2_with (go_at_call 204; refine HN.out.mono ?_; rintro e w2 ⟨rfl,hp⟩; refine Hid.out ?_)
 refine Lib.hid ?_
 have H2:=hide (H0.out.step hp)
 have b0:=hp.2.2.blk HK.out.1 hn0 (by decide)
 have b1:=hp.2.2.blk HK.out.2 hn1 (by decide)
 have HK2:=hide (⟨b0,b1⟩:_ ∧ _)
 have e0:w2.cell? ⟨w.heap.size,1,none⟩=some (.string p.el):=b0.cell 1
 have d0:w2.cell? ⟨w.heap.size + 1,0,none⟩=some (.int .i64 2):=b1.cell 0
 have d1:w2.cell? ⟨w.heap.size + 1,1,none⟩=some (.int .i64 am):=b1.cell 1
 have d2:w2.cell? ⟨w.heap.size + 1,2,none⟩=some (.string va):=b1.cell 2
 have hll:(xs ++ bytesT p.key).length ≤ 85000000000:=by rw [List.length_append]; omega
 clear hp HN H0 HK c0 b0 b1
 have HN:=hide (wr_bytes B w2 wb n _ p.el H2.out.wr (by omega) (by omega) (htab.on H2.out.bel))
 go_wp2_with (go_at_call 204; refine HN.out.mono ?_; rintro e w3 ⟨rfl,hp⟩; refine Hid.out ?_)
 refine Lib.hid ?_
 have H3:=hide (H2.out.step hp)
 have le:=bytes_len he
 have hlt:=wr_letter B w3 wb n _ 43 H3.out.wr (by simp only [List.length_append] at hll ⊢; omega)
 rw [show ((43:UInt8).toNat:Int)=43 from rfl] at hlt
 have HL:=hide hlt
 clear hp HN H2 hlt
 go_wp2_with (go_at_call 156; refine HL.out.mono ?_; rintro e w4 ⟨rfl,hp⟩; have H4:=hide (H3.out.step hp); clear hp)
 go_end0
 exact ⟨rfl,by simpa [wrT] using H4.out.wr,H4.out.bel,H4.out.kp⟩
set_option maxRecDepth 100000 in
set_option maxHeartbeats 8000000 in
theorem wr_write3 (B:Nat) (w:World) (wb n:Nat) (xs:List UInt8) (p:Place) (am:Int) (va:ByteArray) (h:WrIn B w wb n xs) (hl:xs.length ≤ 80000000000) (hk:p.key.size ≤ 1000) (he:p.el.size ≤ 1000) (htab:PowTab B w) :
  Calls Tryz.prog 166 #[bptr wb,.agg #[.string p.key,.string p.el],.agg #[.int .i64 3,.int .i64 am,.string va]] w fun e w'=>e=.returned (.tuple #[]) ∧ WrIn B w' wb n (xs ++ wrT p ⟨3,am,va⟩) ∧ Below B w w' ∧ Keeps wb w w':=by
 have hwb:=h.hB
 generalize hW0:(w.alloc (.cells #[.string p.key,.string p.el] 129)).alloc (.cells #[.int .i64 3,.int .i64 am,.string va] 132)=W0
 have b0:Blk W0 w.heap.size [.string p.key,.string p.el] 129:=by rw [← hW0]; exact (Blk.alloc (heap_alloc_new w _) _)
 have b1:Blk W0 (w.heap.size + 1) [.int .i64 3,.int .i64 am,.string va] 132:=by
  rw [← hW0,show w.heap.size + 1=(w.alloc (.cells #[.string p.key,.string p.el] 129)).heap.size by simp]
  exact heap_alloc_new _ _
 have H0:Hid (WrAt B w wb n xs W0):=by rw [← hW0]; exact (WrAt.start h _).later ((Below.refl _ _).alloc (Nat.le_refl _) _)
 have hn0:w.heap.size ≠ wb:=by omega
 have hn1:w.heap.size + 1 ≠ wb:=by omega
 have c0:W0.cell? ⟨w.heap.size,0,none⟩=some (.string p.key):=b0.cell 0
 have hz:w.heap.size < W0.heap.size:=b0.lt
 have lk:=bytes_len hk
 have HN:=hide (wr_bytes B W0 wb n xs p.key H0.out.wr (by omega) (by omega) (htab.on H0.out.bel))
 have HK:=hide (⟨b0,b1⟩:_ ∧ _)
 have HW0:=hide hW0
 clear h hW0 b0 b1
 go_enter Tryz.func166,Tryz.ntmps166
 go_upto_region 1 with (fail)
 rw [HW0.out]
 clear HW0
 go_wp2_with (go_at_call 204; refine HN.out.mono ?_; rintro e w2 ⟨rfl,hp⟩; refine Hid.out ?_)
 refine Lib.hid ?_
 have H2:=hide (H0.out.step hp)
 have b0:=hp.2.2.blk HK.out.1 hn0 (by decide)
 have b1:=hp.2.2.blk HK.out.2 hn1 (by decide)
 have HK2:=hide (⟨b0,b1⟩:_ ∧ _)
 have e0:w2.cell? ⟨w.heap.size,1,none⟩=some (.string p.el):=b0.cell 1
 have d0:w2.cell? ⟨w.heap.size + 1,0,none⟩=some (.int .i64 3):=b1.cell 0
 have d1:w2.cell? ⟨w.heap.size + 1,1,none⟩=some (.int .i64 am):=b1.cell 1
 have d2:w2.cell? ⟨w.heap.size + 1,2,none⟩=some (.string va):=b1.cell 2
 have hll:(xs ++ bytesT p.key).length ≤ 85000000000:=by rw [List.length_append]; omega
 clear hp HN H0 HK c0 b0 b1
 have HN:=hide (wr_bytes B w2 wb n _ p.el H2.out.wr (by omega) (by omega) (htab.on H2.out.bel))
 go_wp2_with (go_at_call 204; refine HN.out.mono ?_; rintro e w3 ⟨rfl,hp⟩; refine Hid.out ?_)
 refine Lib.hid ?_
 have H3:=hide (H2.out.step hp)
 have le:=bytes_len he
 have hlt:=wr_letter B w3 wb n _ 45 H3.out.wr (by simp only [List.length_append] at hll ⊢; omega)
 rw [show ((45:UInt8).toNat:Int)=45 from rfl] at hlt
 have HL:=hide hlt
 clear hp HN H2 hlt
 go_wp2_with (go_at_call 156; refine HL.out.mono ?_; rintro e w4 ⟨rfl,hp⟩; have H4:=hide (H3.out.step hp); clear hp)
 go_end0
 exact ⟨rfl,by simpa [wrT] using H4.out.wr,H4.out.bel,H4.out.kp⟩
theorem wr_write (B:Nat) (w:World) (wb n:Nat) (xs:List UInt8) (p:Place) (x:Wr) (h:WrIn B w wb n xs) (hl:xs.length ≤ 80000000000) (hkd:x.kind=0 ∨ x.kind=1 ∨ x.kind=2 ∨ x.kind=3) (hk:p.key.size ≤ 1000) (he:p.el.size ≤ 1000) (hv:x.value.size ≤ 1000) (h0:-9223372036854775808 ≤ x.amount) (h1:x.amount ≤ 9223372036854775807) (htab:PowTab B w) :
  Calls Tryz.prog 166 #[bptr wb,p.val,x.val] w fun e w'=>e=.returned (.tuple #[]) ∧ WrIn B w' wb n (xs ++ wrT p x) ∧ Below B w w' ∧ Keeps wb w w':=by
 obtain ⟨xk,am,va⟩:=x
 rcases hkd with rfl | rfl | rfl | rfl
 ·exact wr_write0 B w wb n xs p am va h hl hk h0 h1 htab
 ·exact wr_write1 B w wb n xs p am va h hl hk hv htab
 ·exact wr_write2 B w wb n xs p am va h hl hk he htab
 ·exact wr_write3 B w wb n xs p am va h hl hk he htab
end Go.Proofs.YtiplgdkpnhamaaaGreatDoor
namespace Go.Proofs.YtiplgdkpnhamaaaGreatDoor
open Go.RowKit
def Vec.meet (v o:Vec):Vec:=⟨min v.a o.a,min v.b o.b,min v.c o.c,min v.d o.d,min v.e o.e⟩
def Vec.meetTo (v o:Vec) (k:Nat):Vec:=⟨if 0 < k then min v.a o.a else v.a,if 1 < k then min v.b o.b else v.b,if 2 < k then min v.c o.c else v.c,if 3 < k then min v.d o.d else v.d,if 4 < k then min v.e o.e else v.e⟩
theorem meetTo_step (v o:Vec) {k:Nat} (hk:k < 5):(v.meetTo o k).cells[k]? = some (.int .i64 (v.get k)) ∧ (v.meetTo o k).cells.set k (.int .i64 (min (v.get k) (o.get k)))=(v.meetTo o (k + 1)).cells:=by
 have:k=0 ∨ k=1 ∨ k=2 ∨ k=3 ∨ k=4:=by omega
 rcases this with rfl | rfl | rfl | rfl | rfl <;> exact ⟨rfl,rfl⟩
set_option maxRecDepth 100000 in
set_option maxHeartbeats 4000000 in
theorem meet_any (w:World) (v o:Vec):Calls Tryz.prog 131 #[v.val,o.val] w fun e w'=>e=.returned (v.meet o).val ∧ Below w.heap.size w w':=by
 generalize hW0:((w.alloc (.cells #[.int .i64 v.a,.int .i64 v.b,.int .i64 v.c,.int .i64 v.d,.int .i64 v.e] 104)).alloc (.cells #[.int .i64 o.a,.int .i64 o.b,.int .i64 o.c,.int .i64 o.d,.int .i64 o.e] 104)).alloc (.cells #[.int .i64 0,.int .i64 0,.int .i64 0,.int .i64 0,.int .i64 0] 104)=W0
 have hB0:Below w.heap.size w W0:=by rw [← hW0]; exact (((Below.refl _ _).alloc (Nat.le_refl _) _).alloc (by simp) _).alloc (by simp; omega) _
 have b0:Blk W0 w.heap.size (v.meetTo o 0).cells 104:=by
  rw [← hW0]
  exact (Blk.alloc (Blk.alloc (heap_alloc_new w _) _) _)
 have b2:Blk W0 (w.heap.size + 1 + 1) [.int .i64 0,.int .i64 0,.int .i64 0,.int .i64 0,.int .i64 0] 104:=by
  rw [← hW0,show w.heap.size + 1 + 1=((w.alloc (.cells #[.int .i64 v.a,.int .i64 v.b,.int .i64 v.c,.int .i64 v.d,.int .i64 v.e] 104)).alloc (.cells #[.int .i64 o.a,.int .i64 o.b,.int .i64 o.c,.int .i64 o.d,.int .i64 o.e] 104)).heap.size by simp]
  exact heap_alloc_new _ _
 have HS:=hide (⟨hB0,b0,b2⟩:_ ∧ _ ∧ _)
 have HW0:=hide hW0
 clear hW0 hB0 b0 b2
 go_enter Tryz.func131,Tryz.ntmps131
 go_wp2_with fail
 rw [HW0.out]
 clear HW0
 go_loopw [5,6,8] (fun _ _ ii wr=>∃ k:Nat,k ≤ 5 ∧ ii=.int .i64 k ∧ Hid (Below w.heap.size w wr ∧ Blk wr w.heap.size (v.meetTo o k).cells 104 ∧ Blk wr (w.heap.size + 1 + 1) [.int .i64 0,.int .i64 0,.int .i64 0,.int .i64 0,.int .i64 0] 104)) (fun _ _ ii _=>5 - (intOf ii).toNat)
 case atStart=>exact ⟨0,Nat.zero_le _,rfl,HS.out⟩
 case round=>
  clear HS
  obtain ⟨k,hk,rfl,HR⟩:=hrel
  by_cases hlt:k < 5
  ·have hx:=idx5_at o k hlt
   have c0:wr.cell? ⟨w.heap.size,k,none⟩=some (.int .i64 (v.get k)):=by rw [HR.out.2.1.cell k]; exact (meetTo_step v o hlt).1
   have f0:=HR.out.2.1.frozen k
   have g1:(k:Int) < 5:=by omega
   have HN:Hid (Below w.heap.size w (wr.setCell ⟨w.heap.size,k,none⟩ (.int .i64 (min (v.get k) (o.get k)))) ∧ Blk (wr.setCell ⟨w.heap.size,k,none⟩ (.int .i64 (min (v.get k) (o.get k)))) w.heap.size (v.meetTo o (k + 1)).cells 104 ∧ Blk (wr.setCell ⟨w.heap.size,k,none⟩ (.int .i64 (min (v.get k) (o.get k)))) (w.heap.size + 1 + 1) [.int .i64 0,.int .i64 0,.int .i64 0,.int .i64 0,.int .i64 0] 104):=
    ⟨HR.out.1.setCell (p:=⟨w.heap.size,k,none⟩) (Nat.le_refl _) _,by rw [← (meetTo_step v o hlt).2]; exact HR.out.2.1.set k _,HR.out.2.2.other (by show w.heap.size + 1 + 1 ≠ w.heap.size; omega) _⟩
   generalize v.get k=vk at *
   generalize o.get k=ok at *
   go_wp2_with fail
   exact ⟨⟨k + 1,by omega,by go_num,HN.out⟩,by simp [intOf]; omega⟩
  ·have hk5:k=5:=by omega
   subst hk5
   have d0:wr.cell? ⟨w.heap.size,0,none⟩=some (.int .i64 (min v.a o.a)):=HR.out.2.1.cell 0
   have d1:wr.cell? ⟨w.heap.size,1,none⟩=some (.int .i64 (min v.b o.b)):=HR.out.2.1.cell 1
   have d2:wr.cell? ⟨w.heap.size,2,none⟩=some (.int .i64 (min v.c o.c)):=HR.out.2.1.cell 2
   have d3:wr.cell? ⟨w.heap.size,3,none⟩=some (.int .i64 (min v.d o.d)):=HR.out.2.1.cell 3
   have d4:wr.cell? ⟨w.heap.size,4,none⟩=some (.int .i64 (min v.e o.e)):=HR.out.2.1.cell 4
   have r0:wr.cell? ⟨w.heap.size + 1 + 1,0,none⟩=some (.int .i64 0):=HR.out.2.2.cell 0
   have r1:wr.cell? ⟨w.heap.size + 1 + 1,1,none⟩=some (.int .i64 0):=HR.out.2.2.cell 1
   have r2:wr.cell? ⟨w.heap.size + 1 + 1,2,none⟩=some (.int .i64 0):=HR.out.2.2.cell 2
   have r3:wr.cell? ⟨w.heap.size + 1 + 1,3,none⟩=some (.int .i64 0):=HR.out.2.2.cell 3
   have r4:wr.cell? ⟨w.heap.size + 1 + 1,4,none⟩=some (.int .i64 0):=HR.out.2.2.cell 4
   have q0:wr.frozen? ⟨w.heap.size + 1 + 1,0,none⟩=false:=HR.out.2.2.frozen 0
   have q1:wr.frozen? ⟨w.heap.size + 1 + 1,1,none⟩=false:=HR.out.2.2.frozen 1
   have q2:wr.frozen? ⟨w.heap.size + 1 + 1,2,none⟩=false:=HR.out.2.2.frozen 2
   have q3:wr.frozen? ⟨w.heap.size + 1 + 1,3,none⟩=false:=HR.out.2.2.frozen 3
   have q4:wr.frozen? ⟨w.heap.size + 1 + 1,4,none⟩=false:=HR.out.2.2.frozen 4
   go_wp2_with fail
   have hb5:=put5_blk (v.meet o) HR.out.2.2
   have hT5:=put5_touch wr (w.heap.size + 1 + 1) (v.meet o)
   unfold put5 at hb5 hT5
   simp only [Vec.meet] at hb5 hT5
   generalize World.setCell _ _ _=W5 at *
   have s0:W5.cell? ⟨w.heap.size + 1 + 1,0,none⟩=some (.int .i64 (min v.a o.a)):=hb5.cell 0
   have s1:W5.cell? ⟨w.heap.size + 1 + 1,1,none⟩=some (.int .i64 (min v.b o.b)):=hb5.cell 1
   have s2:W5.cell? ⟨w.heap.size + 1 + 1,2,none⟩=some (.int .i64 (min v.c o.c)):=hb5.cell 2
   have s3:W5.cell? ⟨w.heap.size + 1 + 1,3,none⟩=some (.int .i64 (min v.d o.d)):=hb5.cell 3
   have s4:W5.cell? ⟨w.heap.size + 1 + 1,4,none⟩=some (.int .i64 (min v.e o.e)):=hb5.cell 4
   exact bodyPost_ret (v:=(v.meet o).val) (by simp [results,Tryz.results131,go_sem,s0,s1,s2,s3,s4,Vec.meet]) rfl ⟨rfl,below_tch HR.out.1 hT5 (by omega) HR.out.1.size⟩
end Go.Proofs.YtiplgdkpnhamaaaGreatDoor
