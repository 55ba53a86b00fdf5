/- The texts U9, joined. -/
import Derived.Test.YtiplgdkpnhamaaaGreatDoorE28
import Derived.Test.YtiplgdkpnhamaaaGreatDoorE01
import Derived.Test.YtiplgdkpnhamaaaGreatDoorE10
import Derived.BigQuiet
import Derived.Deep.RegionWith
namespace Go.Proofs.YtiplgdkpnhamaaaGreatDoor
open Go.RowKit
abbrev fault:Ending:=.panicked [{ v:=.iface 196 (.agg #[]),recovered:=false }]
set_option maxRecDepth 100000 in
theorem demand_ok (w:World):Calls Tryz.prog 159 #[.bool true] w fun e w'=>e=.returned (.tuple #[]) ∧ w'=w:=by
 go_enter Tryz.func159,Tryz.ntmps159
 go_wp2_with fail
 go_end0
 exact ⟨rfl,rfl⟩
set_option maxRecDepth 100000 in
theorem demand_no (w:World):Calls Tryz.prog 159 #[.bool false] w fun e w'=>e=fault ∧ w'=w:=by
 go_enter Tryz.func159,Tryz.ntmps159
 go_wp2_with fail
 exact ⟨rfl,rfl,rfl⟩
structure RdIn (w:World) (rb n:Nat) (t:ByteArray) (at_:Nat):Prop where
 blk:Blk w rb [.int .i64 n,.string t,.int .i64 at_] 199
 le:at_ ≤ t.size
 sm:t.size ≤ 200000000000
 gl:6 ≤ rb
theorem RdIn.tabs {w w':World} {rb n:Nat} {t:ByteArray} {a:Nat} (h:RdIn w rb n t a) (hT:Tabs w) (k:Touch (fun q=>q=rb) w w'):Tabs w':=
 hT.kept fun q hq=>k.block q (Nat.lt_of_lt_of_le hq hT.room) (fun e=>by have:=h.gl; omega)
theorem RdIn.later {w w':World} {rb n:Nat} {t:ByteArray} {a:Nat} (h:RdIn w rb n t a) (hb:Below w.heap.size w w'):RdIn w' rb n t a:=⟨h.blk.below hb,h.le,h.sm,h.gl⟩
set_option maxRecDepth 100000 in
set_option maxHeartbeats 4000000 in
theorem take_no (w:World) (rb n:Nat) (t:ByteArray) (a k:Nat) (h:RdIn w rb n t a) (hk:t.size < a + k) :
  Calls Tryz.prog 160 #[bptr rb,.int .i64 k] w fun e w'=>e=fault ∧ Below w.heap.size w w':=by
 have c1:∀ f:Fam (Bel w),f.w.cell? ⟨rb,1,none⟩=some (.string t):=Bel.cell (h.blk.cell 1)
 have c2:∀ f:Fam (Bel w),f.w.cell? ⟨rb,2,none⟩=some (.int .i64 a):=Bel.cell (h.blk.cell 2)
 have hsm:=h.sm
 have hle:=h.le
 have hd:decide ((k:Int) ≤ (t.size:Int) - a)=false:=decide_eq_false (by omega)
 clear h
 go_enter Tryz.func160,Tryz.ntmps160
 go_wp2_with fail
 refine region_fam_tail (Bel w) 12 (by kernel_rfl) (by kernel_rfl) (Below.refl _ _).drew ?_
 simp only [List.take_succ_cons,List.take_zero,List.drop_succ_cons,List.drop_zero]
 repeat (go_big_quiet_step (fail))
 refine wpQuiet_nil ?_
 intro _ hw'
 obtain ⟨fq,rfl⟩:=hw'
 have HB:Hid (Below w.heap.size w fq.w):=fq.ok
 generalize fq.w=w1 at *
 go_wp2_with (go_at_call 159; refine (demand_no w1).mono ?_; rintro e w2 ⟨rfl,rfl⟩)
 exact ⟨rfl,rfl,HB.out⟩
set_option maxRecDepth 100000 in
set_option maxHeartbeats 4000000 in
theorem take_ok (w:World) (rb n:Nat) (t:ByteArray) (a k:Nat) (h:RdIn w rb n t a) (hk:a + k ≤ t.size) :
  Calls Tryz.prog 160 #[bptr rb,.int .i64 k] w fun e w'=>e=.returned (.string (t.extract a (a + k))) ∧ RdIn w' rb n t (a + k) ∧ Touch (fun q=>q=rb) w w':=by
 have c1:∀ f:Fam (Bel w),f.w.cell? ⟨rb,1,none⟩=some (.string t):=Bel.cell (h.blk.cell 1)
 have c2:∀ f:Fam (Bel w),f.w.cell? ⟨rb,2,none⟩=some (.int .i64 a):=Bel.cell (h.blk.cell 2)
 have hsm:=h.sm
 have hle:=h.le
 have hd:decide ((k:Int) ≤ (t.size:Int) - a)=true:=decide_eq_true (by omega)
 have HH:=hide h
 clear h
 go_enter Tryz.func160,Tryz.ntmps160
 go_wp2_with fail
 refine region_fam_tail (Bel w) 12 (by kernel_rfl) (by kernel_rfl) (Below.refl _ _).drew ?_
 simp only [List.take_succ_cons,List.take_zero,List.drop_succ_cons,List.drop_zero]
 repeat (go_big_quiet_step (fail))
 refine wpQuiet_nil ?_
 intro _ hw'
 obtain ⟨fq,rfl⟩:=hw'
 have HB:Hid (Below w.heap.size w fq.w):=fq.ok
 generalize fq.w=w1 at *
 clear c1 c2
 have h1:=HH.out.later HB.out
 have HH1:=hide h1
 have c1:w1.cell? ⟨rb,1,none⟩=some (.string t):=h1.blk.cell 1
 have c2:w1.cell? ⟨rb,2,none⟩=some (.int .i64 a):=h1.blk.cell 2
 have f2:w1.frozen? ⟨rb,2,none⟩=false:=h1.blk.frozen 2
 have hlt:=h1.blk.lt
 clear h1 hd
 go_wp2_with (go_at_call 159; refine (demand_ok w1).mono ?_; rintro e w2 ⟨rfl,rfl⟩)
 have g1:(a:Int) ≤ a + k:=by omega
 have g2:(a:Int) + k ≤ t.size:=by omega
 go_quiet (fail)
 go_wp2_with fail
 go_ret
 have hb:Below w.heap.size w (w2.drewN nq):=below_drewN HB.out nq
 have h2:=HH.out.later hb
 have e:((a:Int) + k)=((a + k:Nat):Int):=by omega
 rw [e]
 exact ⟨rfl,⟨h2.blk.set 2 _,hk,hsm,h2.gl⟩,Touch.setCell (S:=fun q=>q=rb) (p:=⟨rb,2,none⟩) (Touch.ofBelow hb) (Or.inl rfl) _⟩
end Go.Proofs.YtiplgdkpnhamaaaGreatDoor
