/- The texts U33, U34, U35, U36, joined. -/
import Derived.Test.YtiplgdkpnhamaaaGreatDoorE36
import Derived.RegionDies
import Derived.Deep.RegionHeld3
namespace Go.Proofs.YtiplgdkpnhamaaaGreatDoor
open Go.RowKit Go.Sort
abbrev put8 (w:World) (b:Nat) (rep seq:Int) (v:Vec) (mv:Value):World:=(((((((w.setCell ⟨b,0,none⟩ (.int .i64 rep)).setCell ⟨b,1,none⟩ (.int .i64 seq)).setCell ⟨b,2,none⟩ (.int .i64 v.a)).setCell ⟨b,3,none⟩ (.int .i64 v.b)).setCell ⟨b,4,none⟩ (.int .i64 v.c)).setCell ⟨b,5,none⟩ (.int .i64 v.d)).setCell ⟨b,6,none⟩ (.int .i64 v.e)).setCell ⟨b,7,none⟩ mv
theorem put8_blk {w:World} {b:Nat} {x0 x1 x2 x3 x4 x5 x6 x7:Value} {t:TypeId} (rep seq:Int) (v:Vec) (mv:Value) (h:Blk w b [x0,x1,x2,x3,x4,x5,x6,x7] t):Blk (put8 w b rep seq v mv) b [.int .i64 rep,.int .i64 seq,.int .i64 v.a,.int .i64 v.b,.int .i64 v.c,.int .i64 v.d,.int .i64 v.e,mv] t:=by
 have a0:=h.set 0 (.int .i64 rep)
 have a1:=a0.set 1 (.int .i64 seq)
 have a2:=a1.set 2 (.int .i64 v.a)
 have a3:=a2.set 3 (.int .i64 v.b)
 have a4:=a3.set 4 (.int .i64 v.c)
 have a5:=a4.set 5 (.int .i64 v.d)
 have a6:=a5.set 6 (.int .i64 v.e)
 have a7:=a6.set 7 mv
 exact a7
theorem put8_touch (w:World) (b:Nat) (rep seq:Int) (v:Vec) (mv:Value):Touch (fun q=>q=b) w (put8 w b rep seq v mv):=
 (((((((((Touch.refl (fun q=>q=b) w).setCell (p:=⟨b,0,none⟩) (Or.inl rfl) _).setCell (p:=⟨b,1,none⟩) (Or.inl rfl) _).setCell (p:=⟨b,2,none⟩) (Or.inl rfl) _).setCell (p:=⟨b,3,none⟩) (Or.inl rfl) _).setCell (p:=⟨b,4,none⟩) (Or.inl rfl) _).setCell (p:=⟨b,5,none⟩) (Or.inl rfl) _).setCell (p:=⟨b,6,none⟩) (Or.inl rfl) _).setCell (p:=⟨b,7,none⟩) (Or.inl rfl) _)
abbrev zeroTx:List Value:=[.int .i64 0,.int .i64 0,.int .i64 0,.int .i64 0,.int .i64 0,.int .i64 0,.int .i64 0,.map none]
structure TRead (w:World) (rb n:Nat) (t:ByteArray) (m:Bool) (a':Nat) (u:List UInt8) (rep:Nat) (seq:Int) (wr:World):Prop where
 rd:RdIn wr rb n t a'
 rem:Rem m (t.data.toList.drop a') u
 tch:Touch (fun q=>q=rb) w wr
 dot:Blk wr w.heap.size [.int .i64 rep,.int .i64 seq] 62
 res:Blk wr (w.heap.size+1+1) zeroTx 139
theorem TRead.step {w:World} {rb n:Nat} {t:ByteArray} {m:Bool} {a' a2:Nat} {u u2:List UInt8} {rep:Nat} {seq:Int} {wr w2:World} (h:TRead w rb n t m a' u rep seq wr) (hrb:rb<w.heap.size) (T:Touch (fun q=>q=rb) wr w2) (r:RdIn w2 rb n t a2) (q:Rem m (t.data.toList.drop a2) u2):TRead w rb n t m a2 u2 rep seq w2:=
 ⟨r,q,h.tch.then T,h.dot.touch T (by omega),h.res.touch T (by omega)⟩
theorem TRead.later {w:World} {rb n:Nat} {t:ByteArray} {m:Bool} {a':Nat} {u:List UInt8} {rep:Nat} {seq:Int} {wr w2:World} (h:TRead w rb n t m a' u rep seq wr) (hb:Below wr.heap.size wr w2):TRead w rb n t m a' u rep seq w2:=
 ⟨h.rd.later hb,h.rem,h.tch.then (Touch.ofBelow hb),h.dot.below hb,h.res.below hb⟩
theorem TRead.set {w:World} {rb n:Nat} {t:ByteArray} {m:Bool} {a':Nat} {u:List UInt8} {rep:Nat} {seq:Int} {wr:World} (h:TRead w rb n t m a' u rep seq wr) (hrb:rb<w.heap.size) (p:Addr) (hp:w.heap.size+1+1<p.block) (v:Value):TRead w rb n t m a' u rep seq (wr.setCell p v):=
 ⟨⟨h.rd.blk.other (by omega) _,h.rd.le,h.rd.sm,h.rd.gl⟩,h.rem,h.tch.setCell (Or.inr (by omega)) _,h.dot.other (by omega) _,h.res.other (by omega) _⟩
theorem rem_true {l v r:List UInt8} (h:l=v ++ r):Rem true l v:=by simp only [Rem];exact ⟨r,h⟩
theorem rem_false {l v s:List UInt8} (hs:s≠[]) (h:l ++ s=v):Rem false l v:=by simp only [Rem];exact ⟨s,hs,h⟩
theorem rem_nil {l:List UInt8} (h:Rem false l []):False:=by
 simp only [Rem] at h
 obtain ⟨s,hs,e⟩:=h
 exact hs (List.append_eq_nil_iff.1 e).2
theorem writes_ok (w:World) (rb n:Nat) (t:ByteArray) (a:Nat) (mm:Place→Option Wr) (ks:List Place) (r:List UInt8) (h:RdIn w rb n t a) (hk:KeysOf mm ks) (hpw:ks.Pairwise placeLt) (h1:1≤ks.length) (h16:ks.length≤16) (hr:∀ p x,mm p=some x→WrRd p x) (hx:t.data.toList.drop a=numT ks.length ++ wrsT mm ks ++ r) (ht:Tabs w) :
  Calls Tryz.prog 205 #[bptr rb] w fun e w'=>Touch (fun q=>q=rb) w w'∧∃ b,e=.returned (.map (some b))∧w.heap.size≤b∧MapIn w' 129 b 16 Place.val Wr.val mm∧RdIn w' rb n t (a+(numT ks.length).length+(wrsT mm ks).length):=by
 refine (writes_at w rb n t a mm ks true [] h hk hpw h1 h16 hr (rem_true (r:=r) (by simpa using hx)) ht).mono ?_
 rintro e w' ⟨T,⟨b,e1,e2,e3,e4,-⟩ | ⟨hm,-⟩⟩
 ·exact ⟨T,b,e1,e2,e3,e4⟩
 ·cases hm
theorem writes_no (w:World) (rb n:Nat) (t:ByteArray) (a:Nat) (mm:Place→Option Wr) (ks:List Place) (s:List UInt8) (h:RdIn w rb n t a) (hk:KeysOf mm ks) (hpw:ks.Pairwise placeLt) (h1:1≤ks.length) (h16:ks.length≤16) (hr:∀ p x,mm p=some x→WrRd p x) (hs:s≠[]) (hx:t.data.toList.drop a ++ s=numT ks.length ++ wrsT mm ks) (ht:Tabs w) :
  Calls Tryz.prog 205 #[bptr rb] w fun e w'=>e=fault∧Touch (fun q=>q=rb) w w':=by
 refine (writes_at w rb n t a mm ks false [] h hk hpw h1 h16 hr (rem_false hs (by simpa using hx)) ht).mono ?_
 rintro e w' ⟨T,⟨b,-,-,-,-,hr⟩ | ⟨-,rfl⟩⟩
 ·exact (rem_nil hr).elim
 ·exact ⟨rfl,T⟩
def EndsT (w:World) (rb n:Nat) (t:ByteArray) (m:Bool) (a':Nat) (u:List UInt8) (tr:Tr) (e:Ending) (w':World):Prop:=
 Touch (fun q=>q=rb) w w'∧((∃ b,e=.returned (txVal tr.rep tr.seq tr.saw (.map (some b)))∧w.heap.size≤b∧TrIn w' (tr,b)∧RdIn w' rb n t a'∧Rem m (t.data.toList.drop a') u)∨(m=false∧e=fault))
set_option maxRecDepth 100000 in
set_option maxHeartbeats 8000000 in
theorem transaction_at (w:World) (rb n:Nat) (t:ByteArray) (a:Nat) (rep:Nat) (seq:Int) (l:List Int) (mm:Place→Option Wr) (vis:Vec) (ks:List Place) (m:Bool) (u:List UInt8) (h:RdIn w rb n t a) (hn:n≤5) (hrep:rep<5) (hs0:0≤seq) (hs1:seq≤9223372036854775807) (hl:l.length=n) (hmo:∀ k (hk:k<l.length),0≤l[k]∧l[k]≤(vis.put rep (seq - 1)).list.getD k 0∧l[k]≤9223372036854775807) (hk:KeysOf mm ks) (hpw:ks.Pairwise placeLt) (h1:1≤ks.length) (h16:ks.length≤16) (hr:∀ p x,mm p=some x→WrRd p x) (hx:Rem m (t.data.toList.drop a) (vecT l ++ (numT ks.length ++ (wrsT mm ks ++ u)))) (ht:Tabs w) :
  Calls Tryz.prog 170 #[bptr rb,.agg #[.int .i64 rep,.int .i64 seq],vis.val] w (EndsT w rb n t m (a+(vecT l).length+(numT ks.length).length+(wrsT mm ks).length) u ⟨rep,seq,vecOf l,mm⟩):=by
 have hrb:=h.blk.lt
 generalize hW0:(((w.alloc (.cells #[.int .i64 rep,.int .i64 seq] 62)).alloc (.cells #[.int .i64 vis.a,.int .i64 vis.b,.int .i64 vis.c,.int .i64 vis.d,.int .i64 vis.e] 104)).alloc (.cells #[.int .i64 0,.int .i64 0,.int .i64 0,.int .i64 0,.int .i64 0,.int .i64 0,.int .i64 0,.map none] 139)).alloc (.cells #[.int .i64 vis.a,.int .i64 vis.b,.int .i64 vis.c,.int .i64 vis.d,.int .i64 vis.e] 104)=W0
 have hB0:Below w.heap.size w W0:=by rw [← hW0];exact ((((Below.refl _ _).alloc (Nat.le_refl _) _).alloc (by simp) _).alloc (by simp;omega) _).alloc (by simp;omega) _
 have H0:Hid (TRead w rb n t m a (vecT l ++ (numT ks.length ++ (wrsT mm ks ++ u))) rep seq W0):=by
  refine ⟨h.later hB0,hx,Touch.ofBelow hB0,?_,?_⟩
  ·rw [← hW0];exact Blk.alloc (Blk.alloc (Blk.alloc (heap_alloc_new w _) _) _) _
  ·rw [← hW0,show w.heap.size+1+1=((w.alloc (.cells #[.int .i64 rep,.int .i64 seq] 62)).alloc (.cells #[.int .i64 vis.a,.int .i64 vis.b,.int .i64 vis.c,.int .i64 vis.d,.int .i64 vis.e] 104)).heap.size by simp]
   exact Blk.alloc (heap_alloc_new _ _) _
 have m0:Blk W0 (w.heap.size+1+1+1) vis.cells 104:=by
  rw [← hW0,show w.heap.size+1+1+1=(((w.alloc (.cells #[.int .i64 rep,.int .i64 seq] 62)).alloc (.cells #[.int .i64 vis.a,.int .i64 vis.b,.int .i64 vis.c,.int .i64 vis.d,.int .i64 vis.e] 104)).alloc (.cells #[.int .i64 0,.int .i64 0,.int .i64 0,.int .i64 0,.int .i64 0,.int .i64 0,.int .i64 0,.map none] 139)).heap.size by simp]
  exact heap_alloc_new _ _
 have HH:=hide h
 have HW0:=hide hW0
 have HT:=hide ht
 have HK:=hide (⟨hk,hpw,hr⟩:_∧_∧_)
 have HM:=hide hmo
 have HM0:=hide m0
 clear h hx hW0 hB0 ht hk hpw hr hmo m0
 go_enter Tryz.func170,Tryz.ntmps170
 go_upto_region 2 with (fail)
 rw [HW0.out]
 clear HW0
 have c0:W0.cell? ⟨w.heap.size,0,none⟩=some (.int .i64 rep):=H0.out.dot.cell 0
 have c1:W0.cell? ⟨w.heap.size,1,none⟩=some (.int .i64 seq):=H0.out.dot.cell 1
 have c2:W0.cell? ⟨w.heap.size+1+1+1,rep,none⟩=some (.int .i64 (vis.get rep)):=by rw [HM0.out.cell rep];exact vec_cell _ hrep
 have f2:W0.frozen? ⟨w.heap.size+1+1+1,rep,none⟩=false:=HM0.out.frozen rep
 have g1:(rep:Int)<5:=by omega
 go_upto_region 3 with (fail)
 have b1:Blk (W0.setCell ⟨w.heap.size+1+1+1,rep,none⟩ (.int .i64 (seq - 1))) (w.heap.size+1+1+1) (vis.put rep (seq - 1)).cells 104:=by
  rw [← put_cells _ hrep];exact HM0.out.set rep _
 have H1:=hide (H0.out.set hrb ⟨w.heap.size+1+1+1,rep,none⟩ (by show w.heap.size+1+1<w.heap.size+1+1+1;omega) (.int .i64 (seq - 1)))
 clear c0 c1 c2 f2 H0 HM0
 generalize World.setCell _ _ _=W1 at *
 generalize vis.put rep (seq - 1)=most at *
 have d0:W1.cell? ⟨w.heap.size+1+1+1,0,none⟩=some (.int .i64 most.a):=b1.cell 0
 have d1:W1.cell? ⟨w.heap.size+1+1+1,1,none⟩=some (.int .i64 most.b):=b1.cell 1
 have d2:W1.cell? ⟨w.heap.size+1+1+1,2,none⟩=some (.int .i64 most.c):=b1.cell 2
 have d3:W1.cell? ⟨w.heap.size+1+1+1,3,none⟩=some (.int .i64 most.d):=b1.cell 3
 have d4:W1.cell? ⟨w.heap.size+1+1+1,4,none⟩=some (.int .i64 most.e):=b1.cell 4
 have hz1:w.heap.size+1+1+1<W1.heap.size:=b1.lt
 have HV:=hide (vector_at W1 rb n t a l most m _ H1.out.rd hn hl H1.out.rem HM.out (HH.out.tabs HT.out H1.out.tch))
 clear b1
 go_wp2_with (go_at_call 162;refine HV.out.mono ?_;rintro e w2 ⟨T2,⟨rfl,h2,r2⟩ | ⟨hm,rfl⟩⟩ <;> refine Hid.out ?_)
 all_goals refine Lib.hid ?_
 rotate_left
 ·exact ⟨rfl,H1.out.tch.then T2,Or.inr ⟨by first | exact hm | rfl,rfl⟩⟩
 have H2:=hide (H1.out.step hrb T2 h2 r2)
 have hz2:w.heap.size+1+1<w2.heap.size:=H2.out.res.lt
 clear T2 h2 r2 HV H1 d0 d1 d2 d3 d4 HM hz1
 generalize vecOf l=sw at *
 go_upto_region 4 with (fail)
 generalize hW3:w2.alloc (.cells #[.int .i64 sw.a,.int .i64 sw.b,.int .i64 sw.c,.int .i64 sw.d,.int .i64 sw.e] 104)=W3
 have hB3:Below w2.heap.size w2 W3:=by rw [← hW3];exact (Below.refl _ _).alloc (Nat.le_refl _) _
 have s3:Blk W3 w2.heap.size sw.cells 104:=by rw [← hW3];exact heap_alloc_new w2 _
 have H3:=hide (H2.out.later hB3)
 have hz3:w2.heap.size<W3.heap.size:=s3.lt
 have h3d:=H3.out.dot
 have c0:W3.cell? ⟨w.heap.size,0,none⟩=some (.int .i64 rep):=h3d.cell 0
 have c1:W3.cell? ⟨w.heap.size,1,none⟩=some (.int .i64 seq):=h3d.cell 1
 have d0:W3.cell? ⟨w2.heap.size,0,none⟩=some (.int .i64 sw.a):=s3.cell 0
 have d1:W3.cell? ⟨w2.heap.size,1,none⟩=some (.int .i64 sw.b):=s3.cell 1
 have d2:W3.cell? ⟨w2.heap.size,2,none⟩=some (.int .i64 sw.c):=s3.cell 2
 have d3:W3.cell? ⟨w2.heap.size,3,none⟩=some (.int .i64 sw.d):=s3.cell 3
 have d4:W3.cell? ⟨w2.heap.size,4,none⟩=some (.int .i64 sw.e):=s3.cell 4
 have hrm:=H3.out.rem
 rw [← List.append_assoc] at hrm
 have hrd3:RdIn W3.drew rb n t (a+(vecT l).length):=⟨H3.out.rd.blk,H3.out.rd.le,H3.out.rd.sm,H3.out.rd.gl⟩
 rcases rem_split hrm with ⟨rem',e5,hr5⟩ | ⟨hm,s,hs,e5⟩
 ·have HWd:Hid (Calls Tryz.prog 205 #[bptr rb] W3.drew fun e w'=>∃ b,e=.returned (.map (some b))∧w'.cell? ⟨w.heap.size,0,none⟩=some (.int .i64 rep)∧w'.cell? ⟨w.heap.size,1,none⟩=some (.int .i64 seq)∧w'.cell? ⟨w2.heap.size,0,none⟩=some (.int .i64 sw.a)∧w'.cell? ⟨w2.heap.size,1,none⟩=some (.int .i64 sw.b)∧w'.cell? ⟨w2.heap.size,2,none⟩=some (.int .i64 sw.c)∧w'.cell? ⟨w2.heap.size,3,none⟩=some (.int .i64 sw.d)∧w'.cell? ⟨w2.heap.size,4,none⟩=some (.int .i64 sw.e)∧Hid (w.heap.size≤b∧MapIn w' 129 b 16 Place.val Wr.val mm∧TRead w rb n t m (a+(vecT l).length+(numT ks.length).length+(wrsT mm ks).length) u rep seq w')):=(writes_ok W3.drew rb n t _ mm ks rem' hrd3 HK.out.1 HK.out.2.1 h1 h16 HK.out.2.2 e5 (HH.out.tabs HT.out H3.out.tch.drew)).mono (by
   rintro e w' ⟨T,b,rfl,hb,hmp,hrd⟩
   have T':Touch (fun q=>q=rb) W3 w':=(Touch.refl _ _).drew.then T
   have dd:=h3d.touch T' (by omega)
   have ss:=s3.touch T' (by omega)
   have hsz:W3.drew.heap.size=W3.heap.size:=rfl
   refine ⟨b,rfl,dd.cell 0,dd.cell 1,ss.cell 0,ss.cell 1,ss.cell 2,ss.cell 3,ss.cell 4,by omega,hmp,H3.out.step hrb T' hrd ?_⟩
   have:=drop_on e5
   rw [List.length_append,← Nat.add_assoc] at this
   rw [this];exact hr5)
  clear hW3 hB3 s3 h3d H2 H3 hrm hrd3 e5 hr5
  go_region_with (go_at_call 205;refine HWd.out.mono ?_;rintro e w5 ⟨b,rfl,k0,k1,k2,k3,k4,k5,k6,HQ⟩;have r0:w5.cell? ⟨w.heap.size+1+1,0,none⟩=some (.int .i64 0):=(HQ.out.2.2.res.cell 0);have q0:w5.frozen? ⟨w.heap.size+1+1,0,none⟩=false:=(HQ.out.2.2.res.frozen 0);have r1:w5.cell? ⟨w.heap.size+1+1,1,none⟩=some (.int .i64 0):=(HQ.out.2.2.res.cell 1);have q1:w5.frozen? ⟨w.heap.size+1+1,1,none⟩=false:=(HQ.out.2.2.res.frozen 1);have r2:w5.cell? ⟨w.heap.size+1+1,2,none⟩=some (.int .i64 0):=(HQ.out.2.2.res.cell 2);have q2:w5.frozen? ⟨w.heap.size+1+1,2,none⟩=false:=(HQ.out.2.2.res.frozen 2);have r3:w5.cell? ⟨w.heap.size+1+1,3,none⟩=some (.int .i64 0):=(HQ.out.2.2.res.cell 3);have q3:w5.frozen? ⟨w.heap.size+1+1,3,none⟩=false:=(HQ.out.2.2.res.frozen 3);have r4:w5.cell? ⟨w.heap.size+1+1,4,none⟩=some (.int .i64 0):=(HQ.out.2.2.res.cell 4);have q4:w5.frozen? ⟨w.heap.size+1+1,4,none⟩=false:=(HQ.out.2.2.res.frozen 4);have r5:w5.cell? ⟨w.heap.size+1+1,5,none⟩=some (.int .i64 0):=(HQ.out.2.2.res.cell 5);have q5:w5.frozen? ⟨w.heap.size+1+1,5,none⟩=false:=(HQ.out.2.2.res.frozen 5);have r6:w5.cell? ⟨w.heap.size+1+1,6,none⟩=some (.int .i64 0):=(HQ.out.2.2.res.cell 6);have q6:w5.frozen? ⟨w.heap.size+1+1,6,none⟩=false:=(HQ.out.2.2.res.frozen 6);have r7:w5.cell? ⟨w.heap.size+1+1,7,none⟩=some (.map none):=(HQ.out.2.2.res.cell 7);have q7:w5.frozen? ⟨w.heap.size+1+1,7,none⟩=false:=(HQ.out.2.2.res.frozen 7);skip)
  all_goals (
   have hb5:=put8_blk rep seq sw (.map (some b)) HQ.out.2.2.res
   have hT5:=put8_touch w5 (w.heap.size+1+1) rep seq sw (.map (some b))
   unfold put8 at hb5 hT5
   have HF:=hide (⟨hb5,hT5⟩:_∧_)
   clear hb5 hT5 r0 r1 r2 r3 r4 r5 r6 r7 q0 q1 q2 q3 q4 q5 q6 q7 k0 k1 k2 k3 k4 k5 k6 c0 c1 d0 d1 d2 d3 d4 HWd
   go_wp2_with fail
   obtain ⟨hb5,hT5⟩:=HF.out
   generalize World.setCell _ _ _=W7 at *
   have s0:W7.cell? ⟨w.heap.size+1+1,0,none⟩=some (.int .i64 rep):=hb5.cell 0
   have s1:W7.cell? ⟨w.heap.size+1+1,1,none⟩=some (.int .i64 seq):=hb5.cell 1
   have s2:W7.cell? ⟨w.heap.size+1+1,2,none⟩=some (.int .i64 sw.a):=hb5.cell 2
   have s3:W7.cell? ⟨w.heap.size+1+1,3,none⟩=some (.int .i64 sw.b):=hb5.cell 3
   have s4:W7.cell? ⟨w.heap.size+1+1,4,none⟩=some (.int .i64 sw.c):=hb5.cell 4
   have s5:W7.cell? ⟨w.heap.size+1+1,5,none⟩=some (.int .i64 sw.d):=hb5.cell 5
   have s6:W7.cell? ⟨w.heap.size+1+1,6,none⟩=some (.int .i64 sw.e):=hb5.cell 6
   have s7:W7.cell? ⟨w.heap.size+1+1,7,none⟩=some (.map (some b)):=hb5.cell 7
   have hbl:=HQ.out.2.1.lt
   have hne:b≠w.heap.size+1+1:=fun e=>by
    obtain ⟨D,⟨es,clock,g1,g2⟩,-⟩:=HQ.out.2.1.ex
    have g3:w5.heap[w.heap.size+1+1]? = _:=HQ.out.2.2.res
    rw [e] at g1
    rw [g1] at g3
    cases g3
   refine bodyPost_ret (v:=txVal rep seq sw (.map (some b))) (by simp [results,Tryz.results170,go_sem,s0,s1,s2,s3,s4,s5,s6,s7]) rfl ⟨HQ.out.2.2.tch.trans (hT5.mono fun q _ e=>Or.inr (by omega)),Or.inl ⟨b,rfl,HQ.out.1,HQ.out.2.1.move (hT5.block b hbl hne),?_,HQ.out.2.2.rem⟩⟩
   exact ⟨HQ.out.2.2.rd.blk.touch hT5 (by omega),HQ.out.2.2.rd.le,HQ.out.2.2.rd.sm,HQ.out.2.2.rd.gl⟩)
 ·have HWd:Hid (Calls Tryz.prog 205 #[bptr rb] W3.drew fun e w'=>e=fault∧Hid (m=false∧Touch (fun q=>q=rb) w w')):=(writes_no W3.drew rb n t _ mm ks s hrd3 HK.out.1 HK.out.2.1 h1 h16 HK.out.2.2 hs e5 (HH.out.tabs HT.out H3.out.tch.drew)).mono (by
   rintro e w' ⟨rfl,T⟩
   exact ⟨rfl,hm,H3.out.tch.then ((Touch.refl _ _).drew.then T)⟩)
  clear hW3 hB3 s3 h3d H2 H3 hrm hrd3 e5 hm hs
  go_region_dies
  all_goals (
   refine HWd.out.mono ?_
   rintro e w5 ⟨rfl,HQ⟩
   exact ⟨rfl,HQ.out.2,Or.inr ⟨HQ.out.1,rfl⟩⟩)
end Go.Proofs.YtiplgdkpnhamaaaGreatDoor
namespace Go.Proofs.YtiplgdkpnhamaaaGreatDoor
open Go.RowKit Go.Sort
def needOf (lat:Nat→Vec) (t:Tr):Vec:=((lat t.rep).join t.saw).put t.rep (t.seq - 1)
def latUpd (lat:Nat→Vec) (r:Nat) (v:Vec):Nat→Vec:=fun q=>if q=r then v else lat q
def latFold:(Nat→Vec)→List Tr→(Nat→Vec)
 | lat,[]=>lat
 | lat,t :: l=>latFold (latUpd lat t.rep (needOf lat t)) l
def needsFrom:(Nat→Vec)→List Tr→List Vec
 | _,[]=>[]
 | lat,t :: l=>needOf lat t :: needsFrom (latUpd lat t.rep (needOf lat t)) l
def noLat:Nat→Vec:=fun _=>noVec
def needsOf (l:List Tr):List Vec:=needsFrom noLat l
theorem latFold_snoc:∀ (l:List Tr) (lat:Nat→Vec) (t:Tr),latFold lat (l ++ [t])=latUpd (latFold lat l) t.rep (needOf (latFold lat l) t)
 | [],_,_=>rfl
 | a :: l,lat,t=>latFold_snoc l (latUpd lat a.rep (needOf lat a)) t
theorem needsFrom_snoc:∀ (l:List Tr) (lat:Nat→Vec) (t:Tr),needsFrom lat (l ++ [t])=needsFrom lat l ++ [needOf (latFold lat l) t]
 | [],_,_=>rfl
 | a :: l,lat,t=>congrArg (needOf lat a :: ·) (needsFrom_snoc l (latUpd lat a.rep (needOf lat a)) t)
theorem needs_length:∀ (l:List Tr) (lat:Nat→Vec),(needsFrom lat l).length=l.length
 | [],_=>rfl
 | _ :: l,_=>congrArg (·+1) (needs_length l _)
abbrev latCells (lat:Nat→Vec):List Value:=(lat 0).cells ++ ((lat 1).cells ++ ((lat 2).cells ++ ((lat 3).cells ++ (lat 4).cells)))
theorem lat_cell (lat:Nat→Vec) {r j:Nat} (hr:r<5) (hj:j<5):(latCells lat)[r * 5+j]? = some (.int .i64 ((lat r).get j)):=by
 have h1:r=0∨r=1∨r=2∨r=3∨r=4:=by omega
 have h2:j=0∨j=1∨j=2∨j=3∨j=4:=by omega
 rcases h1 with rfl | rfl | rfl | rfl | rfl <;> rcases h2 with rfl | rfl | rfl | rfl | rfl <;> rfl
theorem lat_set (lat:Nat→Vec) {r:Nat} (hr:r<5) (v:Vec):(((((latCells lat).set (r * 5) (.int .i64 v.a)).set (r * 5+1) (.int .i64 v.b)).set (r * 5+2) (.int .i64 v.c)).set (r * 5+3) (.int .i64 v.d)).set (r * 5+4) (.int .i64 v.e)=latCells (latUpd lat r v):=by
 have h1:r=0∨r=1∨r=2∨r=3∨r=4:=by omega
 rcases h1 with rfl | rfl | rfl | rfl | rfl <;> rfl
theorem info_vec:(Tryz.prog.info? 104).map (fun i=>(i.zero,i.size,i.bytes))=some (some noVec.val,5,40):=by kernel_rfl
theorem cells_new (w:World) (cs:List Value) (t:TypeId):∀ j u,cs[j]? = some u→(w.alloc (.cells cs.toArray t)).cell? ((⟨w.heap.size,0,none⟩:Addr).add j)=some u:=by
 intro j u hj
 have h:Blk (w.alloc (.cells cs.toArray t)) w.heap.size cs t:=heap_alloc_new w _
 have:=h.cell j
 rw [hj] at this
 have e:(⟨w.heap.size,0,none⟩:Addr).add j=⟨w.heap.size,j,none⟩:=by cases j <;> simp [Addr.add]
 rw [e];exact this
theorem own_other {B:Nat} {w:World} {b:Nat} {cs:List Value} {t e:TypeId} {size:Nat} {v:Value} {n:Nat} {xs:List Value} (hb:Blk w b cs t) (h:w.ownsRow B e size v n xs) (hne:t≠e):v.ownBlock≠some b:=by
 rcases h.2 with ⟨e',-⟩ | ⟨g,cap,cur,rfl,-,hg,-⟩
 ·rw [e'];simp [Value.ownBlock]
 ·intro e'
  have:g=b:=by simpa [Value.ownBlock] using e'
  subst this
  rw [Blk,hg] at hb
  injection hb with hb
  injection hb with _ hb
  exact hne hb.symm
structure NeedAt (w:World) (l:List Tr) (k:Nat) (nv:Value) (wr:World):Prop where
 bel:Below w.heap.size w wr
 lat:Blk wr w.heap.size (latCells (latFold noLat (l.take k))) 110
 row:wr.ownsRow w.heap.size 104 5 nv k ((needsFrom noLat (l.take k)).flatMap Vec.cells)
theorem NeedAt.later {w:World} {l:List Tr} {k:Nat} {nv:Value} {wr w':World} (h:NeedAt w l k nv wr) (hb:Below wr.heap.size wr w'):NeedAt w l k nv w':=
 ⟨h.bel.trans (hb.mono h.bel.size),h.lat.below hb,own_move h.row fun g hg=>hb.block g (h.row.lt g hg).2⟩
set_option maxRecDepth 100000 in
set_option maxHeartbeats 8000000 in
theorem needs_any (w:World) (base:Nat) (l:List (Tr × Nat)) (lv:Value) (hrow:w.ownsRow base 139 8 lv l.length (l.flatMap trCells)) (hl:l.length≤50000000) (hf:∀ x,x ∈ l→x.1.rep<5∧0≤x.1.seq∧x.1.seq≤9223372036854775807) :
  Calls Tryz.prog 125 #[lv] w fun e w'=>∃ nv,e=.returned nv∧w'.ownsRow w.heap.size 104 5 nv l.length ((needsOf (l.map Prod.fst)).flatMap Vec.cells)∧Below w.heap.size w w':=by
 obtain ⟨ao,cap,rfl,hao⟩:=Row.shape (ownsRow_low hrow (Nat.zero_le _))
 obtain ⟨i0,hi,hz0,hz1,hz2⟩:=info_parts info_vec
 generalize hW0:w.alloc (.cells #[.int .i64 0,.int .i64 0,.int .i64 0,.int .i64 0,.int .i64 0,.int .i64 0,.int .i64 0,.int .i64 0,.int .i64 0,.int .i64 0,.int .i64 0,.int .i64 0,.int .i64 0,.int .i64 0,.int .i64 0,.int .i64 0,.int .i64 0,.int .i64 0,.int .i64 0,.int .i64 0,.int .i64 0,.int .i64 0,.int .i64 0,.int .i64 0,.int .i64 0] 110)=W0
 have H0:Hid (NeedAt w (l.map Prod.fst) 0 (.slice none 0 0) W0):=by
  refine ⟨?_,?_,World.ownsRow_nil _ _ _ _⟩
  ·rw [← hW0];exact (Below.refl _ _).alloc (Nat.le_refl _) _
  ·rw [← hW0];exact heap_alloc_new w _
 have HW0:=hide hW0
 have HR:=hide hrow
 have HF:=hide hf
 clear hW0 hrow hf
 go_enter Tryz.func125,Tryz.ntmps125
 go_upto_region 4 with (fail)
 rw [HW0.out]
 clear HW0
 go_loopw [3,6,7,10] (fun nv _ _ ii wr=>∃ (k:Nat) (a0:Option Addr) (n0 c0:Nat),k≤l.length∧ii=.int .i64 k∧nv=.slice a0 n0 c0∧Hid (NeedAt w (l.map Prod.fst) k (.slice a0 n0 c0) wr)) (fun _ _ _ ii _=>l.length - (intOf ii).toNat)
 case atStart=>exact ⟨0,_,_,_,Nat.zero_le _,rfl,rfl,H0.out⟩
 case round=>
  clear H0
  obtain ⟨k,a0,n0,c0,hk,rfl,rfl,HS⟩:=hrel
  by_cases hlt:k<l.length
  ·have hx:=HF.out l[k] (List.getElem_mem hlt)
   obtain ⟨g,hg,-⟩:=hao.2.2 0 (by omega)
   subst hg
   have hc:=fun (j:Nat) (hj:j<8)=>tr_cell HR.out HS.out.bel hlt hj
   have hlk:k<(l.map Prod.fst).length:=by simpa using hlt
   have hstep:(l.map Prod.fst).take (k+1)=(l.map Prod.fst).take k ++ [l[k].1]:=by rw [List.take_succ_eq_append_getElem hlk];simp
   generalize hp:l[k]=p at *
   obtain ⟨⟨rep,seq,saw,m⟩,mb⟩:=p
   have q0:wr.cell? ⟨g,k * 8,none⟩=some (.int .i64 rep):=hc 0 (by omega)
   have q1:wr.cell? ⟨g,k * 8+1,none⟩=some (.int .i64 seq):=hc 1 (by omega)
   have q2:wr.cell? ⟨g,k * 8+2,none⟩=some (.int .i64 saw.a):=hc 2 (by omega)
   have q3:wr.cell? ⟨g,k * 8+3,none⟩=some (.int .i64 saw.b):=hc 3 (by omega)
   have q4:wr.cell? ⟨g,k * 8+4,none⟩=some (.int .i64 saw.c):=hc 4 (by omega)
   have q5:wr.cell? ⟨g,k * 8+5,none⟩=some (.int .i64 saw.d):=hc 5 (by omega)
   have q6:wr.cell? ⟨g,k * 8+6,none⟩=some (.int .i64 saw.e):=hc 6 (by omega)
   have q7:wr.cell? ⟨g,k * 8+7,none⟩=some (.map (some mb)):=hc 7 (by omega)
   have hrep:rep<5:=hx.1
   have hs0:0≤seq:=hx.2.1
   have hs1:seq≤9223372036854775807:=hx.2.2
   have HX:=hide (⟨hp,hstep⟩:_∧_)
   clear hx hp hstep hc
   go_upto_region 6 with (fail)
   generalize hW6:wr.alloc (.cells #[.int .i64 rep,.int .i64 seq,.int .i64 saw.a,.int .i64 saw.b,.int .i64 saw.c,.int .i64 saw.d,.int .i64 saw.e,.map (some mb)] 139)=W6
   have hB6:Below wr.heap.size wr W6:=by rw [← hW6];exact (Below.refl _ _).alloc (Nat.le_refl _) _
   have b6:Blk W6 wr.heap.size [.int .i64 rep,.int .i64 seq,.int .i64 saw.a,.int .i64 saw.b,.int .i64 saw.c,.int .i64 saw.d,.int .i64 saw.e,.map (some mb)] 139:=by rw [← hW6];exact heap_alloc_new wr _
   have H6:=hide (HS.out.later hB6)
   have z6:wr.heap.size<W6.heap.size:=b6.lt
   have zl:w.heap.size<W6.heap.size:=H6.out.lat.lt
   have zw:w.heap.size<wr.heap.size:=HS.out.lat.lt
   have s0:W6.cell? ⟨wr.heap.size,0,none⟩=some (.int .i64 rep):=b6.cell 0
   have s2:W6.cell? ⟨wr.heap.size,2,none⟩=some (.int .i64 saw.a):=b6.cell 2
   have s3:W6.cell? ⟨wr.heap.size,3,none⟩=some (.int .i64 saw.b):=b6.cell 3
   have s4:W6.cell? ⟨wr.heap.size,4,none⟩=some (.int .i64 saw.c):=b6.cell 4
   have s5:W6.cell? ⟨wr.heap.size,5,none⟩=some (.int .i64 saw.d):=b6.cell 5
   have s6:W6.cell? ⟨wr.heap.size,6,none⟩=some (.int .i64 saw.e):=b6.cell 6
   obtain ⟨lat,hlat⟩:∃ lat,latFold noLat ((l.map Prod.fst).take k)=lat:=⟨_,rfl⟩
   have hl6:=H6.out.lat
   rw [hlat] at hl6
   obtain ⟨lt,hlt'⟩:∃ lt,lat rep=lt:=⟨_,rfl⟩
   have hlc:∀ j,j<5→W6.cell? ⟨w.heap.size,rep * 5+j,none⟩=some (.int .i64 (lt.get j)):=fun j hj=>by rw [hl6.cell (rep * 5+j),← hlt'];exact lat_cell lat hrep hj
   have t0:W6.cell? ⟨w.heap.size,rep * 5,none⟩=some (.int .i64 lt.a):=hlc 0 (by omega)
   have t1:W6.cell? ⟨w.heap.size,rep * 5+1,none⟩=some (.int .i64 lt.b):=hlc 1 (by omega)
   have t2:W6.cell? ⟨w.heap.size,rep * 5+2,none⟩=some (.int .i64 lt.c):=hlc 2 (by omega)
   have t3:W6.cell? ⟨w.heap.size,rep * 5+3,none⟩=some (.int .i64 lt.d):=hlc 3 (by omega)
   have t4:W6.cell? ⟨w.heap.size,rep * 5+4,none⟩=some (.int .i64 lt.e):=hlc 4 (by omega)
   have g1:(rep:Int)<5:=by omega
   have HL6:=hide (⟨hl6,hlat,hlt'⟩:_∧_∧_)
   have HB6:=hide b6
   have HVa:Hid (Calls Tryz.prog 118 #[lt.val,saw.val] W6.drew fun e w'=>e=.returned (lt.join saw).val∧Hid (Below W6.heap.size W6 w')):=(join_any W6.drew lt saw).mono (by
    rintro e w' ⟨rfl,hB⟩
    exact ⟨rfl,(Below.refl W6.heap.size W6).drew.trans hB⟩)
   have HVb:Hid (Calls Tryz.prog 118 #[lt.val,saw.val] (W6.alloc (.cells #[.int .i64 0,.int .i64 0,.int .i64 0,.int .i64 0,.int .i64 0] 104)).drew fun e w'=>e=.returned (lt.join saw).val∧w'.cell? ⟨W6.heap.size,0,none⟩=some (.int .i64 0)∧w'.cell? ⟨W6.heap.size,1,none⟩=some (.int .i64 0)∧w'.cell? ⟨W6.heap.size,2,none⟩=some (.int .i64 0)∧w'.cell? ⟨W6.heap.size,3,none⟩=some (.int .i64 0)∧w'.cell? ⟨W6.heap.size,4,none⟩=some (.int .i64 0)∧w'.frozen? ⟨W6.heap.size,0,none⟩=false∧w'.frozen? ⟨W6.heap.size,1,none⟩=false∧w'.frozen? ⟨W6.heap.size,2,none⟩=false∧w'.frozen? ⟨W6.heap.size,3,none⟩=false∧w'.frozen? ⟨W6.heap.size,4,none⟩=false∧W6.heap.size<w'.heap.size∧Hid (Blk w' W6.heap.size [.int .i64 0,.int .i64 0,.int .i64 0,.int .i64 0,.int .i64 0] 104∧Below W6.heap.size W6 w')):=by
    have hBa:Below W6.heap.size W6 (W6.alloc (.cells #[.int .i64 0,.int .i64 0,.int .i64 0,.int .i64 0,.int .i64 0] 104)).drew:=((Below.refl _ _).alloc (Nat.le_refl _) _).drew
    refine (join_any _ lt saw).mono ?_
    rintro e w' ⟨rfl,hB⟩
    have hB':Below W6.heap.size W6 w':=hBa.trans (hB.mono hBa.size)
    have bz:Blk (W6.alloc (.cells #[.int .i64 0,.int .i64 0,.int .i64 0,.int .i64 0,.int .i64 0] 104)).drew W6.heap.size [.int .i64 0,.int .i64 0,.int .i64 0,.int .i64 0,.int .i64 0] 104:=heap_alloc_new W6 _
    have bz':=bz.below hB
    exact ⟨rfl,bz'.cell 0,bz'.cell 1,bz'.cell 2,bz'.cell 3,bz'.cell 4,bz'.frozen 0,bz'.frozen 1,bz'.frozen 2,bz'.frozen 3,bz'.frozen 4,bz'.lt,bz',hB'⟩
   clear hW6 hB6 b6 q0 q1 q2 q3 q4 q5 q6 q7 hlc hl6 hlat hlt' HS
   generalize hjn:lt.join saw=jn at *
   go_cut [7] (fun pt wc=>∃ db,pt=bptr db∧Hid (W6.heap.size≤db∧Blk wc db jn.cells 104∧Below W6.heap.size W6 wc))
   case first=>
    go_region_with (first | (go_at_call 118;show Calls _ _ _ (World.drew (World.alloc _ _)) _;refine HVb.out.mono ?_;rintro e w5 ⟨rfl,k0,k1,k2,k3,k4,y0,y1,y2,y3,y4,z1,hB5⟩) | (go_at_call 118;refine HVa.out.mono ?_;rintro e w5 ⟨rfl,hB5⟩))
    all_goals go_wp2_with fail
    all_goals go_meet
    all_goals
     first
      | exact ⟨_,rfl,hB5.out.size,heap_alloc_new w5 _,hB5.out.alloc hB5.out.size _⟩
      | exact ⟨_,rfl,Nat.le_refl _,((((hB5.out.1.set 0 _).set 1 _).set 2 _).set 3 _).set 4 _,((((hB5.out.2.setCell (Nat.le_refl _) _).setCell (Nat.le_refl _) _).setCell (Nat.le_refl _) _).setCell (Nat.le_refl _) _).setCell (Nat.le_refl _) _⟩
   case rest=>
    obtain ⟨db,rfl,hdb⟩:=hcut
    have hBc:=hdb.out.2.2
    have H7:=hide (H6.out.later hBc)
    have hl7:=HL6.out.1.below hBc
    have b7:=HB6.out.below hBc
    have n7:=hdb.out.2.1
    have zdb:W6.heap.size≤db:=hdb.out.1
    have HR8:=hide H6.out.row
    have zd:db<wc.heap.size:=n7.lt
    clear s0 s2 s3 s4 s5 s6 t0 t1 t2 t3 t4
    have s0:wc.cell? ⟨wr.heap.size,0,none⟩=some (.int .i64 rep):=b7.cell 0
    have s1:wc.cell? ⟨wr.heap.size,1,none⟩=some (.int .i64 seq):=b7.cell 1
    have u0:wc.cell? ⟨db,rep,none⟩=some (.int .i64 (jn.get rep)):=by rw [n7.cell rep];exact vec_cell _ hrep
    have u1:wc.frozen? ⟨db,rep,none⟩=false:=n7.frozen rep
    clear HVa HVb
    go_upto_region 8 with (fail)
    have n8:Blk (wc.setCell ⟨db,rep,none⟩ (.int .i64 (seq - 1))) db (jn.put rep (seq - 1)).cells 104:=by rw [← put_cells _ hrep];exact n7.set rep _
    have l8:=hl7.other (p:=⟨db,rep,none⟩) (by show w.heap.size≠db;omega) (.int .i64 (seq - 1))
    have b8:=b7.other (p:=⟨db,rep,none⟩) (by show wr.heap.size≠db;omega) (.int .i64 (seq - 1))
    have B8:=H7.out.bel.setCell (p:=⟨db,rep,none⟩) (by show w.heap.size≤db;omega) (.int .i64 (seq - 1))
    have r8:(wc.setCell ⟨db,rep,none⟩ (.int .i64 (seq - 1))).ownsRow w.heap.size 104 5 (.slice a0 n0 c0) k ((needsFrom noLat ((l.map Prod.fst).take k)).flatMap Vec.cells):=by
     refine own_move H7.out.row fun q hq=>Below.heap_setCell _ _ _ _ fun e=>?_
     have h1:=(HR8.out.lt q hq).2
     have e':q=db:=e
     omega
    clear u0 u1 s0 s1 n7 hl7 b7 H7 hdb hBc H6
    have HN8:=hide (⟨l8,b8,B8,r8⟩:_∧_∧_∧_)
    have zd8:db<(wc.setCell ⟨db,rep,none⟩ (.int .i64 (seq - 1))).heap.size:=n8.lt
    generalize hnd:jn.put rep (seq - 1)=nd at *
    have HND:Hid (needOf (latFold noLat ((l.map Prod.fst).take k)) ⟨rep,seq,saw,m⟩=nd):=by
     show needOf _ _=nd
     rw [← hnd,← hjn,HL6.out.2.1,← HL6.out.2.2];rfl
    clear hnd hjn
    generalize World.setCell _ _ _=W8 at *
    have s0:W8.cell? ⟨wr.heap.size,0,none⟩=some (.int .i64 rep):=b8.cell 0
    have v0:W8.cell? ⟨db,0,none⟩=some (.int .i64 nd.a):=n8.cell 0
    have v1:W8.cell? ⟨db,1,none⟩=some (.int .i64 nd.b):=n8.cell 1
    have v2:W8.cell? ⟨db,2,none⟩=some (.int .i64 nd.c):=n8.cell 2
    have v3:W8.cell? ⟨db,3,none⟩=some (.int .i64 nd.d):=n8.cell 3
    have v4:W8.cell? ⟨db,4,none⟩=some (.int .i64 nd.e):=n8.cell 4
    have hlc:∀ j,j<5→W8.cell? ⟨w.heap.size,rep * 5+j,none⟩=some (.int .i64 ((lat rep).get j)):=fun j hj=>by rw [l8.cell (rep * 5+j)];exact lat_cell lat hrep hj
    have x0:W8.cell? ⟨w.heap.size,rep * 5,none⟩=some (.int .i64 (lat rep).a):=hlc 0 (by omega)
    have x1:W8.cell? ⟨w.heap.size,rep * 5+1,none⟩=some (.int .i64 (lat rep).b):=hlc 1 (by omega)
    have x2:W8.cell? ⟨w.heap.size,rep * 5+2,none⟩=some (.int .i64 (lat rep).c):=hlc 2 (by omega)
    have x3:W8.cell? ⟨w.heap.size,rep * 5+3,none⟩=some (.int .i64 (lat rep).d):=hlc 3 (by omega)
    have x4:W8.cell? ⟨w.heap.size,rep * 5+4,none⟩=some (.int .i64 (lat rep).e):=hlc 4 (by omega)
    have y0:W8.frozen? ⟨w.heap.size,rep * 5,none⟩=false:=l8.frozen _
    have y1:W8.frozen? ⟨w.heap.size,rep * 5+1,none⟩=false:=l8.frozen _
    have y2:W8.frozen? ⟨w.heap.size,rep * 5+2,none⟩=false:=l8.frozen _
    have y3:W8.frozen? ⟨w.heap.size,rep * 5+3,none⟩=false:=l8.frozen _
    have y4:W8.frozen? ⟨w.heap.size,rep * 5+4,none⟩=false:=l8.frozen _
    have HND8:=hide n8
    clear l8 b8 B8 r8 n8 hlc
    go_upto_region 9 with (fail)
    have l9:=((((HN8.out.1.set (rep * 5) (.int .i64 nd.a)).set (rep * 5+1) (.int .i64 nd.b)).set (rep * 5+2) (.int .i64 nd.c)).set (rep * 5+3) (.int .i64 nd.d)).set (rep * 5+4) (.int .i64 nd.e)
    rw [lat_set lat hrep nd] at l9
    have hT9:Touch (fun q=>q=w.heap.size) W8 (((((W8.setCell ⟨w.heap.size,rep * 5,none⟩ (.int .i64 nd.a)).setCell ⟨w.heap.size,rep * 5+1,none⟩ (.int .i64 nd.b)).setCell ⟨w.heap.size,rep * 5+2,none⟩ (.int .i64 nd.c)).setCell ⟨w.heap.size,rep * 5+3,none⟩ (.int .i64 nd.d)).setCell ⟨w.heap.size,rep * 5+4,none⟩ (.int .i64 nd.e)):=
     (((((Touch.refl (fun q=>q=w.heap.size) W8).setCell (p:=⟨w.heap.size,rep * 5,none⟩) (Or.inl rfl) _).setCell (p:=⟨w.heap.size,rep * 5+1,none⟩) (Or.inl rfl) _).setCell (p:=⟨w.heap.size,rep * 5+2,none⟩) (Or.inl rfl) _).setCell (p:=⟨w.heap.size,rep * 5+3,none⟩) (Or.inl rfl) _).setCell (p:=⟨w.heap.size,rep * 5+4,none⟩) (Or.inl rfl) _
    clear s0 v0 v1 v2 v3 v4 x0 x1 x2 x3 x4 y0 y1 y2 y3 y4
    generalize World.setCell _ _ _=W9 at *
    have n9:=HND8.out.touch hT9 (by omega)
    have B9:Below w.heap.size w W9:=below_tch HN8.out.2.2.1 hT9 (Nat.le_refl _) HN8.out.2.2.1.size
    have r9:W9.ownsRow w.heap.size 104 5 (.slice a0 n0 c0) k ((needsFrom noLat ((l.map Prod.fst).take k)).flatMap Vec.cells):=by
     refine own_move HN8.out.2.2.2 fun q hq=>hT9.block q (HN8.out.2.2.2.lt q hq).2 fun e=>?_
     exact own_other HN8.out.1 HN8.out.2.2.2 (by decide) (by rw [hq,e])
    have v0:W9.cell? ⟨db,0,none⟩=some (.int .i64 nd.a):=n9.cell 0
    have v1:W9.cell? ⟨db,1,none⟩=some (.int .i64 nd.b):=n9.cell 1
    have v2:W9.cell? ⟨db,2,none⟩=some (.int .i64 nd.c):=n9.cell 2
    have v3:W9.cell? ⟨db,3,none⟩=some (.int .i64 nd.d):=n9.cell 3
    have v4:W9.cell? ⟨db,4,none⟩=some (.int .i64 nd.e):=n9.cell 4
    have H9:=hide (⟨l9,B9,r9⟩:_∧_∧_)
    clear n9 l9 B9 r9 hT9 HN8 HND8
    go_wp2_with (at_builtin;refine wpList_append_own _ rfl _ _ 209 rfl w.heap.size 104 i0 noVec.val 5 40 Tryz.underlying209 hi hz0 hz1 hz2 rfl (by decide) _ _ _ rfl (H9.out.2.2.alloc _) ⟨W9.heap.size,0,none⟩ 1 1 nd.cells rfl rfl (cells_new W9 nd.cells _) (by intro u' hu';simp at hu';rcases hu' with rfl | rfl | rfl | rfl | rfl <;> rfl) (by unfold maxLen;omega) (by omega) (by have:=H9.out.2.1.size;simp;omega) ?_;intro v' w1 hown' hgrow hne;obtain ⟨a1,n1,c1,rfl⟩:=own_shape hown';have HO:=hide (⟨hown',hgrow⟩:_∧_);clear hown' hgrow hne)
    have HF9:Hid (NeedAt w (l.map Prod.fst) (k+1) (.slice a1 n1 c1) w1):=by
     have hg:=HO.out.2
     refine ⟨(H9.out.2.1.alloc H9.out.2.1.size _).grown hg (by have:=H9.out.2.1.size;simp;omega) (fun q hq=>(H9.out.2.2.lt q hq).1),?_,?_⟩
     ·rw [HX.out.2,latFold_snoc,HND.out,HL6.out.2.1]
      exact (H9.out.1.alloc _).move (hg.block _ (by have:=H9.out.1.lt;simp;omega) (fun e=>own_other H9.out.1 H9.out.2.2 (by decide) e.symm))
     ·rw [HX.out.2,needsFrom_snoc,HND.out,List.flatMap_append,List.flatMap_cons,List.flatMap_nil,List.append_nil]
      exact HO.out.1
    clear HO H9
    exact ⟨⟨k+1,_,_,_,by omega,by go_num,rfl,HF9.out⟩,by simp [intOf];omega⟩
  ·have hkn:k=l.length:=by omega
   subst hkn
   go_wp2_with fail
   go_ret
   refine ⟨_,rfl,?_,HS.out.bel⟩
   have a:=HS.out.row
   rw [List.take_of_length_le (by simp)] at a
   exact a
end Go.Proofs.YtiplgdkpnhamaaaGreatDoor
namespace Go.Proofs.YtiplgdkpnhamaaaGreatDoor
open Go.RowKit Go.Sort
open Go.Maps (Keyed)
theorem dot_keyed:Keyed Tryz.prog 62:=Maps.Keyed.of_law (deep_law_laid (m:=6) (by kernel_rfl) (by omega) (of_decide_eq_true (by kernel_rfl)) (by kernel_rfl) (by kernel_rfl))
theorem dot_inj (p q:Dot) (h:p.val=q.val):p=q:=by
 obtain ⟨a,b⟩:=p
 obtain ⟨c,d⟩:=q
 simp only [Dot.val,Value.agg.injEq,Array.mk.injEq,List.cons.injEq,Value.int.injEq,true_and,and_true] at h
 obtain ⟨rfl,rfl⟩:=h
 rfl
theorem dot_key (x:Dot) (h3:(Lit.int .i64 x.rep).wf=true) (h4:(Lit.int .i64 x.seq).wf=true):∃ kl,keyOf Tryz.prog 62 x.val=some kl:=by
 have hk:Tryz.prog.keyType 62=true:=by kernel_rfl
 have hf:x.val.formed Tryz.prog 62=true:=by simp [Value.formed,Tryz.underlying62,cellsDot]
 have hd:Tryz.prog.types.size+1=(Tryz.prog.types.size - 1)+2:=by have:=manyTypes;omega
 have hl:Tryz.prog.keyLits (Tryz.prog.types.size+1) 62 x.val.cells.toList=some [.int .i64 x.rep,.int .i64 x.seq]:=by
  rw [hd];exact dot_lits _ _ _ h3 h4
 refine ⟨.string (keyBytes [.int .i64 x.rep,.int .i64 x.seq]),?_⟩
 unfold keyOf
 rw [Tryz.underlying62]
 simp only [hk,hf,hl]
 rfl
theorem zeroVec (w:World):(zeroValue 104).run Tryz.prog w=.ok noVec.val w:=by kernel_rfl
theorem i64_wf {s:Int} (h0:-9223372036854775808≤s) (h1:s≤9223372036854775807):(Lit.int .i64 s).wf=true:=by
 have e1:IntKind.i64.min=-9223372036854775808:=by decide
 have e2:IntKind.i64.max=9223372036854775807:=by decide
 simp only [Lit.wf,e1,e2,Bool.and_eq_true,decide_eq_true_eq]
 omega
def needMap:List (Dot × Vec)→Dot→Option Vec
 | []=>fun _=>none
 | x :: l=>fun d=>(needMap l d).or (if d=x.1 then some x.2 else none)
theorem needMap_snoc:∀ (l:List (Dot × Vec)) (x:Dot × Vec),needMap (l ++ [x])=fun d=>if d=x.1 then some x.2 else needMap l d
 | [],x=>by funext d;simp [needMap]
 | a :: l,x=>by
  funext d
  show (needMap (l ++ [x]) d).or _=_
  rw [needMap_snoc l x]
  by_cases c:d=x.1
  ·simp [c]
  ·simp [c,needMap]
abbrev Tr.dot (t:Tr):Dot:=⟨t.rep,t.seq⟩
def dotNeeds (l:List Tr):List (Dot × Vec):=(l.map Tr.dot).zip (needsOf l)
def SawOk (l:List Tr):Prop:=∀ t,t ∈ l→∀ r:Nat,r<5→t.saw.incl ((needMap (dotNeeds l) ⟨r,t.saw.get r⟩).getD noVec)=true
end Go.Proofs.YtiplgdkpnhamaaaGreatDoor
namespace Go.Proofs.YtiplgdkpnhamaaaGreatDoor
open Go.RowKit Go.Sort
theorem vrow_cell {w:World} {base g cap:Nat} {l:List Vec} (hr:w.ownsRow base 104 5 (.slice (some ⟨g,0,none⟩) l.length cap) l.length (l.flatMap Vec.cells)) {k:Nat} (hk:k<l.length) {j:Nat} (hj:j<5):w.cell? ⟨g,k * 5+j,none⟩=some (.int .i64 (l[k].get j)):=by
 rw [World.ownsRow.cellAt hr (k * 5+j) (by omega),flat_get Vec.cells 5 (fun _=>rfl) l k j hk hj]
 exact vec_cell _ hj
theorem dots_length (L:List Tr):(dotNeeds L).length=L.length:=by simp [dotNeeds,needsOf,needs_length]
theorem dots_get (L:List Tr) {k:Nat} (hk:k<L.length) (hk':k<(dotNeeds L).length):(dotNeeds L)[k]=(L[k].dot,(needsOf L)[k]'(by rw [needsOf,needs_length];exact hk)):=by
 simp [dotNeeds]
structure ChkAt (w:World) (L:List Tr) (k:Nat) (nv:Value) (wr:World):Prop where
 bel:Below w.heap.size w wr
 map:MapIn wr 62 w.heap.size k Dot.val Vec.val (needMap ((dotNeeds L).take k))
 row:wr.ownsRow (w.heap.size+1) 104 5 nv L.length ((needsOf L).flatMap Vec.cells)
theorem ChkAt.later {w:World} {L:List Tr} {k:Nat} {nv:Value} {wr w':World} (h:ChkAt w L k nv wr) (hb:Below wr.heap.size wr w'):ChkAt w L k nv w':=
 ⟨h.bel.trans (hb.mono h.bel.size),h.map.move (hb.block _ h.map.lt),own_move h.row fun g hg=>hb.block g (h.row.lt g hg).2⟩
set_option maxRecDepth 100000 in
set_option maxHeartbeats 8000000 in
theorem check_saw (w:World) (base:Nat) (l:List (Tr × Nat)) (lv:Value) (hrow:w.ownsRow base 139 8 lv l.length (l.flatMap trCells)) (hl:l.length≤50000000) (hf:∀ x,x ∈ l→x.1.rep<5∧0≤x.1.seq∧x.1.seq≤9223372036854775807∧x.1.saw.small) (hs:SawOk (l.map Prod.fst)) :
  Calls Tryz.prog 171 #[lv] w fun e w'=>e=.returned (.tuple #[])∧Below w.heap.size w w':=by
 obtain ⟨ao,cap,rfl,hao⟩:=Row.shape (ownsRow_low hrow (Nat.zero_le _))
 have hmm:=@run_makeMap Tryz.prog
 generalize hW0:w.alloc (.map #[] 0)=W0
 have hB0:Below w.heap.size w W0:=by rw [← hW0];exact (Below.refl _ _).alloc (Nat.le_refl _) _
 have hz0:W0.heap.size=w.heap.size+1:=by rw [← hW0];simp
 have m0:MapIn W0 62 w.heap.size 0 Dot.val Vec.val (needMap ((dotNeeds (l.map Prod.fst)).take 0)):=by rw [← hW0];exact MapIn.made w _ _ _
 have hN:=needs_any W0 base l _ (own_move hrow fun g hg=>hB0.block g (hrow.lt g hg).2) hl (fun x hx=>⟨(hf x hx).1,(hf x hx).2.1,(hf x hx).2.2.1⟩)
 have HN:=hide hN
 have H0:=hide (⟨hB0,m0⟩:_∧_)
 have HW0:=hide hW0
 have HR:=hide hrow
 have HF:=hide hf
 have HSO:=hide hs
 clear hW0 hB0 m0 hN hrow hf hs
 go_enter Tryz.func171,Tryz.ntmps171
 go_wp2_with (go_at_call 125;rw [HW0.out];refine HN.out.mono ?_;rintro e w1 ⟨nv,rfl,hrn,hB1⟩;refine Hid.out ?_)
 refine Lib.hid ?_
 have hln:(needsOf (l.map Prod.fst)).length=l.length:=by rw [needsOf,needs_length];simp
 have hrn':w1.ownsRow (w.heap.size+1) 104 5 nv l.length ((needsOf (l.map Prod.fst)).flatMap Vec.cells):=by rw [← hz0];exact hrn
 obtain ⟨an,cn,rfl,han⟩:=Row.shape (ownsRow_low hrn' (Nat.zero_le _))
 have H1:Hid (ChkAt w (l.map Prod.fst) 0 (.slice an l.length cn) w1):=⟨H0.out.1.trans (hB1.mono H0.out.1.size),H0.out.2.move (hB1.block _ H0.out.2.lt),by rw [List.length_map];exact hrn'⟩
 clear hrn hrn' hB1 H0 HN HW0
 go_upto_region 2 with (fail)
 go_loopw [3,4,13] (fun _ _ ii wr=>∃ k:Nat,k≤l.length∧ii=.int .i64 k∧Hid (ChkAt w (l.map Prod.fst) k (.slice an l.length cn) wr)) (fun _ _ ii _=>l.length - (intOf ii).toNat)
 case atStart=>exact ⟨0,Nat.zero_le _,rfl,H1.out⟩
 case round=>
  clear H1
  obtain ⟨k,hk,rfl,HS⟩:=hrel
  by_cases hlt:k<l.length
  ·have hx:=HF.out l[k] (List.getElem_mem hlt)
   obtain ⟨g,hg,-⟩:=hao.2.2 0 (by omega)
   subst hg
   obtain ⟨gn,hgn,-⟩:=han.2.2 0 (by omega)
   subst hgn
   have hc:=fun (j:Nat) (hj:j<8)=>tr_cell HR.out HS.out.bel hlt hj
   have hrw:=HS.out.row
   rw [List.length_map,← hln] at hrw
   have hkn:k<(needsOf (l.map Prod.fst)).length:=by rw [hln];exact hlt
   have hv:=fun (j:Nat) (hj:j<5)=>vrow_cell hrw hkn hj
   have hdg:=dots_get (l.map Prod.fst) (k:=k) (by simpa using hlt) (by rw [dots_length];simpa using hlt)
   generalize hnd:(needsOf (l.map Prod.fst))[k]=nd at *
   have v0:wr.cell? ⟨gn,k * 5,none⟩=some (.int .i64 nd.a):=hv 0 (by omega)
   have v1:wr.cell? ⟨gn,k * 5+1,none⟩=some (.int .i64 nd.b):=hv 1 (by omega)
   have v2:wr.cell? ⟨gn,k * 5+2,none⟩=some (.int .i64 nd.c):=hv 2 (by omega)
   have v3:wr.cell? ⟨gn,k * 5+3,none⟩=some (.int .i64 nd.d):=hv 3 (by omega)
   have v4:wr.cell? ⟨gn,k * 5+4,none⟩=some (.int .i64 nd.e):=hv 4 (by omega)
   have hd2:(dotNeeds (l.map Prod.fst)).take (k+1)=(dotNeeds (l.map Prod.fst)).take k ++ [(l[k].1.dot,nd)]:=by
    rw [List.take_succ_eq_append_getElem (by rw [dots_length];simpa using hlt),hdg];simp
   generalize hp:l[k]=p at *
   obtain ⟨⟨rep,seq,saw,m⟩,mb⟩:=p
   have q0:wr.cell? ⟨g,k * 8,none⟩=some (.int .i64 rep):=hc 0 (by omega)
   have q1:wr.cell? ⟨g,k * 8+1,none⟩=some (.int .i64 seq):=hc 1 (by omega)
   have hrep:rep<5:=hx.1
   have hgl:g<wr.heap.size:=Nat.lt_of_lt_of_le (HR.out.lt g rfl).2 HS.out.bel.size
   obtain ⟨kl,hkl⟩:=dot_key ⟨rep,seq⟩ (rep_wf (by show (0:Int)≤rep;omega) (by show (rep:Int)<5;omega)) (i64_wf (by have h0:0≤seq:=hx.2.1;show -9223372036854775808≤seq;omega) hx.2.2.1)
   have HX:=hide (⟨hd2,hkl⟩:_∧_)
   clear hx hp hd2 hc hv hrw hdg hnd hkl
   go_upto_region 4 with (fail)
   generalize hW6:wr.alloc (.cells #[.int .i64 nd.a,.int .i64 nd.b,.int .i64 nd.c,.int .i64 nd.d,.int .i64 nd.e] 104)=W6
   have hB6:Below wr.heap.size wr W6:=by rw [← hW6];exact (Below.refl _ _).alloc (Nat.le_refl _) _
   have b6:Blk W6 wr.heap.size nd.cells 104:=by rw [← hW6];exact heap_alloc_new wr _
   have H6:=hide (HS.out.later hB6)
   have s0:=Bel.cell (show W6.cell? ⟨wr.heap.size,0,none⟩=some (.int .i64 nd.a) from b6.cell 0)
   have s1:=Bel.cell (show W6.cell? ⟨wr.heap.size,1,none⟩=some (.int .i64 nd.b) from b6.cell 1)
   have s2:=Bel.cell (show W6.cell? ⟨wr.heap.size,2,none⟩=some (.int .i64 nd.c) from b6.cell 2)
   have s3:=Bel.cell (show W6.cell? ⟨wr.heap.size,3,none⟩=some (.int .i64 nd.d) from b6.cell 3)
   have s4:=Bel.cell (show W6.cell? ⟨wr.heap.size,4,none⟩=some (.int .i64 nd.e) from b6.cell 4)
   have p0:=Bel.cell (cell_later hB6 q0)
   have p1:=Bel.cell (cell_later hB6 q1)
   clear hW6 hB6 b6 q0 q1 v0 v1 v2 v3 v4 HS
   refine region_fam_tail (Bel W6) 7 (by kernel_rfl) (by kernel_rfl) (Below.refl _ _).drew ?_
   simp only [List.take_succ_cons,List.take_zero,List.drop_succ_cons,List.drop_zero]
   repeat (go_big_quiet_step (fail))
   refine wpQuiet_nil ?_
   intro _ hw'
   obtain ⟨fq,rfl⟩:=hw'
   obtain ⟨W7,hB7⟩:=fq
   try dsimp only
   clear s0 s1 s2 s3 s4 p0 p1
   have H7:=hide (H6.out.later hB7)
   obtain ⟨w8,hrun8,hmap8,hg8⟩:=H7.out.map.store dot_keyed Tryz.underlying301 dot_inj (by unfold maxLen;omega) HX.out.2 nd
   have HR8:Hid (ChkAt w (l.map Prod.fst) (k+1) (.slice (some ⟨gn,0,none⟩) l.length cn) w8):=by
    refine ⟨H7.out.bel.grown hg8 H7.out.bel.size (fun q hq=>by have:=Option.some.inj hq;omega),?_,own_move H7.out.row fun q hq=>hg8.block q (H7.out.row.lt q hq).2 (fun e=>by have h1:=(H7.out.row.lt q hq).1;have:=Option.some.inj e;omega)⟩
    rw [HX.out.1,needMap_snoc]
    exact hmap8
   clear hmap8 hg8 H7 H6 hB7
   go_wp2_with fail
   exact ⟨⟨k+1,by omega,by go_num,HR8.out⟩,by simp [intOf];omega⟩
  ·have hkn:k=l.length:=by omega
   subst hkn
   go_upto_region 7 with (fail)
   go_loopw [6,7,8,28,34] (fun _ _ _ ii _ wq=>∃ k:Nat,k≤l.length∧ii=.int .i64 k∧Hid (ChkAt w (l.map Prod.fst) l.length (.slice an l.length cn) wq)) (fun _ _ _ ii _ _=>l.length - (intOf ii).toNat)
   case atStart=>exact ⟨0,Nat.zero_le _,rfl,HS.out⟩
   case round=>
    clear HS
    obtain ⟨k,hk2,rfl,HS⟩:=hrel
    by_cases hlt:k<l.length
    ·have hx:=HF.out l[k] (List.getElem_mem hlt)
     obtain ⟨g,hg,-⟩:=hao.2.2 0 (by omega)
     subst hg
     have hc:=fun (j:Nat) (hj:j<8)=>tr_cell HR.out HS.out.bel hlt hj
     have hso:=HSO.out l[k].1 (List.mem_map.2 ⟨l[k],List.getElem_mem hlt,rfl⟩)
     generalize hp:l[k]=p at *
     obtain ⟨⟨rep,seq,saw,m⟩,mb⟩:=p
     have q0:wr.cell? ⟨g,k * 8,none⟩=some (.int .i64 rep):=hc 0 (by omega)
     have q1:wr.cell? ⟨g,k * 8+1,none⟩=some (.int .i64 seq):=hc 1 (by omega)
     have q2:wr.cell? ⟨g,k * 8+2,none⟩=some (.int .i64 saw.a):=hc 2 (by omega)
     have q3:wr.cell? ⟨g,k * 8+3,none⟩=some (.int .i64 saw.b):=hc 3 (by omega)
     have q4:wr.cell? ⟨g,k * 8+4,none⟩=some (.int .i64 saw.c):=hc 4 (by omega)
     have q5:wr.cell? ⟨g,k * 8+5,none⟩=some (.int .i64 saw.d):=hc 5 (by omega)
     have q6:wr.cell? ⟨g,k * 8+6,none⟩=some (.int .i64 saw.e):=hc 6 (by omega)
     have q7:wr.cell? ⟨g,k * 8+7,none⟩=some (.map (some mb)):=hc 7 (by omega)
     have HX:=hide (⟨hso,hx.2.2.2⟩:_∧_)
     clear hx hp hso hc
     go_upto_region 10 with (fail)
     generalize hW6:wr.alloc (.cells #[.int .i64 rep,.int .i64 seq,.int .i64 saw.a,.int .i64 saw.b,.int .i64 saw.c,.int .i64 saw.d,.int .i64 saw.e,.map (some mb)] 139)=W6
     have hB6:Below wr.heap.size wr W6:=by rw [← hW6];exact (Below.refl _ _).alloc (Nat.le_refl _) _
     have b6:Blk W6 wr.heap.size [.int .i64 rep,.int .i64 seq,.int .i64 saw.a,.int .i64 saw.b,.int .i64 saw.c,.int .i64 saw.d,.int .i64 saw.e,.map (some mb)] 139:=by rw [← hW6];exact heap_alloc_new wr _
     have H6:=hide (⟨HS.out.later hB6,b6⟩:_∧_)
     clear hW6 hB6 b6 q0 q1 q2 q3 q4 q5 q6 q7 HS
     obtain ⟨tb,htb⟩:∃ tb,wr.heap.size=tb:=⟨_,rfl⟩
     rw [htb] at H6
     rw [htb]
     clear htb
     go_loopw [7,8,34] (fun _ _ jj wj=>∃ r:Nat,r≤5∧jj=.int .i64 r∧Hid (ChkAt w (l.map Prod.fst) l.length (.slice an l.length cn) wj∧Blk wj tb [.int .i64 rep,.int .i64 seq,.int .i64 saw.a,.int .i64 saw.b,.int .i64 saw.c,.int .i64 saw.d,.int .i64 saw.e,.map (some mb)] 139)) (fun _ _ jj _=>5 - (intOf jj).toNat)
     case atStart=>exact ⟨0,Nat.zero_le _,rfl,H6.out⟩
     case round=>
      clear H6
      obtain ⟨r,hr5,rfl,HJ⟩:=hrel
      by_cases hlr:r<5
      ·have hix:=idx5_at saw r hlr
       have hsm:=HX.out.2 r hlr
       have hok:=HX.out.1 r hlr
       have g1:(r:Int)<5:=by omega
       obtain ⟨sq,hsq⟩:∃ sq,saw.get r=sq:=⟨_,rfl⟩
       simp only [hsq] at hix hok hsm
       obtain ⟨kl,hkl⟩:=dot_key ⟨r,sq⟩ (rep_wf (by show (0:Int)≤r;omega) (by show (r:Int)<5;omega)) (i64_wf (by show -9223372036854775808≤sq;have:=hsm.1;omega) (by show sq≤9223372036854775807;have:=hsm.2;simp only [maxSeq] at this;omega))
       obtain ⟨nd,hnd⟩:∃ nd,(needMap (dotNeeds (l.map Prod.fst)) ⟨r,sq⟩).getD noVec=nd:=⟨_,rfl⟩
       rw [hnd] at hok
       have s3:∀ f:Fam (Bel wr),(Instr.lookup 301 (.map (some w.heap.size)) (.agg #[.int .i64 r,.int .i64 sq]) false).run Tryz.prog f.w=.ok nd.val f.w:=fun f=>by
        have hmp:=HJ.out.1.map
        rw [List.take_of_length_le (by rw [dots_length];simp)] at hmp
        have a:=(hmp.move (f.ok.block _ hmp.lt)).lookup dot_keyed Tryz.underlying301 (zeroVec f.w) hkl
        rw [← hnd]
        refine a.trans ?_
        cases needMap (dotNeeds (l.map Prod.fst)) ⟨r,sq⟩ <;> rfl
       have s4:∀ f:Fam (Bel wr),Calls Tryz.prog 130 #[saw.val,nd.val] f.w fun e w''=>e=.returned (.bool true)∧∃ g:Fam (Bel wr),w''=g.w:=fun f=>Bel.call f (by
        have a:=includes_any f.w saw nd
        rw [hok] at a
        exact a)
       have HI:=hide s4
       have c2:=Bel.cell (show wr.cell? ⟨tb,2,none⟩=some (.int .i64 saw.a) from HJ.out.2.cell 2)
       have c3:=Bel.cell (show wr.cell? ⟨tb,3,none⟩=some (.int .i64 saw.b) from HJ.out.2.cell 3)
       have c4:=Bel.cell (show wr.cell? ⟨tb,4,none⟩=some (.int .i64 saw.c) from HJ.out.2.cell 4)
       have c5:=Bel.cell (show wr.cell? ⟨tb,5,none⟩=some (.int .i64 saw.d) from HJ.out.2.cell 5)
       have c6:=Bel.cell (show wr.cell? ⟨tb,6,none⟩=some (.int .i64 saw.e) from HJ.out.2.cell 6)
       clear hok hnd hkl hsq s4 hsm
       go_upto_region 12 with (fail)
       refine region_fam_tail (Bel wr) 8 (by kernel_rfl) (by kernel_rfl) (Below.refl _ _).drew ?_
       simp only [List.take_succ_cons,List.take_zero,List.drop_succ_cons,List.drop_zero]
       repeat (go_big_quiet_step (first | (go_at_call 130;exact HI.out _)))
       refine wpQuiet_nil ?_
       intro _ hw'
       obtain ⟨fq,rfl⟩:=hw'
       obtain ⟨W7,hB7⟩:=fq
       try dsimp only
       have HJ7:=hide (⟨HJ.out.1.later hB7,HJ.out.2.below hB7⟩:_∧_)
       clear s3 c2 c3 c4 c5 c6 HI HJ hB7 hix
       go_wp2_with (go_at_call 159;refine (demand_ok _).mono ?_;rintro e w8 ⟨rfl,rfl⟩)
       exact ⟨⟨r+1,by omega,by go_num,HJ7.out⟩,by simp [intOf];omega⟩
      ·have hr:r=5:=by omega
       subst hr
       go_wp2_with fail
       exact ⟨⟨k+1,by omega,by go_num,HJ.out.1⟩,by simp [intOf];omega⟩
    ·have hkn:k=l.length:=by omega
     subst hkn
     go_wp2_with fail
     go_end0
     exact ⟨rfl,HS.out.bel⟩
end Go.Proofs.YtiplgdkpnhamaaaGreatDoor
