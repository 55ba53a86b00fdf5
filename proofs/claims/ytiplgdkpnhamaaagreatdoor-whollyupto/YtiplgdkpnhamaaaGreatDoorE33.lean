/- The texts U10, U11, U12, U13, U14, U15, U16, U17, joined. -/
import Derived.Test.YtiplgdkpnhamaaaGreatDoorE32
import Derived.Test.YtiplgdkpnhamaaaGreatDoorE31
import Derived.Test.YtiplgdkpnhamaaaGreatDoorE30
import Derived.Test.YtiplgdkpnhamaaaGreatDoorE29
import Derived.Lib.IndexLaws
import Derived.Recover
import Derived.Defers
import Derived.Tactics2
import Derived.Laws.Pointers
namespace Go.Proofs.YtiplgdkpnhamaaaGreatDoor
open Go.RowKit
theorem index_byte (s:ByteArray) (w:World):Calls Tryz.prog 196 #[.string s,.int .u8 32] w fun e w'=>e=.returned (.int .i64 (Lib.indexByte s.data.toList 32)) ∧ w'=w:=
 Any.strings_IndexByte Tryz.indexByte s 32 w
theorem itoa_any (n:Int) (h0:-9223372036854775808 ≤ n) (h1:n ≤ 9223372036854775807) (w:World) (h:Tabs w):Calls Tryz.prog 198 #[.int .i64 n] w fun e w'=>e=.returned (.string ⟨(Lib.itoa n).toArray⟩) ∧ Below w.heap.size w w':=by
 refine (Any.strconv_Itoa Tryz.itoa n h0 h1 w h.pow).mono ?_
 rintro e w' ⟨rfl,k,os,rfl⟩
 exact ⟨rfl,Lib.below_grow _ _ (Nat.le_refl _) _ _⟩
theorem atoi_ok (s:ByteArray) (hs:s.size ≤ 200000000000) (v:Int) (h:Lib.atoiAll s.data.toList=.ok v) (w:World):Calls Tryz.prog 197 #[.string s] w fun e w'=>e=.returned (.tuple #[.int .i64 v,.nilIface]) ∧ Below w.heap.size w w':=by
 refine (Any.strconv_Atoi_ok Tryz.atoi s (by omega) v h w).mono ?_
 rintro e w' ⟨rfl,rfl | ⟨t,rfl⟩⟩
 ·exact ⟨rfl,Below.refl _ _⟩
 ·exact ⟨rfl,Lib.bytesWorld_below w _ t⟩
theorem idx_found:∀ (u r:List UInt8),(∀ c,c ∈ u → c ≠ 32) → Lib.indexByte (u ++ 32 :: r) 32=u.length
 | [],r,_=>by simp [Lib.indexByte]
 | b :: u,r,h=>by
  have ih:=idx_found u r fun c hc=>h c (by simp [hc])
  have hb:=h b (by simp)
  simp only [List.cons_append,Lib.indexByte,ih]
  rw [if_neg (by simpa using hb),if_neg (by simp)]
  simp
theorem idx_none:∀ (l:List UInt8),(∀ c,c ∈ l → c ≠ 32) → Lib.indexByte l 32=-1
 | [],_=>rfl
 | b :: l,h=>by
  have ih:=idx_none l fun c hc=>h c (by simp [hc])
  have hb:=h b (by simp)
  simp only [Lib.indexByte,ih]
  rw [if_neg (by simpa using hb),if_pos (by decide)]
theorem ext_list (t:ByteArray) (a b:Nat):(t.extract a b).data.toList=(t.data.toList.drop a).take (b - a):=by
 simp [ByteArray.data_extract]
theorem ext_eq (t:ByteArray) (a b:Nat):t.extract a b=⟨((t.data.toList.drop a).take (b - a)).toArray⟩:=by
 apply ByteArray.ext
 rw [← ext_list]
set_option maxRecDepth 100000 in
set_option maxHeartbeats 4000000 in
theorem number_no (w:World) (rb n:Nat) (t:ByteArray) (a:Nat) (lo hi:Int) (h:RdIn w rb n t a) (hx:∀ c,c ∈ t.data.toList.drop a → c ≠ 32) :
  Calls Tryz.prog 161 #[bptr rb,.int .i64 lo,.int .i64 hi] w fun e w'=>e=fault ∧ Touch (fun q=>q=rb) w w':=by
 have c1:∀ f:Fam (Bel w),f.w.cell? ⟨rb,1,none⟩=some (.string t):=Bel.cell (h.blk.cell 1)
 have c2:∀ f:Fam (Bel w),f.w.cell? ⟨rb,2,none⟩=some (.int .i64 a):=Bel.cell (h.blk.cell 2)
 have hle:=h.le
 have hsm:=h.sm
 have e1:Lib.indexByte (t.extract a t.size).data.toList 32=-1:=by
  rw [ext_list,List.take_of_length_le (by simp)]
  exact idx_none _ hx
 have HE:=hide e1
 clear e1 hx h
 go_enter Tryz.func161,Tryz.ntmps161
 go_wp2_with fail
 refine region_fam_tail (Bel w) 9 (by kernel_rfl) (by kernel_rfl) (Below.refl _ _).drew ?_
 simp only [List.take_succ_cons,List.take_zero,List.drop_succ_cons,List.drop_zero]
 repeat (go_big_quiet_step (fail))
 refine wpQuiet_nil ?_
 intro _ hw'
 obtain ⟨fq,rfl⟩:=hw'
 have HB:Hid (Below w.heap.size w fq.w):=fq.ok
 generalize fq.w=w1 at *
 clear c1 c2
 have HI:=hide (index_byte (t.extract a t.size) w1)
 unfold Hid at HI HE
 rw [HE] at HI
 have HI':=hide HI
 clear HI HE
 go_wp2_with (first | (go_at_call 196; refine HI'.out.mono ?_; rintro e w2 ⟨rfl,rfl⟩) | (go_at_call 159; refine (demand_no _).mono ?_; rintro e w2 ⟨rfl,rfl⟩))
 exact ⟨rfl,rfl,Touch.ofBelow HB.out⟩
set_option maxRecDepth 100000 in
set_option maxHeartbeats 4000000 in
theorem number_ok (w:World) (rb n:Nat) (t:ByteArray) (a:Nat) (lo hi k:Int) (r:List UInt8) (h:RdIn w rb n t a) (hx:t.data.toList.drop a=numT k ++ r) (h0:-9223372036854775808 ≤ k) (h1:k ≤ 9223372036854775807) (hlo:lo ≤ k) (hhi:k ≤ hi) (ht:Tabs w) :
  Calls Tryz.prog 161 #[bptr rb,.int .i64 lo,.int .i64 hi] w fun e w'=>e=.returned (.int .i64 k) ∧ RdIn w' rb n t (a + (numT k).length) ∧ Touch (fun q=>q=rb) w w':=by
 have c1:∀ f:Fam (Bel w),f.w.cell? ⟨rb,1,none⟩=some (.string t):=Bel.cell (h.blk.cell 1)
 have c2:∀ f:Fam (Bel w),f.w.cell? ⟨rb,2,none⟩=some (.int .i64 a):=Bel.cell (h.blk.cell 2)
 have hle:=h.le
 have hsm:=h.sm
 have hlen:(t.data.toList.drop a).length=t.size - a:=by simp
 have hl2:(Lib.itoa k).length + 1 + r.length=t.size - a:=by
  rw [← hlen,hx]; simp [numT]; omega
 have e1:Lib.indexByte (t.extract a t.size).data.toList 32=(Lib.itoa k).length:=by
  rw [ext_list,List.take_of_length_le (by simp),hx,numT,List.append_assoc]
  exact idx_found _ _ (itoa_ne k)
 have e2:t.extract a (a + (Lib.itoa k).length)=⟨(Lib.itoa k).toArray⟩:=by
  rw [ext_eq,hx]
  simp [numT]
 obtain ⟨L,hL⟩:∃ L:Nat,(Lib.itoa k).length=L:=⟨_,rfl⟩
 rw [hL] at e1 e2 hl2
 have HE:=hide (⟨e1,e2,hL⟩:_ ∧ _ ∧ _)
 have HH:=hide h
 have HT:=hide ht
 clear e1 e2 hx h hlen hL ht
 go_enter Tryz.func161,Tryz.ntmps161
 go_wp2_with fail
 refine region_fam_tail (Bel w) 9 (by kernel_rfl) (by kernel_rfl) (Below.refl _ _).drew ?_
 simp only [List.take_succ_cons,List.take_zero,List.drop_succ_cons,List.drop_zero]
 repeat (go_big_quiet_step (fail))
 refine wpQuiet_nil ?_
 intro _ hw'
 obtain ⟨fq,rfl⟩:=hw'
 have HB:Hid (Below w.heap.size w fq.w):=fq.ok
 generalize fq.w=w1 at *
 clear c1 c2
 have hi:=index_byte (t.extract a t.size) w1
 rw [HE.out.1] at hi
 have HI:=hide hi
 have H1:=hide (HH.out.later HB.out)
 have HK:=hide (take_ok w1 rb n t a L H1.out (by omega))
 clear hi
 go_wp2_with (first | (go_at_call 196; refine HI.out.mono ?_; rintro e w2 ⟨rfl,rfl⟩) | (go_at_call 159; refine (demand_ok _).mono ?_; rintro e w2 ⟨rfl,rfl⟩) | (go_at_call 160; refine HK.out.mono ?_; rintro e w3 ⟨rfl,h3,t3⟩; refine Hid.out ?_))
 refine Lib.hid ?_
 rw [HE.out.2.1]
 have T3:Hid (Touch (fun q=>q=rb) w w3):=(Touch.ofBelow HB.out).then t3
 have HK3:=hide (take_ok w3 rb n t (a + L) 1 h3 (by omega))
 have hz:(⟨(Lib.itoa k).toArray⟩:ByteArray).size=L:=by rw [← HE.out.2.2]; rfl
 have hat:∀ W:World,Calls Tryz.prog 197 #[.string ⟨(Lib.itoa k).toArray⟩] W fun e w'=>e=.returned (.tuple #[.int .i64 k,.nilIface]) ∧ Below W.heap.size W w':=fun W=>atoi_ok _ (by omega) k (by simpa using atoi_itoa k h0 h1) W
 have HA:=hide hat
 clear h3 t3 HI HK H1 HB hat
 go_wp2_with (first | (go_at_call 160; refine HK3.out.mono ?_; rintro e w4 ⟨rfl,h4,t4⟩; have H4:=hide h4; have T4:=hide t4; clear h4 t4) | (go_at_call 197; refine (HA.out _).mono ?_; rintro e w5 ⟨rfl,b5⟩; have B5:=hide b5; clear b5) | (go_at_call 198; refine Hid.out ?_))
 refine Lib.hid ?_
 have T5:Hid (Touch (fun q=>q=rb) w w5):=(T3.out.then T4.out).then (Touch.ofBelow B5.out)
 have HI:=hide (itoa_any k h0 h1 w5 (HH.out.tabs HT.out T5.out))
 have H5:=hide (H4.out.later B5.out)
 refine HI.out.mono ?_
 rintro e w6 ⟨rfl,b6⟩
 have T6:Hid (Touch (fun q=>q=rb) w w6):=T5.out.then (Touch.ofBelow b6)
 have H6:=hide (H5.out.later b6)
 clear b6 HI H5 T5 B5 H4 T4 T3 HA HK3
 go_wp2_with (go_at_call 159; refine (demand_ok _).mono ?_; rintro e w7 ⟨rfl,rfl⟩)
 go_ret
 exact ⟨rfl,by have e:=HE.out.2.2; rw [show a + (numT k).length=a + L + 1 by simp [numT,e]; omega]; exact H6.out,T6.out⟩
end Go.Proofs.YtiplgdkpnhamaaaGreatDoor
namespace Go.Proofs.YtiplgdkpnhamaaaGreatDoor
open Go.RowKit
def Rem (m:Bool) (rem u:List UInt8):Prop:=if m=true then ∃ r,rem=u ++ r else ∃ s,s ≠ [] ∧ rem ++ s=u
theorem rem_split {m:Bool} {rem v u:List UInt8} (h:Rem m rem (v ++ u)):(∃ rem',rem=v ++ rem' ∧ Rem m rem' u) ∨ (m=false ∧ ∃ s,s ≠ [] ∧ rem ++ s=v):=by
 cases m with
 | true=>
  obtain ⟨r,h⟩:∃ r,rem=v ++ u ++ r:=by simpa [Rem] using h
  exact Or.inl ⟨u ++ r,by rw [h,List.append_assoc],by simp [Rem]⟩
 | false=>
  obtain ⟨s,hs,h⟩:∃ s,s ≠ [] ∧ rem ++ s=v ++ u:=by simpa [Rem] using h
  rcases List.append_eq_append_iff.1 h with ⟨a,e1,e2⟩ | ⟨c,e1,e2⟩
  ·by_cases ha:a=[]
   ·subst ha
    refine Or.inl ⟨[],by simpa using e1.symm,?_⟩
    simp only [Rem]
    exact ⟨s,hs,by simpa using e2⟩
   ·exact Or.inr ⟨rfl,a,ha,e1.symm⟩
  ·refine Or.inl ⟨c,e1,?_⟩
   simp only [Rem]
   exact ⟨s,hs,e2.symm⟩
theorem drop_on {t:List UInt8} {a:Nat} {v rem:List UInt8} (h:t.drop a=v ++ rem):t.drop (a + v.length)=rem:=by
 rw [← List.drop_drop,h,List.drop_left]
theorem cut_num {k:Int} {rem s:List UInt8} (hs:s ≠ []) (h:rem ++ s=numT k):∀ c,c ∈ rem → c ≠ 32:=by
 intro c hc
 unfold numT at h
 rcases List.append_eq_append_iff.1 h with ⟨a,e1,e2⟩ | ⟨b,e1,e2⟩
 ·refine itoa_ne k c ?_
  rw [e1]; simp [hc]
 ·cases b with
  | nil=>refine itoa_ne k c ?_; rw [List.append_nil] at e1; rw [← e1]; exact hc
  | cons x b=>
   rw [List.cons_append] at e2
   injection e2 with _ e2
   have:=(List.append_eq_nil_iff.1 e2.symm).2
   exact absurd this hs
def Ends (w:World) (rb n:Nat) (t:ByteArray) (m:Bool) (a':Nat) (u:List UInt8) (v:Value) (e:Ending) (w':World):Prop:=
 Touch (fun q=>q=rb) w w' ∧ ((e=.returned v ∧ RdIn w' rb n t a' ∧ Rem m (t.data.toList.drop a') u) ∨ (m=false ∧ e=fault))
theorem number_at (w:World) (rb n:Nat) (t:ByteArray) (a:Nat) (lo hi k:Int) (m:Bool) (u:List UInt8) (h:RdIn w rb n t a) (hx:Rem m (t.data.toList.drop a) (numT k ++ u)) (h0:-9223372036854775808 ≤ k) (h1:k ≤ 9223372036854775807) (hlo:lo ≤ k) (hhi:k ≤ hi) (ht:Tabs w) :
  Calls Tryz.prog 161 #[bptr rb,.int .i64 lo,.int .i64 hi] w (Ends w rb n t m (a + (numT k).length) u (.int .i64 k)):=by
 rcases rem_split hx with ⟨rem',e,hr⟩ | ⟨hm,s,hs,e⟩
 ·refine (number_ok w rb n t a lo hi k rem' h e h0 h1 hlo hhi ht).mono ?_
  rintro e' w' ⟨rfl,q1,q2⟩
  exact ⟨q2,Or.inl ⟨rfl,q1,by rw [drop_on e]; exact hr⟩⟩
 ·refine (number_no w rb n t a lo hi h (cut_num hs e)).mono ?_
  rintro e' w' ⟨rfl,q⟩
  exact ⟨q,Or.inr ⟨hm,rfl⟩⟩
theorem take_at (w:World) (rb n:Nat) (t:ByteArray) (a k:Nat) (v:List UInt8) (m:Bool) (u:List UInt8) (h:RdIn w rb n t a) (hv:v.length=k) (hx:Rem m (t.data.toList.drop a) (v ++ u)) :
  Calls Tryz.prog 160 #[bptr rb,.int .i64 k] w (Ends w rb n t m (a + k) u (.string ⟨v.toArray⟩)):=by
 have hlen:(t.data.toList.drop a).length=t.size - a:=by simp
 rcases rem_split hx with ⟨rem',e,hr⟩ | ⟨hm,s,hs,e⟩
 ·have hl:a + k ≤ t.size:=by
   rw [e,List.length_append,hv] at hlen
   have:=h.le; omega
  refine (take_ok w rb n t a k h hl).mono ?_
  rintro e' w' ⟨rfl,q1,q2⟩
  refine ⟨q2,Or.inl ⟨?_,q1,by rw [← hv,drop_on e]; exact hr⟩⟩
  rw [ext_eq,e,show a + k - a=v.length by omega,List.take_left]
 ·refine (take_no w rb n t a k h ?_).mono ?_
  ·have:(t.data.toList.drop a).length + s.length=v.length:=by rw [← e]; simp
   have hs2:=List.length_pos_iff.2 hs
   have:=h.le
   omega
  ·rintro e' w' ⟨rfl,q⟩
   exact ⟨Touch.ofBelow q,Or.inr ⟨hm,rfl⟩⟩
end Go.Proofs.YtiplgdkpnhamaaaGreatDoor
namespace Go.Proofs.YtiplgdkpnhamaaaGreatDoor
open Go.RowKit
theorem vec_len_app (l:List Int) (k:Nat) (hk:k < l.length):(vecT (l.take (k + 1))).length=(vecT (l.take k)).length + (numT l[k]).length:=by
 rw [vec_step hk,List.length_append]
theorem vec_drop (l:List Int) (k:Nat) (hk:k < l.length):vecT (l.drop k)=numT l[k] ++ vecT (l.drop (k + 1)):=by
 unfold vecT
 rw [List.drop_eq_getElem_cons hk,List.flatMap_cons]
theorem vecOf_set (l:List Int) (k:Nat) (hk:k < l.length) (h5:k < 5):(vecOf (l.take k)).cells.set k (.int .i64 l[k])=(vecOf (l.take (k + 1))).cells:=by
 have hg:∀ j,j < k → (l.take (k + 1)).getD j 0=(l.take k).getD j 0:=fun j hj=>by
  simp [List.getD,show j < k + 1 by omega,hj]
 have hk1:(l.take (k + 1)).getD k 0=l[k]:=by simp [List.getD,hk]
 have hz:∀ j,k < j → (l.take (k + 1)).getD j 0=0:=fun j hj=>getD_out (by simp; omega)
 have hz':∀ j,k < j → (l.take k).getD j 0=0:=fun j hj=>getD_out (by simp; omega)
 simp only [vecOf]
 have:k=0 ∨ k=1 ∨ k=2 ∨ k=3 ∨ k=4:=by omega
 rcases this with rfl | rfl | rfl | rfl | rfl
 ·rw [hk1,hz 1 (by omega),hz 2 (by omega),hz 3 (by omega),hz 4 (by omega),hz' 1 (by omega),hz' 2 (by omega),hz' 3 (by omega),hz' 4 (by omega)]; rfl
 ·rw [hk1,hg 0 (by omega),hz 2 (by omega),hz 3 (by omega),hz 4 (by omega),hz' 2 (by omega),hz' 3 (by omega),hz' 4 (by omega)]; rfl
 ·rw [hk1,hg 0 (by omega),hg 1 (by omega),hz 3 (by omega),hz 4 (by omega),hz' 3 (by omega),hz' 4 (by omega)]; rfl
 ·rw [hk1,hg 0 (by omega),hg 1 (by omega),hg 2 (by omega),hz 4 (by omega),hz' 4 (by omega)]; rfl
 ·rw [hk1,hg 0 (by omega),hg 1 (by omega),hg 2 (by omega),hg 3 (by omega)]; rfl
structure VRead (w:World) (rb:Nat) (t:ByteArray) (a:Nat) (l:List Int) (mo:Vec) (m:Bool) (u:List UInt8) (k:Nat) (wr:World):Prop where
 rd:RdIn wr rb l.length t (a + (vecT (l.take k)).length)
 rem:Rem m (t.data.toList.drop (a + (vecT (l.take k)).length)) (vecT (l.drop k) ++ u)
 tch:Touch (fun q=>q=rb) w wr
 b0:Blk wr w.heap.size mo.cells 104
 b1:Blk wr (w.heap.size + 1) [.int .i64 0,.int .i64 0,.int .i64 0,.int .i64 0,.int .i64 0] 104
 b2:Blk wr (w.heap.size + 1 + 1) (vecOf (l.take k)).cells 104
theorem VRead.step {w:World} {rb:Nat} {t:ByteArray} {a:Nat} {l:List Int} {mo:Vec} {m:Bool} {u:List UInt8} {k:Nat} {wr w2:World} (h:VRead w rb t a l mo m u k wr) (hrb:rb < w.heap.size) (hk:k < l.length) (h5:k < 5) (T:Touch (fun q=>q=rb) wr w2) (r2:RdIn w2 rb l.length t (a + (vecT (l.take k)).length + (numT l[k]).length)) (q2:Rem m (t.data.toList.drop (a + (vecT (l.take k)).length + (numT l[k]).length)) (vecT (l.drop (k + 1)) ++ u)) :
  VRead w rb t a l mo m u (k + 1) (w2.setCell ⟨w.heap.size + 1 + 1,k,none⟩ (.int .i64 l[k])):=by
 have e:a + (vecT (l.take (k + 1))).length=a + (vecT (l.take k)).length + (numT l[k]).length:=by rw [vec_len_app l k hk]; omega
 have b2:Blk w2 (w.heap.size + 1 + 1) (vecOf (l.take k)).cells 104:=h.b2.touch T (by omega)
 refine ⟨?_,by rw [e]; exact q2,(h.tch.then T).setCell (Or.inr (by show w.heap.size ≤ w.heap.size + 1 + 1; omega)) _,(h.b0.touch T (by omega)).other (by show w.heap.size ≠ w.heap.size + 1 + 1; omega) _,(h.b1.touch T (by omega)).other (by show w.heap.size + 1 ≠ w.heap.size + 1 + 1; omega) _,by rw [← vecOf_set l k hk h5]; exact b2.set k _⟩
 rw [e]
 exact ⟨r2.blk.other (by show rb ≠ w.heap.size + 1 + 1; omega) _,r2.le,r2.sm,r2.gl⟩
abbrev put5 (w:World) (b:Nat) (v:Vec):World:=((((w.setCell ⟨b,0,none⟩ (.int .i64 v.a)).setCell ⟨b,1,none⟩ (.int .i64 v.b)).setCell ⟨b,2,none⟩ (.int .i64 v.c)).setCell ⟨b,3,none⟩ (.int .i64 v.d)).setCell ⟨b,4,none⟩ (.int .i64 v.e)
theorem put5_blk {w:World} {b:Nat} {x0 x1 x2 x3 x4:Value} {t:TypeId} (v:Vec) (h:Blk w b [x0,x1,x2,x3,x4] t):Blk (put5 w b v) b v.cells t:=
 ((((h.set 0 _).set 1 _).set 2 _).set 3 _).set 4 _
theorem put5_touch (w:World) (b:Nat) (v:Vec):Touch (fun q=>q=b) w (put5 w b v):=
 (((((Touch.refl (fun q=>q=b) w).setCell (p:=⟨b,0,none⟩) (Or.inl rfl) _).setCell (p:=⟨b,1,none⟩) (Or.inl rfl) _).setCell (p:=⟨b,2,none⟩) (Or.inl rfl) _).setCell (p:=⟨b,3,none⟩) (Or.inl rfl) _).setCell (p:=⟨b,4,none⟩) (Or.inl rfl) _
theorem VRead_end {w:World} {rb:Nat} {t:ByteArray} {a:Nat} {l:List Int} {mo:Vec} {m:Bool} {u:List UInt8} {wr:World}:VRead w rb t a l mo m u l.length wr ↔ (RdIn wr rb l.length t (a + (vecT l).length) ∧ Rem m (t.data.toList.drop (a + (vecT l).length)) u ∧ Touch (fun q=>q=rb) w wr ∧ Blk wr w.heap.size mo.cells 104 ∧ Blk wr (w.heap.size + 1) [.int .i64 0,.int .i64 0,.int .i64 0,.int .i64 0,.int .i64 0] 104 ∧ Blk wr (w.heap.size + 1 + 1) (vecOf l).cells 104):=by
 constructor
 ·rintro ⟨h1,h2,h3,h4,h5,h6⟩
  rw [List.take_length] at h1 h2 h6
  rw [List.drop_length] at h2
  exact ⟨h1,by simpa [vecT] using h2,h3,h4,h5,h6⟩
 ·rintro ⟨h1,h2,h3,h4,h5,h6⟩
  refine ⟨by rw [List.take_length]; exact h1,?_,h3,h4,h5,by rw [List.take_length]; exact h6⟩
  rw [List.take_length,List.drop_length]
  simpa [vecT] using h2
set_option maxRecDepth 100000 in
set_option maxHeartbeats 8000000 in
theorem vector_at (w:World) (rb n:Nat) (t:ByteArray) (a:Nat) (l:List Int) (mo:Vec) (m:Bool) (u:List UInt8) (h:RdIn w rb n t a) (hn:n ≤ 5) (hl:l.length=n) (hx:Rem m (t.data.toList.drop a) (vecT l ++ u)) (hmo:∀ k (hk:k < l.length),0 ≤ l[k] ∧ l[k] ≤ mo.list.getD k 0 ∧ l[k] ≤ 9223372036854775807) (ht:Tabs w) :
  Calls Tryz.prog 162 #[bptr rb,mo.val] w (Ends w rb n t m (a + (vecT l).length) u (vecOf l).val):=by
 subst hl
 generalize hW0:((w.alloc (.cells #[.int .i64 mo.a,.int .i64 mo.b,.int .i64 mo.c,.int .i64 mo.d,.int .i64 mo.e] 104)).alloc (.cells #[.int .i64 0,.int .i64 0,.int .i64 0,.int .i64 0,.int .i64 0] 104)).alloc (.cells #[.int .i64 0,.int .i64 0,.int .i64 0,.int .i64 0,.int .i64 0] 104)=W0
 have hB0:Below w.heap.size w W0:=by rw [← hW0]; exact (((Below.refl _ _).alloc (Nat.le_refl _) _).alloc (by simp) _).alloc (by simp; omega) _
 have b0:Blk W0 w.heap.size mo.cells 104:=by
  rw [← hW0]
  exact (Blk.alloc (Blk.alloc (heap_alloc_new w _) _) _)
 have b1:Blk W0 (w.heap.size + 1) [.int .i64 0,.int .i64 0,.int .i64 0,.int .i64 0,.int .i64 0] 104:=by
  rw [← hW0,show w.heap.size + 1=(w.alloc (.cells #[.int .i64 mo.a,.int .i64 mo.b,.int .i64 mo.c,.int .i64 mo.d,.int .i64 mo.e] 104)).heap.size by simp]
  exact Blk.alloc (heap_alloc_new _ _) _
 have b2:Blk W0 (w.heap.size + 1 + 1) [.int .i64 0,.int .i64 0,.int .i64 0,.int .i64 0,.int .i64 0] 104:=by
  rw [← hW0,show w.heap.size + 1 + 1=((w.alloc (.cells #[.int .i64 mo.a,.int .i64 mo.b,.int .i64 mo.c,.int .i64 mo.d,.int .i64 mo.e] 104)).alloc (.cells #[.int .i64 0,.int .i64 0,.int .i64 0,.int .i64 0,.int .i64 0] 104)).heap.size by simp]
  exact heap_alloc_new _ _
 have h0:=h.later hB0
 have c0:W0.cell? ⟨rb,0,none⟩=some (.int .i64 l.length):=h0.blk.cell 0
 have hrb:=h.blk.lt
 have HH:=hide h
 have HX:=hide hx
 have HW0:=hide hW0
 have HS:=hide (⟨hB0,b0,b1,b2,h0⟩:_ ∧ _ ∧ _ ∧ _ ∧ _)
 clear h hx hW0 hB0 b0 b1 b2 h0
 go_enter Tryz.func162,Tryz.ntmps162
 go_upto_region 2 with (fail)
 rw [HW0.out]
 clear HW0
 have HV:Hid (VRead w rb t a l mo m u 0 W0):=⟨by simpa [vecT] using HS.out.2.2.2.2,by simpa [vecT] using HX.out,Touch.ofBelow HS.out.1,HS.out.2.1,HS.out.2.2.1,HS.out.2.2.2.1⟩
 clear HS
 go_wp2_with fail
 go_loopw [6,11] (fun _ i wr=>∃ k:Nat,k ≤ l.length ∧ i=.int .i64 k ∧ Hid (VRead w rb t a l mo m u k wr)) (fun _ i _=>l.length - (intOf i).toNat)
 case atStart=>exact ⟨0,Nat.zero_le _,rfl,HV.out⟩
 case round=>
  clear HV c0
  obtain ⟨k,hk,rfl,HS⟩:=hrel
  by_cases hlt:k < l.length
  ·have h5:k < 5:=by omega
   have hm5:k < mo.list.length:=by simp [Vec.list]; omega
   have hmk:=hmo k hlt
   have cm:wr.cell? ⟨w.heap.size,k,none⟩=some (.int .i64 (mo.list.getD k 0)):=by
    rw [HS.out.b0.cell k]
    have:k=0 ∨ k=1 ∨ k=2 ∨ k=3 ∨ k=4:=by omega
    rcases this with rfl | rfl | rfl | rfl | rfl <;> rfl
   have hr:=HS.out.rem
   rw [vec_drop l k hlt,List.append_assoc] at hr
   have HN:=hide (number_at wr rb l.length t _ 0 (mo.list.getD k 0) l[k] m _ HS.out.rd hr (by omega) (by omega) hmk.1 hmk.2.1 (HH.out.tabs ht HS.out.tch))
   have HST:=hide (fun (w2:World)=>HS.out.step (w2:=w2) hrb hlt h5)
   clear hr hmk
   generalize mo.list.getD k 0=mk at *
   generalize l[k]=lk at *
   go_wp2_with (go_at_call 161; refine HN.out.mono ?_; rintro e w2 ⟨T2,⟨rfl,h2,r2⟩ | ⟨hm,rfl⟩⟩ <;> refine Hid.out ?_)
   all_goals refine Lib.hid ?_
   ·have HN2:=hide (HST.out w2 T2 h2 r2)
    have b2:Blk w2 (w.heap.size + 1 + 1) (vecOf (l.take k)).cells 104:=HS.out.b2.touch T2 (by omega)
    have f2:=b2.frozen k
    have c2:∃ x,w2.cell? ⟨w.heap.size + 1 + 1,k,none⟩=some x:=by
     rw [b2.cell k]
     have:k=0 ∨ k=1 ∨ k=2 ∨ k=3 ∨ k=4:=by omega
     rcases this with rfl | rfl | rfl | rfl | rfl <;> exact ⟨_,rfl⟩
    obtain ⟨x2,c2⟩:=c2
    have g1:(k:Int) < 5:=by omega
    clear b2 T2 h2 r2 HN HST
    go_wp2_with fail
    exact ⟨⟨k + 1,by omega,by go_num,HN2.out⟩,by simp [intOf]; omega⟩
   ·exact ⟨rfl,HS.out.tch.then T2,Or.inr ⟨hm,rfl⟩⟩
  ·have hkn:k=l.length:=by omega
   subst hkn
   have hS:=HS.out
   rw [VRead_end] at hS
   obtain ⟨hrd,hrem,htch,hb0,hb1,hb2⟩:=hS
   have d0:wr.cell? ⟨w.heap.size + 1 + 1,0,none⟩=some (.int .i64 (vecOf l).a):=hb2.cell 0
   have d1:wr.cell? ⟨w.heap.size + 1 + 1,1,none⟩=some (.int .i64 (vecOf l).b):=hb2.cell 1
   have d2:wr.cell? ⟨w.heap.size + 1 + 1,2,none⟩=some (.int .i64 (vecOf l).c):=hb2.cell 2
   have d3:wr.cell? ⟨w.heap.size + 1 + 1,3,none⟩=some (.int .i64 (vecOf l).d):=hb2.cell 3
   have d4:wr.cell? ⟨w.heap.size + 1 + 1,4,none⟩=some (.int .i64 (vecOf l).e):=hb2.cell 4
   have r0:wr.cell? ⟨w.heap.size + 1,0,none⟩=some (.int .i64 0):=hb1.cell 0
   have r1:wr.cell? ⟨w.heap.size + 1,1,none⟩=some (.int .i64 0):=hb1.cell 1
   have r2:wr.cell? ⟨w.heap.size + 1,2,none⟩=some (.int .i64 0):=hb1.cell 2
   have r3:wr.cell? ⟨w.heap.size + 1,3,none⟩=some (.int .i64 0):=hb1.cell 3
   have r4:wr.cell? ⟨w.heap.size + 1,4,none⟩=some (.int .i64 0):=hb1.cell 4
   have q0:wr.frozen? ⟨w.heap.size + 1,0,none⟩=false:=hb1.frozen 0
   have q1:wr.frozen? ⟨w.heap.size + 1,1,none⟩=false:=hb1.frozen 1
   have q2:wr.frozen? ⟨w.heap.size + 1,2,none⟩=false:=hb1.frozen 2
   have q3:wr.frozen? ⟨w.heap.size + 1,3,none⟩=false:=hb1.frozen 3
   have q4:wr.frozen? ⟨w.heap.size + 1,4,none⟩=false:=hb1.frozen 4
   have HF:=hide (⟨hrd,hrem,htch,hb1⟩:_ ∧ _ ∧ _ ∧ _)
   clear hrd hrem htch hb0 hb1 hb2 HS
   go_wp2_with fail
   have hb5:=put5_blk (vecOf l) HF.out.2.2.2
   have hT5:=put5_touch wr (w.heap.size + 1) (vecOf l)
   unfold put5 at hb5 hT5
   generalize World.setCell _ _ _=W5 at *
   have s0:W5.cell? ⟨w.heap.size + 1,0,none⟩=some (.int .i64 (vecOf l).a):=hb5.cell 0
   have s1:W5.cell? ⟨w.heap.size + 1,1,none⟩=some (.int .i64 (vecOf l).b):=hb5.cell 1
   have s2:W5.cell? ⟨w.heap.size + 1,2,none⟩=some (.int .i64 (vecOf l).c):=hb5.cell 2
   have s3:W5.cell? ⟨w.heap.size + 1,3,none⟩=some (.int .i64 (vecOf l).d):=hb5.cell 3
   have s4:W5.cell? ⟨w.heap.size + 1,4,none⟩=some (.int .i64 (vecOf l).e):=hb5.cell 4
   refine bodyPost_ret (v:=(vecOf l).val) (by simp [results,Tryz.results162,go_sem,s0,s1,s2,s3,s4]) rfl ⟨HF.out.2.2.1.trans (hT5.mono fun q _ e=>Or.inr (by omega)),Or.inl ⟨rfl,?_,HF.out.2.1⟩⟩
   exact ⟨HF.out.1.blk.touch hT5 (by omega),HF.out.1.le,HF.out.1.sm,HF.out.1.gl⟩
end Go.Proofs.YtiplgdkpnhamaaaGreatDoor
namespace Go.Proofs.YtiplgdkpnhamaaaGreatDoor
open Go.RowKit
abbrev maxSeq:Int:=1844674407370955161
theorem demand_t (w:World) {b:Bool} (h:b=true):Calls Tryz.prog 159 #[.bool b] w fun e w'=>e=.returned (.tuple #[]) ∧ w'=w:=by subst h; exact demand_ok w
def mostCells (k:Nat):List Value:=List.replicate k (.int .i64 maxSeq) ++ List.replicate (5 - k) (.int .i64 0)
theorem most_set {k:Nat} (hk:k < 5):(mostCells k).set k (.int .i64 maxSeq)=mostCells (k + 1) ∧ (mostCells k)[k]? = some (.int .i64 0):=by
 have:k=0 ∨ k=1 ∨ k=2 ∨ k=3 ∨ k=4:=by omega
 rcases this with rfl | rfl | rfl | rfl | rfl <;> exact ⟨rfl,rfl⟩
abbrev put6 (w:World) (b:Nat) (i:Int) (v:Vec):World:=(((((w.setCell ⟨b,0,none⟩ (.int .i64 i)).setCell ⟨b,1,none⟩ (.int .i64 v.a)).setCell ⟨b,2,none⟩ (.int .i64 v.b)).setCell ⟨b,3,none⟩ (.int .i64 v.c)).setCell ⟨b,4,none⟩ (.int .i64 v.d)).setCell ⟨b,5,none⟩ (.int .i64 v.e)
theorem put6_blk {w:World} {b:Nat} {x0 x1 x2 x3 x4 x5:Value} {t:TypeId} (i:Int) (v:Vec) (h:Blk w b [x0,x1,x2,x3,x4,x5] t):Blk (put6 w b i v) b [.int .i64 i,.int .i64 v.a,.int .i64 v.b,.int .i64 v.c,.int .i64 v.d,.int .i64 v.e] t:=
 (((((h.set 0 _).set 1 _).set 2 _).set 3 _).set 4 _).set 5 _
theorem put6_touch (w:World) (b:Nat) (i:Int) (v:Vec):Touch (fun q=>q=b) w (put6 w b i v):=
 ((((((Touch.refl (fun q=>q=b) w).setCell (p:=⟨b,0,none⟩) (Or.inl rfl) _).setCell (p:=⟨b,1,none⟩) (Or.inl rfl) _).setCell (p:=⟨b,2,none⟩) (Or.inl rfl) _).setCell (p:=⟨b,3,none⟩) (Or.inl rfl) _).setCell (p:=⟨b,4,none⟩) (Or.inl rfl) _).setCell (p:=⟨b,5,none⟩) (Or.inl rfl) _
structure HRead (w:World) (rb n:Nat) (t:ByteArray) (m:Bool) (a':Nat) (u:List UInt8) (wr:World):Prop where
 rd:RdIn wr rb n t a'
 rem:Rem m (t.data.toList.drop a') u
 tch:Touch (fun q=>q=rb) w wr
 b0:Blk wr w.heap.size [.int .i64 0,.int .i64 0,.int .i64 0,.int .i64 0,.int .i64 0,.int .i64 0] 144
theorem HRead.step {w:World} {rb n:Nat} {t:ByteArray} {m:Bool} {a' a2:Nat} {u u2:List UInt8} {wr w2:World} (h:HRead w rb n t m a' u wr) (hrb:rb < w.heap.size) (T:Touch (fun q=>q=rb) wr w2) (r:RdIn w2 rb n t a2) (q:Rem m (t.data.toList.drop a2) u2):HRead w rb n t m a2 u2 w2:=
 ⟨r,q,h.tch.then T,h.b0.touch T (by omega)⟩
theorem HRead.later {w:World} {rb n:Nat} {t:ByteArray} {m:Bool} {a':Nat} {u:List UInt8} {wr w2:World} (h:HRead w rb n t m a' u wr) (hb:Below wr.heap.size wr w2):HRead w rb n t m a' u w2:=
 ⟨h.rd.later hb,h.rem,h.tch.then (Touch.ofBelow hb),h.b0.below hb⟩
set_option maxRecDepth 100000 in
set_option maxHeartbeats 8000000 in
theorem head_at (w:World) (rb n:Nat) (t:ByteArray) (a i:Nat) (c:UInt8) (l:List Int) (m:Bool) (u:List UInt8) (h:RdIn w rb n t a) (hn:n ≤ 5) (hi:i < n) (hl:l.length=n) (hx:Rem m (t.data.toList.drop a) (headT c n i l ++ u)) (hmo:∀ k (hk:k < l.length),0 ≤ l[k] ∧ l[k] ≤ maxSeq) (ht:Tabs w) :
  Calls Tryz.prog 116 #[bptr rb,.int .u8 c.toNat] w (Ends w rb n t m (a + (headT c n i l).length) u (headVal i (vecOf l))):=by
 subst hl
 generalize hW0:w.alloc (.cells #[.int .i64 0,.int .i64 0,.int .i64 0,.int .i64 0,.int .i64 0,.int .i64 0] 144)=W0
 have hB0:Below w.heap.size w W0:=by rw [← hW0]; exact (Below.refl _ _).alloc (Nat.le_refl _) _
 have hrb:=h.blk.lt
 have h0:HRead w rb l.length t m a ([c] ++ (numT l.length ++ (numT i ++ (vecT l ++ u)))) W0:=⟨h.later hB0,by simpa [headT] using hx,Touch.ofBelow hB0,by rw [← hW0]; exact heap_alloc_new w _⟩
 have HK:=hide (take_at W0 rb l.length t a 1 [c] m _ h0.rd rfl h0.rem)
 have HH:=hide h
 have H0:=hide h0
 have HW0:=hide hW0
 clear h hx hW0 hB0 h0
 go_enter Tryz.func116,Tryz.ntmps116
 go_wp2_with (go_at_call 160; rw [HW0.out]; refine HK.out.mono ?_; rintro e w2 ⟨T2,⟨rfl,h2,r2⟩ | ⟨hm,rfl⟩⟩ <;> refine Hid.out ?_)
 all_goals refine Lib.hid ?_
 rotate_left
 ·exact ⟨rfl,H0.out.tch.then T2,Or.inr ⟨by first | exact hm | rfl,rfl⟩⟩
 have H2:=hide (H0.out.step hrb T2 h2 r2)
 clear T2 h2 r2 HK HW0 H0
 go_wp2_with (go_at_call 159; refine (demand_t _ (by show ((c.toNat:Int) == (c.toNat:Int))=true; simp)).mono ?_; rintro e w2 ⟨rfl,rfl⟩)
 have cf:∀ f:Fam (Bel w2),f.w.cell? ⟨rb,0,none⟩=some (.int .i64 l.length):=Bel.cell (H2.out.rd.blk.cell 0)
 refine region_fam_tail (Bel w2) 9 (by kernel_rfl) (by kernel_rfl) (Below.refl _ _).drew ?_
 simp only [List.take_succ_cons,List.take_zero,List.drop_succ_cons,List.drop_zero]
 repeat (go_big_quiet_step (fail))
 refine wpQuiet_nil ?_
 intro _ hw'
 obtain ⟨fq,rfl⟩:=hw'
 have H2':=hide (H2.out.later fq.ok)
 generalize fq.w=w2' at *
 have HN:=hide (number_at w2' rb l.length t _ l.length l.length l.length m _ H2'.out.rd H2'.out.rem (by omega) (by omega) (Int.le_refl _) (Int.le_refl _) (HH.out.tabs ht H2'.out.tch))
 clear cf H2
 go_wp2_with (go_at_call 161; refine HN.out.mono ?_; rintro e w3 ⟨T3,⟨rfl,h3,r3⟩ | ⟨hm,rfl⟩⟩ <;> refine Hid.out ?_)
 all_goals refine Lib.hid ?_
 rotate_left
 ·exact ⟨rfl,H2'.out.tch.then T3,Or.inr ⟨by first | exact hm | rfl,rfl⟩⟩
 have H3:=hide (H2'.out.step hrb T3 h3 r3)
 clear T3 h3 r3 HN H2'
 have c3:w3.cell? ⟨rb,0,none⟩=some (.int .i64 l.length):=H3.out.rd.blk.cell 0
 have HN:=hide (number_at w3 rb l.length t _ 0 (l.length - 1) i m _ H3.out.rd H3.out.rem (by omega) (by omega) (by omega) (by omega) (HH.out.tabs ht H3.out.tch))
 go_wp2_with (go_at_call 161; refine HN.out.mono ?_; rintro e w4 ⟨T4,⟨rfl,h4,r4⟩ | ⟨hm,rfl⟩⟩ <;> refine Hid.out ?_)
 all_goals refine Lib.hid ?_
 rotate_left
 ·exact ⟨rfl,H3.out.tch.then T4,Or.inr ⟨by first | exact hm | rfl,rfl⟩⟩
 have H4:=hide (H3.out.step hrb T4 h4 r4)
 clear T4 h4 r4 HN H3 c3
 go_wp2_with fail
 have hrw:w.heap.size ≤ w4.heap.size:=H4.out.tch.size
 have hw4:w.heap.size < w4.heap.size:=H4.out.b0.lt
 have hrb4:rb < w4.heap.size:=H4.out.rd.blk.lt
 generalize hW5:w4.alloc (.cells #[.int .i64 0,.int .i64 0,.int .i64 0,.int .i64 0,.int .i64 0] 104)=W5
 have hB5:Below w4.heap.size w4 W5:=by rw [← hW5]; exact (Below.refl _ _).alloc (Nat.le_refl _) _
 have H5:Hid (HRead w rb l.length t m (a + 1 + (numT l.length).length + (numT i).length) (vecT l ++ u) W5 ∧ Blk W5 w4.heap.size (mostCells 0) 104):=⟨H4.out.later hB5,by rw [← hW5]; exact heap_alloc_new w4 _⟩
 clear hW5 hB5 H4
 go_loopw [7,31] (fun _ ii wr=>∃ k:Nat,k ≤ 5 ∧ ii=.int .i64 k ∧ Hid (HRead w rb l.length t m (a + 1 + (numT l.length).length + (numT i).length) (vecT l ++ u) wr ∧ Blk wr w4.heap.size (mostCells k) 104)) (fun _ ii _=>5 - (intOf ii).toNat)
 case atStart=>exact ⟨0,Nat.zero_le _,rfl,H5.out⟩
 case round=>
  clear H5
  obtain ⟨k,hk,rfl,HS⟩:=hrel
  by_cases hlt:k < 5
  ·have c5:wr.cell? ⟨w4.heap.size,k,none⟩=some (.int .i64 0):=by rw [HS.out.2.cell k]; exact (most_set hlt).2
   have f5:=HS.out.2.frozen k
   have g1:(k:Int) < 5:=by omega
   have HN:Hid (HRead w rb l.length t m (a + 1 + (numT l.length).length + (numT i).length) (vecT l ++ u) (wr.setCell ⟨w4.heap.size,k,none⟩ (.int .i64 maxSeq)) ∧ Blk (wr.setCell ⟨w4.heap.size,k,none⟩ (.int .i64 maxSeq)) w4.heap.size (mostCells (k + 1)) 104):=by
    obtain ⟨⟨q1,q2,q3,q4⟩,q5⟩:=HS.out
    refine ⟨⟨⟨q1.blk.other (by show rb ≠ w4.heap.size; omega) _,q1.le,q1.sm,q1.gl⟩,q2,q3.setCell (Or.inr (by show w.heap.size ≤ w4.heap.size; omega)) _,q4.other (by show w.heap.size ≠ w4.heap.size; omega) _⟩,?_⟩
    rw [← (most_set hlt).1]
    exact q5.set k _
   go_wp2_with fail
   exact ⟨⟨k + 1,by omega,by go_num,HN.out⟩,by simp [intOf]; omega⟩
  ·have hk5:k=5:=by omega
   subst hk5
   have d0:wr.cell? ⟨w4.heap.size,0,none⟩=some (.int .i64 maxSeq):=HS.out.2.cell 0
   have d1:wr.cell? ⟨w4.heap.size,1,none⟩=some (.int .i64 maxSeq):=HS.out.2.cell 1
   have d2:wr.cell? ⟨w4.heap.size,2,none⟩=some (.int .i64 maxSeq):=HS.out.2.cell 2
   have d3:wr.cell? ⟨w4.heap.size,3,none⟩=some (.int .i64 maxSeq):=HS.out.2.cell 3
   have d4:wr.cell? ⟨w4.heap.size,4,none⟩=some (.int .i64 maxSeq):=HS.out.2.cell 4
   have HV:=hide (vector_at wr rb l.length t _ l ⟨maxSeq,maxSeq,maxSeq,maxSeq,maxSeq⟩ m u HS.out.1.rd hn rfl HS.out.1.rem (fun k hk=>by
    have h1:=hmo k hk
    have:k=0 ∨ k=1 ∨ k=2 ∨ k=3 ∨ k=4:=by omega
    refine ⟨h1.1,?_,Int.le_trans h1.2 (by decide)⟩
    rcases this with rfl | rfl | rfl | rfl | rfl <;> exact h1.2) (HH.out.tabs ht HS.out.1.tch))
   go_wp2_with (go_at_call 162; refine HV.out.mono ?_; rintro e w6 ⟨T6,⟨rfl,h6,r6⟩ | ⟨hm,rfl⟩⟩ <;> refine Hid.out ?_)
   all_goals refine Lib.hid ?_
   rotate_left
   ·exact ⟨rfl,HS.out.1.tch.then T6,Or.inr ⟨by first | exact hm | rfl,rfl⟩⟩
   have H6:=hide (HS.out.1.step hrb T6 h6 r6)
   clear T6 h6 r6 HV HS d0 d1 d2 d3 d4
   have r0:w6.cell? ⟨w.heap.size,0,none⟩=some (.int .i64 0):=H6.out.b0.cell 0
   have r1:w6.cell? ⟨w.heap.size,1,none⟩=some (.int .i64 0):=H6.out.b0.cell 1
   have r2:w6.cell? ⟨w.heap.size,2,none⟩=some (.int .i64 0):=H6.out.b0.cell 2
   have r3:w6.cell? ⟨w.heap.size,3,none⟩=some (.int .i64 0):=H6.out.b0.cell 3
   have r4:w6.cell? ⟨w.heap.size,4,none⟩=some (.int .i64 0):=H6.out.b0.cell 4
   have r5:w6.cell? ⟨w.heap.size,5,none⟩=some (.int .i64 0):=H6.out.b0.cell 5
   have q0:w6.frozen? ⟨w.heap.size,0,none⟩=false:=H6.out.b0.frozen 0
   have q1:w6.frozen? ⟨w.heap.size,1,none⟩=false:=H6.out.b0.frozen 1
   have q2:w6.frozen? ⟨w.heap.size,2,none⟩=false:=H6.out.b0.frozen 2
   have q3:w6.frozen? ⟨w.heap.size,3,none⟩=false:=H6.out.b0.frozen 3
   have q4:w6.frozen? ⟨w.heap.size,4,none⟩=false:=H6.out.b0.frozen 4
   have q5:w6.frozen? ⟨w.heap.size,5,none⟩=false:=H6.out.b0.frozen 5
   go_wp2_with fail
   have hb5:=put6_blk i (vecOf l) H6.out.b0
   have hT5:=put6_touch w6 w.heap.size i (vecOf l)
   unfold put6 at hb5 hT5
   generalize World.setCell _ _ _=W7 at *
   have s0:W7.cell? ⟨w.heap.size,0,none⟩=some (.int .i64 i):=hb5.cell 0
   have s1:W7.cell? ⟨w.heap.size,1,none⟩=some (.int .i64 (vecOf l).a):=hb5.cell 1
   have s2:W7.cell? ⟨w.heap.size,2,none⟩=some (.int .i64 (vecOf l).b):=hb5.cell 2
   have s3:W7.cell? ⟨w.heap.size,3,none⟩=some (.int .i64 (vecOf l).c):=hb5.cell 3
   have s4:W7.cell? ⟨w.heap.size,4,none⟩=some (.int .i64 (vecOf l).d):=hb5.cell 4
   have s5:W7.cell? ⟨w.heap.size,5,none⟩=some (.int .i64 (vecOf l).e):=hb5.cell 5
   have ha:a + (headT c l.length i l).length=a + 1 + (numT l.length).length + (numT i).length + (vecT l).length:=by
    simp only [headT,List.length_cons,List.length_append]; omega
   refine bodyPost_ret (v:=headVal i (vecOf l)) (by simp [results,Tryz.results116,go_sem,s0,s1,s2,s3,s4,s5]) rfl ⟨H6.out.tch.trans (hT5.mono fun q _ e=>Or.inr (by omega)),Or.inl ⟨rfl,?_,by rw [ha]; exact H6.out.rem⟩⟩
   rw [ha]
   exact ⟨H6.out.rd.blk.touch hT5 (by omega),H6.out.rd.le,H6.out.rd.sm,H6.out.rd.gl⟩
end Go.Proofs.YtiplgdkpnhamaaaGreatDoor
namespace Go.Proofs.YtiplgdkpnhamaaaGreatDoor
open Go.RowKit
theorem ext_beq (t:ByteArray) (a:Nat) (s:List UInt8):((t.extract a t.size).toList == s)=decide (t.data.toList.drop a=s):=by
 rw [Bool.eq_iff_iff,beq_iff_eq,decide_eq_true_eq,ByteArray.toList_eq,ext_list,List.take_of_length_le (by simp)]
set_option maxRecDepth 100000 in
set_option maxHeartbeats 8000000 in
theorem rd_end (w:World) (rb n:Nat) (t:ByteArray) (a:Nat) (h:RdIn w rb n t a) (ht:Tabs w) :
  Calls Tryz.prog 117 #[bptr rb] w fun e w'=>Below w.heap.size w w' ∧ ((t.data.toList.drop a=sealT (t.data.toList.take a) ∧ e=.returned (.tuple #[])) ∨ (¬ t.data.toList.drop a=sealT (t.data.toList.take a) ∧ e=fault)):=by
 have c1:∀ f:Fam (Bel w),f.w.cell? ⟨rb,1,none⟩=some (.string t):=Bel.cell (h.blk.cell 1)
 have c2:∀ f:Fam (Bel w),f.w.cell? ⟨rb,2,none⟩=some (.int .i64 a):=Bel.cell (h.blk.cell 2)
 have hle:=h.le
 have hsm:=h.sm
 have hs:∀ f:Fam (Bel w),Calls Tryz.prog 158 #[.string (t.extract 0 a)] f.w fun e w''=>e=.returned (.string ⟨(sealT (t.data.toList.take a)).toArray⟩) ∧ ∃ g:Fam (Bel w),w''=g.w:=fun f=>Bel.call f (by
  have e:(t.extract 0 a).data.toList=t.data.toList.take a:=by rw [ext_list]; simp
  have:=seal_any f.w (t.extract 0 a) (by
   have:(t.extract 0 a).size=(t.data.toList.take a).length:=by rw [← e]; simp
   rw [this,List.length_take]; omega) (ht.later f.ok).bru
  rwa [e] at this)
 have HC:=hide hs
 clear hs h ht
 go_enter Tryz.func117,Tryz.ntmps117
 go_wp2_with fail
 refine region_fam_tail (Bel w) 20 (by kernel_rfl) (by kernel_rfl) (Below.refl _ _).drew ?_
 simp only [List.take_succ_cons,List.take_zero,List.drop_succ_cons,List.drop_zero]
 repeat (go_big_quiet_step (first | (go_at_call 158; exact HC.out _)))
 refine wpQuiet_nil ?_
 intro _ hw'
 obtain ⟨fq,rfl⟩:=hw'
 have HB:Hid (Below w.heap.size w fq.w):=fq.ok
 generalize fq.w=w1 at *
 clear c1 c2
 have hbq:=ext_beq t a (sealT (t.data.toList.take a))
 generalize ((t.extract a t.size).toList == sealT (t.data.toList.take a))=bb at *
 by_cases hd:t.data.toList.drop a=sealT (t.data.toList.take a)
 ·rw [decide_eq_true hd] at hbq
  have HD:=hide hd
  clear hd
  subst hbq
  go_wp2_with (go_at_call 159; refine (demand_ok _).mono ?_; rintro e w2 ⟨rfl,rfl⟩)
  go_end0
  exact ⟨HB.out,Or.inl ⟨HD.out,rfl⟩⟩
 ·rw [decide_eq_false hd] at hbq
  have HD:=hide hd
  clear hd
  subst hbq
  go_wp2_with (go_at_call 159; refine (demand_no _).mono ?_; rintro e w2 ⟨rfl,rfl⟩)
  exact ⟨rfl,HB.out,Or.inr ⟨HD.out,rfl⟩⟩
end Go.Proofs.YtiplgdkpnhamaaaGreatDoor
namespace Go.Proofs.YtiplgdkpnhamaaaGreatDoor
open Go.RowKit
theorem below_tch {B:Nat} {w W1 w2:World} {rb:Nat} (h:Below B w W1) (T:Touch (fun q=>q=rb) W1 w2) (hB:B ≤ rb) (hs:B ≤ W1.heap.size):Below B w w2:=
 ⟨T.os.trans h.os,T.tape.trans h.tape,T.output.trans h.output,Nat.le_trans h.size T.size,fun k hk=>(T.block k (by omega) (by omega)).trans (h.block k hk)⟩
theorem rem_whole {m:Bool} {t v:List UInt8} (h:Rem m t v) (hl:v.length ≤ t.length):∃ r,t=v ++ r:=by
 cases m with
 | true=>simpa [Rem] using h
 | false=>
  obtain ⟨s,hs,e⟩:∃ s,s ≠ [] ∧ t ++ s=v:=by simpa [Rem] using h
  have:=congrArg List.length e
  have h2:=List.length_pos_iff.2 hs
  rw [List.length_append] at this
  omega
theorem rem_cut {t v s:List UInt8} (h:Rem false t v):¬ t=v ++ s:=by
 obtain ⟨r,hr,e⟩:∃ r,r ≠ [] ∧ t ++ r=v:=by simpa [Rem] using h
 intro e2
 have h1:=congrArg List.length e
 have h2:=congrArg List.length e2
 have h3:=List.length_pos_iff.2 hr
 rw [List.length_append] at h1 h2
 omega
set_option maxRecDepth 100000 in
set_option maxHeartbeats 8000000 in
theorem read_summary (w:World) (n i:Nat) (t:ByteArray) (l:List Int) (m:Bool) (hn:n ≤ 5) (hi:i < n) (hl:l.length=n) (hs:t.size ≤ 200000000000) (hx:Rem m t.data.toList (headT 115 n i l)) (hmo:∀ k (hk:k < l.length),0 ≤ l[k] ∧ l[k] ≤ maxSeq) (ht:Tabs w) :
  Calls Tryz.prog 75 #[.string t,.int .i64 n] w fun e w'=>Below w.heap.size w w' ∧ ((t.data.toList=sumT n i l ∧ e=.returned (headVal i (vecOf l))) ∨ (¬ t.data.toList=sumT n i l ∧ e=fault)):=by
 generalize hW1:(w.alloc (.cells #[.int .i64 0,.int .i64 0,.int .i64 0,.int .i64 0,.int .i64 0,.int .i64 0] 144)).alloc (.cells #[.int .i64 n,.string t,.int .i64 0] 199)=W1
 have hB1:Below w.heap.size w W1:=by rw [← hW1]; exact ((Below.refl _ _).alloc (Nat.le_refl _) _).alloc (by simp) _
 have b0:Blk W1 w.heap.size [.int .i64 0,.int .i64 0,.int .i64 0,.int .i64 0,.int .i64 0,.int .i64 0] 144:=by
  rw [← hW1]; exact Blk.alloc (heap_alloc_new w _) _
 have hr:RdIn W1 (w.heap.size + 1) n t 0:=by
  refine ⟨?_,Nat.zero_le _,hs,by have:=ht.room; omega⟩
  rw [← hW1,show w.heap.size + 1=(w.alloc (.cells #[.int .i64 0,.int .i64 0,.int .i64 0,.int .i64 0,.int .i64 0,.int .i64 0] 144)).heap.size by simp]
  exact heap_alloc_new _ _
 have hh:=head_at W1 (w.heap.size + 1) n t 0 i 115 l m [] hr hn hi hl (by simpa using hx) hmo (ht.later hB1)
 rw [show ((115:UInt8).toNat:Int)=115 from rfl,Nat.zero_add] at hh
 have HK:=hide hh
 have HS:=hide (⟨hB1,b0,hr⟩:_ ∧ _ ∧ _)
 have HW1:=hide hW1
 have HX:=hide hx
 have HT:=hide ht
 have hsz:t.data.toList.length=t.size:=by simp
 clear hW1 hB1 b0 hr hh hx ht hmo
 go_enter Tryz.func75,Tryz.ntmps75
 go_wp2_with (go_at_call 116; rw [HW1.out]; refine HK.out.mono ?_; rintro e w2 ⟨T2,⟨rfl,h2,r2⟩ | ⟨hm,rfl⟩⟩ <;> refine Hid.out ?_)
 all_goals refine Lib.hid ?_
 rotate_left
 ·refine ⟨rfl,below_tch HS.out.1 T2 (by omega) HS.out.1.size,Or.inr ⟨?_,rfl⟩⟩
  have hx:=HX.out
  rw [hm] at hx
  exact rem_cut hx
 obtain ⟨r,hr⟩:=rem_whole HX.out (by rw [hsz]; exact h2.le)
 have hB2:Below w.heap.size w w2:=below_tch HS.out.1 T2 (by omega) HS.out.1.size
 have htk:t.data.toList.take (headT 115 n i l).length=headT 115 n i l:=by rw [hr,List.take_left]
 have hdr:t.data.toList.drop (headT 115 n i l).length=r:=by rw [hr,List.drop_left]
 generalize hW2:w2.alloc (.cells #[.int .i64 i,.int .i64 (vecOf l).a,.int .i64 (vecOf l).b,.int .i64 (vecOf l).c,.int .i64 (vecOf l).d,.int .i64 (vecOf l).e] 144)=W2
 have hBa:Below w2.heap.size w2 W2:=by rw [← hW2]; exact (Below.refl _ _).alloc (Nat.le_refl _) _
 have hlw:w.heap.size < w2.heap.size:=(HS.out.2.1.touch T2 (by omega)).lt
 have bh:Blk W2 w2.heap.size [.int .i64 i,.int .i64 (vecOf l).a,.int .i64 (vecOf l).b,.int .i64 (vecOf l).c,.int .i64 (vecOf l).d,.int .i64 (vecOf l).e] 144:=by rw [← hW2]; exact heap_alloc_new w2 _
 have hB3:Below w.heap.size w W2:=hB2.trans (hBa.mono (Nat.le_of_lt hlw))
 have he:=rd_end W2 (w.heap.size + 1) n t _ (h2.later hBa) (HT.out.later hB3)
 rw [htk,hdr] at he
 have HE:=hide he
 have HR:=hide hr
 have HB2:=hide hB3
 have b2:=(HS.out.2.1.touch T2 (by omega)).below hBa
 have HBK:=hide b2
 have HBH:=hide bh
 have HW2:=hide hW2
 clear h2 r2 T2 HK HW1 HX htk hdr he hr hB2 b2 hBa hB3 hW2 bh
 go_wp2_with (go_at_call 117; rw [HW2.out]; refine HE.out.mono ?_; rintro e w3 ⟨b3,⟨hd,rfl⟩ | ⟨hd,rfl⟩⟩ <;> refine Hid.out ?_)
 all_goals refine Lib.hid ?_
 rotate_left
 ·refine ⟨rfl,HB2.out.trans (b3.mono HB2.out.size),Or.inr ⟨fun e=>hd ?_,rfl⟩⟩
  have e2:=HR.out
  rw [e] at e2
  exact (List.append_cancel_left e2).symm
 have HD:=hide hd
 have b3k:=HBK.out.below b3
 have HB3:Hid (Below w.heap.size w w3 ∧ Blk w3 w.heap.size [.int .i64 0,.int .i64 0,.int .i64 0,.int .i64 0,.int .i64 0,.int .i64 0] 144):=⟨HB2.out.trans (b3.mono HB2.out.size),b3k⟩
 have r0:w3.cell? ⟨w.heap.size,0,none⟩=some (.int .i64 0):=b3k.cell 0
 have r1:w3.cell? ⟨w.heap.size,1,none⟩=some (.int .i64 0):=b3k.cell 1
 have r2:w3.cell? ⟨w.heap.size,2,none⟩=some (.int .i64 0):=b3k.cell 2
 have r3:w3.cell? ⟨w.heap.size,3,none⟩=some (.int .i64 0):=b3k.cell 3
 have r4:w3.cell? ⟨w.heap.size,4,none⟩=some (.int .i64 0):=b3k.cell 4
 have r5:w3.cell? ⟨w.heap.size,5,none⟩=some (.int .i64 0):=b3k.cell 5
 have q0:w3.frozen? ⟨w.heap.size,0,none⟩=false:=b3k.frozen 0
 have q1:w3.frozen? ⟨w.heap.size,1,none⟩=false:=b3k.frozen 1
 have q2:w3.frozen? ⟨w.heap.size,2,none⟩=false:=b3k.frozen 2
 have q3:w3.frozen? ⟨w.heap.size,3,none⟩=false:=b3k.frozen 3
 have q4:w3.frozen? ⟨w.heap.size,4,none⟩=false:=b3k.frozen 4
 have q5:w3.frozen? ⟨w.heap.size,5,none⟩=false:=b3k.frozen 5
 have bh3:=HBH.out.below b3
 have d0:w3.cell? ⟨w2.heap.size,0,none⟩=some (.int .i64 i):=bh3.cell 0
 have d1:w3.cell? ⟨w2.heap.size,1,none⟩=some (.int .i64 (vecOf l).a):=bh3.cell 1
 have d2:w3.cell? ⟨w2.heap.size,2,none⟩=some (.int .i64 (vecOf l).b):=bh3.cell 2
 have d3:w3.cell? ⟨w2.heap.size,3,none⟩=some (.int .i64 (vecOf l).c):=bh3.cell 3
 have d4:w3.cell? ⟨w2.heap.size,4,none⟩=some (.int .i64 (vecOf l).d):=bh3.cell 4
 have d5:w3.cell? ⟨w2.heap.size,5,none⟩=some (.int .i64 (vecOf l).e):=bh3.cell 5
 clear hd b3 b3k HE HBK HB2 HW2 bh3 HBH
 go_wp2_with fail
 have hb5:=put6_blk i (vecOf l) HB3.out.2
 have hT5:=put6_touch w3 w.heap.size i (vecOf l)
 unfold put6 at hb5 hT5
 generalize World.setCell _ _ _=W7 at *
 have s0:W7.cell? ⟨w.heap.size,0,none⟩=some (.int .i64 i):=hb5.cell 0
 have s1:W7.cell? ⟨w.heap.size,1,none⟩=some (.int .i64 (vecOf l).a):=hb5.cell 1
 have s2:W7.cell? ⟨w.heap.size,2,none⟩=some (.int .i64 (vecOf l).b):=hb5.cell 2
 have s3:W7.cell? ⟨w.heap.size,3,none⟩=some (.int .i64 (vecOf l).c):=hb5.cell 3
 have s4:W7.cell? ⟨w.heap.size,4,none⟩=some (.int .i64 (vecOf l).d):=hb5.cell 4
 have s5:W7.cell? ⟨w.heap.size,5,none⟩=some (.int .i64 (vecOf l).e):=hb5.cell 5
 refine bodyPost_ret (v:=headVal i (vecOf l)) (by simp [results,Tryz.results75,go_sem,s0,s1,s2,s3,s4,s5]) rfl ⟨below_tch HB3.out.1 hT5 (Nat.le_refl _) HB3.out.1.size,Or.inl ⟨?_,rfl⟩⟩
 rw [HR.out,HD.out]
 rfl
end Go.Proofs.YtiplgdkpnhamaaaGreatDoor
namespace Go.Proofs.YtiplgdkpnhamaaaGreatDoor
open Go.RowKit
theorem as_fault (W:World):(Instr.typeAssert (.iface 196 (.agg #[])) 20 196 true).run Tryz.prog W=.ok (.tuple #[.agg #[],.bool true]) W:=by kernel_rfl
set_option maxRecDepth 100000 in
theorem catch_fault (eb:Nat) (x:Int) (w:World) (hc:w.cell? ⟨eb,0,none⟩=some (.int .i64 x)) (hz:w.frozen? ⟨eb,0,none⟩=false) :
  CallsD Tryz.prog 115 #[bptr eb] (.panicking ({ v:=.iface 196 (.agg #[]),recovered:=false } :: [])) w fun e u' w'=>
   e=.returned (.tuple #[]) ∧ u'=.panicking ({ v:=.iface 196 (.agg #[]),recovered:=true } :: []) ∧ w'=(w.alloc (.cells #[] 196)).setCell ⟨eb,0,none⟩ (.int .i64 6):=by
 refine callsD_of_wpS Tryz.func115 rfl fun c₀ cs hu=>?_
 apply wpS_seq
 apply wpS_region
 simp [wpOpsS,go_sem,recoverD,hu,Tryz.ntmps115,Exit.thenS]
 refine wpS_of_wp ?_
 change Code.wp _ _ _ { tmps:=#[bptr eb,undef,undef,undef,.iface 196 (.agg #[]),undef,undef,undef,undef,undef],defers:=[] } _
 have ha:=as_fault
 have hlt:=World.block_lt_of_cell? w _ hc
 go_wp2_with fail
 cases c₀
 simp_all [bodyPostS,results,Tryz.results115]
set_option maxRecDepth 100000 in
theorem catch_idle (eb:Nat) (w:World) :
  CallsD Tryz.prog 115 #[bptr eb] .returning w fun e u' w'=>e=.returned (.tuple #[]) ∧ u'=.returning ∧ w'=w:=by
 refine callsD_of_wpS Tryz.func115 rfl fun c₀ cs hu=>?_
 apply wpS_seq
 apply wpS_region
 simp [wpOpsS,go_sem,recoverD,hu,Tryz.ntmps115,Exit.thenS]
 refine wpS_of_wp ?_
 change Code.wp _ _ _ { tmps:=#[bptr eb,undef,undef,undef,.nilIface,undef,undef,undef,undef,undef],defers:=[] } _
 go_wp2_with fail
 cases c₀
 simp_all [bodyPostS,results,Tryz.results115]
end Go.Proofs.YtiplgdkpnhamaaaGreatDoor
namespace Go.Proofs.YtiplgdkpnhamaaaGreatDoor
open Go.RowKit
set_option maxRecDepth 100000 in
set_option maxHeartbeats 8000000 in
theorem read_text_sum (w:World) (n i:Nat) (t:ByteArray) (l:List Int) (m:Bool) (hn:n ≤ 5) (hi:i < n) (hl:l.length=n) (hs:t.size ≤ 200000000000) (hx:Rem m t.data.toList (headT 115 n i l)) (hmo:∀ k (hk:k < l.length),0 ≤ l[k] ∧ l[k] ≤ maxSeq) (ht:Tabs w) :
  Calls Tryz.prog 74 #[.func (.func 75) #[] #[],.string t,.int .i64 n] w fun e w'=>Below w.heap.size w w' ∧ ((t.data.toList=sumT n i l ∧ e=.returned (.tuple #[headVal i (vecOf l),.int .i64 0])) ∨ (¬ t.data.toList=sumT n i l ∧ e=.returned (.tuple #[headVal 0 ⟨0,0,0,0,0⟩,.int .i64 6]))):=by
 have hmf:∀ (fn:Fn) (first cap:Array Value) (w:World),(Instr.makeFunc fn first cap).run Tryz.prog w=.ok (.func fn first cap) w:=fun _ _ _ _=>rfl
 generalize hW1:(w.alloc (.cells #[.int .i64 0,.int .i64 0,.int .i64 0,.int .i64 0,.int .i64 0,.int .i64 0] 144)).alloc (.cells #[.int .i64 0] 54)=W1
 have hB1:Below w.heap.size w W1:=by rw [← hW1]; exact ((Below.refl _ _).alloc (Nat.le_refl _) _).alloc (by simp) _
 have b0:Blk W1 w.heap.size [.int .i64 0,.int .i64 0,.int .i64 0,.int .i64 0,.int .i64 0,.int .i64 0] 144:=by
  rw [← hW1]; exact Blk.alloc (heap_alloc_new w _) _
 have b1:Blk W1 (w.heap.size + 1) [.int .i64 0] 54:=by
  rw [← hW1,show w.heap.size + 1=(w.alloc (.cells #[.int .i64 0,.int .i64 0,.int .i64 0,.int .i64 0,.int .i64 0,.int .i64 0] 144)).heap.size by simp]
  exact heap_alloc_new _ _
 have HC:=hide (read_summary W1 n i t l m hn hi hl hs hx hmo (ht.later hB1))
 have HS:=hide (⟨hB1,b0,b1⟩:_ ∧ _ ∧ _)
 have HW1:=hide hW1
 clear hx hmo ht hW1 hB1 b0 b1
 go_enter_defers Tryz.func74,Tryz.ntmps74
 go_wp2_with (go_at_call 75; rw [HW1.out]; refine HC.out.mono ?_; rintro e w2 ⟨hb2,⟨hd,rfl⟩ | ⟨hd,rfl⟩⟩ <;> refine Hid.out ?_)
 all_goals refine Lib.hid ?_
 ·have HD:=hide hd
  have HB2:Hid (Below w.heap.size w w2 ∧ Blk w2 w.heap.size [.int .i64 0,.int .i64 0,.int .i64 0,.int .i64 0,.int .i64 0,.int .i64 0] 144 ∧ Blk w2 (w.heap.size + 1) [.int .i64 0] 54):=⟨HS.out.1.trans (hb2.mono HS.out.1.size),HS.out.2.1.below hb2,HS.out.2.2.below hb2⟩
  clear hd hb2 HC HW1 HS
  have r0:w2.cell? ⟨w.heap.size,0,none⟩=some (.int .i64 0):=HB2.out.2.1.cell 0
  have r1:w2.cell? ⟨w.heap.size,1,none⟩=some (.int .i64 0):=HB2.out.2.1.cell 1
  have r2:w2.cell? ⟨w.heap.size,2,none⟩=some (.int .i64 0):=HB2.out.2.1.cell 2
  have r3:w2.cell? ⟨w.heap.size,3,none⟩=some (.int .i64 0):=HB2.out.2.1.cell 3
  have r4:w2.cell? ⟨w.heap.size,4,none⟩=some (.int .i64 0):=HB2.out.2.1.cell 4
  have r5:w2.cell? ⟨w.heap.size,5,none⟩=some (.int .i64 0):=HB2.out.2.1.cell 5
  have q0:w2.frozen? ⟨w.heap.size,0,none⟩=false:=HB2.out.2.1.frozen 0
  have q1:w2.frozen? ⟨w.heap.size,1,none⟩=false:=HB2.out.2.1.frozen 1
  have q2:w2.frozen? ⟨w.heap.size,2,none⟩=false:=HB2.out.2.1.frozen 2
  have q3:w2.frozen? ⟨w.heap.size,3,none⟩=false:=HB2.out.2.1.frozen 3
  have q4:w2.frozen? ⟨w.heap.size,4,none⟩=false:=HB2.out.2.1.frozen 4
  have q5:w2.frozen? ⟨w.heap.size,5,none⟩=false:=HB2.out.2.1.frozen 5
  have s0:w2.cell? ⟨w.heap.size + 1,0,none⟩=some (.int .i64 0):=HB2.out.2.2.cell 0
  have p0:w2.frozen? ⟨w.heap.size + 1,0,none⟩=false:=HB2.out.2.2.frozen 0
  go_wp2_with fail
  have hT5:=put6_touch w2 w.heap.size i (vecOf l)
  have hb5:=(put6_blk i (vecOf l) HB2.out.2.1).other (p:=⟨w.heap.size + 1,0,none⟩) (by show w.heap.size ≠ w.heap.size + 1; omega) (.int .i64 0)
  have he5:=(HB2.out.2.2.touch hT5 (by omega)).set 0 (.int .i64 0)
  have hB5:=(below_tch HB2.out.1 hT5 (Nat.le_refl _) HB2.out.1.size).setCell (p:=⟨w.heap.size + 1,0,none⟩) (Nat.le_succ _) (.int .i64 0)
  unfold put6 at hb5 he5 hB5
  generalize World.setCell _ _ _=W7 at *
  have t0:W7.cell? ⟨w.heap.size,0,none⟩=some (.int .i64 i):=hb5.cell 0
  have t1:W7.cell? ⟨w.heap.size,1,none⟩=some (.int .i64 (vecOf l).a):=hb5.cell 1
  have t2:W7.cell? ⟨w.heap.size,2,none⟩=some (.int .i64 (vecOf l).b):=hb5.cell 2
  have t3:W7.cell? ⟨w.heap.size,3,none⟩=some (.int .i64 (vecOf l).c):=hb5.cell 3
  have t4:W7.cell? ⟨w.heap.size,4,none⟩=some (.int .i64 (vecOf l).d):=hb5.cell 4
  have t5:W7.cell? ⟨w.heap.size,5,none⟩=some (.int .i64 (vecOf l).e):=hb5.cell 5
  have t6:W7.cell? ⟨w.heap.size + 1,0,none⟩=some (.int .i64 0):=he5.cell 0
  refine leaves_cons (f:=115) (args:=#[bptr (w.heap.size + 1)]) (by simp) (by simp [go_sem]) ?_
  refine (catch_idle (w.heap.size + 1) W7).mono ?_
  rintro e u' w'' ⟨rfl,rfl,rfl⟩
  have hpost:Below w.heap.size w w'' ∧ ((t.data.toList=sumT n i l ∧ (Ending.returned (.tuple #[headVal i (vecOf l),.int .i64 0]):Ending)=.returned (.tuple #[headVal i (vecOf l),.int .i64 0])) ∨ (¬ t.data.toList=sumT n i l ∧ (Ending.returned (.tuple #[headVal i (vecOf l),.int .i64 0]):Ending)=.returned (.tuple #[headVal 0 ⟨0,0,0,0,0⟩,.int .i64 6]))):=⟨hB5,Or.inl ⟨HD.out,rfl⟩⟩
  clear hB5 hb5 he5 hT5 HB2 HD
  simp only [Leaves,settle]
  refine ⟨_,?_,hpost⟩
  simp [results,Tryz.results74,go_sem,t0,t1,t2,t3,t4,t5,t6]
 ·have HD:=hide hd
  have HB2:Hid (Below w.heap.size w w2 ∧ Blk w2 w.heap.size [.int .i64 0,.int .i64 0,.int .i64 0,.int .i64 0,.int .i64 0,.int .i64 0] 144 ∧ Blk w2 (w.heap.size + 1) [.int .i64 0] 54):=⟨HS.out.1.trans (hb2.mono HS.out.1.size),HS.out.2.1.below hb2,HS.out.2.2.below hb2⟩
  clear hd hb2 HC HW1 HS
  refine leaves_cons (f:=115) (args:=#[bptr (w.heap.size + 1)]) (by simp) (by simp [go_sem]) ?_
  refine (catch_fault (w.heap.size + 1) 0 w2 (HB2.out.2.2.cell 0) (HB2.out.2.2.frozen 0)).mono ?_
  rintro e u' w'' ⟨rfl,rfl,hw⟩
  have hlt:w.heap.size + 1 < w2.heap.size:=HB2.out.2.2.lt
  have hb5:=(HB2.out.2.1.alloc (.cells #[] 196)).other (p:=⟨w.heap.size + 1,0,none⟩) (by show w.heap.size ≠ w.heap.size + 1; omega) (.int .i64 6)
  have he5:=(HB2.out.2.2.alloc (.cells #[] 196)).set 0 (.int .i64 6)
  have hB5:=(HB2.out.1.alloc HB2.out.1.size (.cells #[] 196)).setCell (p:=⟨w.heap.size + 1,0,none⟩) (Nat.le_succ _) (.int .i64 6)
  rw [← hw] at hb5 he5 hB5
  have t0:w''.cell? ⟨w.heap.size,0,none⟩=some (.int .i64 0):=hb5.cell 0
  have t1:w''.cell? ⟨w.heap.size,1,none⟩=some (.int .i64 0):=hb5.cell 1
  have t2:w''.cell? ⟨w.heap.size,2,none⟩=some (.int .i64 0):=hb5.cell 2
  have t3:w''.cell? ⟨w.heap.size,3,none⟩=some (.int .i64 0):=hb5.cell 3
  have t4:w''.cell? ⟨w.heap.size,4,none⟩=some (.int .i64 0):=hb5.cell 4
  have t5:w''.cell? ⟨w.heap.size,5,none⟩=some (.int .i64 0):=hb5.cell 5
  have t6:w''.cell? ⟨w.heap.size + 1,0,none⟩=some (.int .i64 6):=he5.cell 0
  have hpost:Below w.heap.size w w'' ∧ ((t.data.toList=sumT n i l ∧ (Ending.returned (.tuple #[headVal 0 ⟨0,0,0,0,0⟩,.int .i64 6]):Ending)=.returned (.tuple #[headVal i (vecOf l),.int .i64 0])) ∨ (¬ t.data.toList=sumT n i l ∧ (Ending.returned (.tuple #[headVal 0 ⟨0,0,0,0,0⟩,.int .i64 6]):Ending)=.returned (.tuple #[headVal 0 ⟨0,0,0,0,0⟩,.int .i64 6]))):=⟨hB5,Or.inr ⟨HD.out,rfl⟩⟩
  clear hB5 hb5 he5 HB2 HD hw hlt
  simp only [settle]
  refine ⟨_,?_,hpost⟩
  simp [results,Tryz.results74,go_sem,t0,t1,t2,t3,t4,t5,t6]
end Go.Proofs.YtiplgdkpnhamaaaGreatDoor
