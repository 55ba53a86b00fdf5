/- The texts G3, G4, C1, C3, C4, V1, V3, V4, V5, V6, V7, V8, C5, C6, joined. -/
import Derived.Test.YtiplgdkpnhamaaaGreatDoorE05
import Derived.DeepKeys4
import Derived.Deep.QuietTactic
import Derived.BigQuiet
import Derived.Deep.RegionWith
import Derived.Deep.DeepCutAuto
namespace Go.Proofs.YtiplgdkpnhamaaaGreatDoor
open Go.RowKit
open Go.Maps (Keyed)
structure Place where
 key:ByteArray
 el:ByteArray
structure Dot where
 rep:Int
 seq:Int
structure VName where
 at_:Place
 dot:Dot
def Place.val (p:Place):Value:=.agg #[.string p.key,.string p.el]
def VName.val (x:VName):Value:=.agg #[.string x.at_.key,.string x.at_.el,.int .i64 x.dot.rep,.int .i64 x.dot.seq]
theorem place_keyed:Keyed Tryz.prog 129:=Maps.Keyed.of_law (deep_law_laid (m:=6) (by kernel_rfl) (by omega) (of_decide_eq_true (by kernel_rfl)) (by kernel_rfl) (by kernel_rfl))
theorem name_keyed:Keyed Tryz.prog 233:=Maps.Keyed.of_law (deep_law_laid (m:=6) (by kernel_rfl) (by omega) (of_decide_eq_true (by kernel_rfl)) (by kernel_rfl) (by kernel_rfl))
theorem place_inj (p q:Place) (h:p.val=q.val):p=q:=by
 obtain ⟨a,b⟩:=p
 obtain ⟨c,d⟩:=q
 simp only [Place.val,Value.agg.injEq,Array.mk.injEq,List.cons.injEq,Value.string.injEq,and_true] at h
 obtain ⟨rfl,rfl⟩:=h
 rfl
theorem name_inj (p q:VName) (h:p.val=q.val):p=q:=by
 obtain ⟨⟨a,b⟩,⟨c,d⟩⟩:=p
 obtain ⟨⟨a',b'⟩,⟨c',d'⟩⟩:=q
 simp only [VName.val,Value.agg.injEq,Array.mk.injEq,List.cons.injEq,Value.string.injEq,Value.int.injEq,true_and,and_true] at h
 obtain ⟨rfl,rfl,rfl,rfl⟩:=h
 rfl
end Go.Proofs.YtiplgdkpnhamaaaGreatDoor
namespace Go.Proofs.YtiplgdkpnhamaaaGreatDoor
open Go.RowKit
theorem cellsPlace:Tryz.prog.cellsOf 129=2:=by kernel_rfl
theorem cellsDot:Tryz.prog.cellsOf 62=2:=by kernel_rfl
theorem cellsName:Tryz.prog.cellsOf 233=4:=by kernel_rfl
theorem cellsStr:Tryz.prog.cellsOf 9=1:=by kernel_rfl
theorem cellsInt:Tryz.prog.cellsOf 3=1:=by kernel_rfl
theorem manyTypes:5 ≤ Tryz.prog.types.size:=of_decide_eq_true (by kernel_rfl)
theorem place_lits (d:Nat) (a b:ByteArray) (h1:a.size ≤ maxLen) (h2:b.size ≤ maxLen):Tryz.prog.keyLits (d + 2) 129 [.string a,.string b]=some [.string a.data.toList,.string b.data.toList]:=by
 simp [Program.keyLits,Tryz.underlying129,Tryz.underlying9,cellsPlace,cellsStr,h1,h2]
theorem dot_lits (d:Nat) (r s:Int) (h1:(Lit.int .i64 r).wf=true) (h2:(Lit.int .i64 s).wf=true):Tryz.prog.keyLits (d + 2) 62 [.int .i64 r,.int .i64 s]=some [.int .i64 r,.int .i64 s]:=by
 simp [Program.keyLits,Tryz.underlying62,Tryz.underlying3,cellsDot,cellsInt,h1,h2]
theorem name_lits (d:Nat) (a b:ByteArray) (r s:Int) (h1:a.size ≤ maxLen) (h2:b.size ≤ maxLen) (h3:(Lit.int .i64 r).wf=true) (h4:(Lit.int .i64 s).wf=true):Tryz.prog.keyLits (d + 3) 233 [.string a,.string b,.int .i64 r,.int .i64 s]=some [.string a.data.toList,.string b.data.toList,.int .i64 r,.int .i64 s]:=by
 rw [Program.keyLits.eq_def]
 simp only [Tryz.underlying233]
 simp [cellsName,cellsPlace,cellsDot,place_lits d a b h1 h2,dot_lits d r s h3 h4]
theorem place_key (p:Place) (h1:p.key.size ≤ maxLen) (h2:p.el.size ≤ maxLen):∃ kl,keyOf Tryz.prog 129 p.val=some kl:=by
 have hk:Tryz.prog.keyType 129=true:=by kernel_rfl
 have hf:p.val.formed Tryz.prog 129=true:=by simp [Place.val,Value.formed,Tryz.underlying129,cellsPlace]
 have hd:Tryz.prog.types.size + 1=(Tryz.prog.types.size - 1) + 2:=by have:=manyTypes; omega
 have hl:Tryz.prog.keyLits (Tryz.prog.types.size + 1) 129 p.val.cells.toList=some [.string p.key.data.toList,.string p.el.data.toList]:=by
  rw [hd]; exact place_lits _ _ _ h1 h2
 refine ⟨.string (keyBytes [.string p.key.data.toList,.string p.el.data.toList]),?_⟩
 unfold keyOf
 rw [Tryz.underlying129]
 simp only [hk,hf,hl]
 rfl
theorem name_key (x:VName) (h1:x.at_.key.size ≤ maxLen) (h2:x.at_.el.size ≤ maxLen) (h3:(Lit.int .i64 x.dot.rep).wf=true) (h4:(Lit.int .i64 x.dot.seq).wf=true):∃ kl,keyOf Tryz.prog 233 x.val=some kl:=by
 have hk:Tryz.prog.keyType 233=true:=by kernel_rfl
 have hf:x.val.formed Tryz.prog 233=true:=by simp [VName.val,Value.formed,Tryz.underlying233,cellsName]
 have hd:Tryz.prog.types.size + 1=(Tryz.prog.types.size - 2) + 3:=by have:=manyTypes; omega
 have hl:Tryz.prog.keyLits (Tryz.prog.types.size + 1) 233 x.val.cells.toList=some [.string x.at_.key.data.toList,.string x.at_.el.data.toList,.int .i64 x.dot.rep,.int .i64 x.dot.seq]:=by
  rw [hd]; exact name_lits _ _ _ _ _ h1 h2 h3 h4
 refine ⟨.string (keyBytes [.string x.at_.key.data.toList,.string x.at_.el.data.toList,.int .i64 x.dot.rep,.int .i64 x.dot.seq]),?_⟩
 unfold keyOf
 rw [Tryz.underlying233]
 simp only [hk,hf,hl]
 rfl
end Go.Proofs.YtiplgdkpnhamaaaGreatDoor
namespace Go.Proofs.YtiplgdkpnhamaaaGreatDoor
open Go.RowKit
structure Vec where
 a:Int
 b:Int
 c:Int
 d:Int
 e:Int
def Vec.list (v:Vec):List Int:=[v.a,v.b,v.c,v.d,v.e]
def Vec.get (v:Vec) (r:Int):Int:=v.list.getD r.toNat 0
abbrev Vec.val (v:Vec):Value:=.agg #[.int .i64 v.a,.int .i64 v.b,.int .i64 v.c,.int .i64 v.d,.int .i64 v.e]
abbrev Dot.val (d:Dot):Value:=.agg #[.int .i64 d.rep,.int .i64 d.seq]
structure Ver where
 went:Dot
 sum:Int
 value:ByteArray
abbrev Ver.val (v:Ver):Value:=.agg #[.int .i64 v.went.rep,.int .i64 v.went.seq,.int .i64 v.sum,.string v.value]
def Ver.stands (v:Ver):Bool:=v.went.seq == 0
def Vec.covers (v:Vec) (d:Dot):Bool:=decide (d.seq ≤ v.get d.rep)
set_option maxHeartbeats 1000000 in
theorem stands_any (w:World) (v:Ver):Calls Tryz.prog 180 #[v.val] w fun e w'=>e=.returned (.bool v.stands) ∧ Below w.heap.size w w':=by
 obtain ⟨⟨r,s⟩,sum,val⟩:=v
 go_enter Tryz.func180,Tryz.ntmps180
 go_wp2_with fail
 go_ret
 exact ⟨rfl,(Below.refl _ _).alloc (Nat.le_refl _) _⟩
set_option maxHeartbeats 2000000 in
theorem covers_any (w:World) (v:Vec) (d:Dot) (h0:0 ≤ d.rep) (h5:d.rep < 5):Calls Tryz.prog 169 #[v.val,d.val] w fun e w'=>e=.returned (.bool (v.covers d)) ∧ Below w.heap.size w w':=by
 obtain ⟨a,b,c,dd,ee⟩:=v
 obtain ⟨r,s⟩:=d
 simp only at h0 h5
 have hr:r=0 ∨ r=1 ∨ r=2 ∨ r=3 ∨ r=4:=by omega
 have hB:Below w.heap.size w ((w.alloc (.cells #[.int .i64 a,.int .i64 b,.int .i64 c,.int .i64 dd,.int .i64 ee] 104)).alloc (.cells #[.int .i64 r,.int .i64 s] 62)):=((Below.refl _ _).alloc (Nat.le_refl _) _).alloc (by simp) _
 have HB:=hide hB
 clear hB h0 h5
 rcases hr with rfl | rfl | rfl | rfl | rfl
 all_goals
  go_enter Tryz.func169,Tryz.ntmps169
  go_wp2_with fail
  go_quiet (fail)
  go_wp2_with fail
  go_ret
  exact ⟨rfl,below_drewN HB.out _⟩
end Go.Proofs.YtiplgdkpnhamaaaGreatDoor
namespace Go.Proofs.YtiplgdkpnhamaaaGreatDoor
open Go.RowKit
set_option maxHeartbeats 1000000 in
theorem thing_any (s:ByteArray) (w:World) (hs:s.size ≤ maxLen) :
  Calls Tryz.prog 61 #[.string s] w fun e w'=>e=.returned (.int .u8 (kindOf s)) ∧ w'=w:=by
 unfold maxLen at hs
 go_enter Tryz.func61,Tryz.ntmps61
 go_wp2
 all_goals go_ret
 all_goals refine ⟨ret_int ?_,rfl⟩
 all_goals first | (rw [kindOf_long (by omega)]; done) | rw [kindOf_in (by omega)]
 all_goals try simp only [ne_eq,beq_iff_eq,beq_eq_false_iff_ne] at *
 all_goals (split <;> omega)
def cmpInt (a b:Int):Int:=if a < b then -1 else if b < a then 1 else 0
set_option maxHeartbeats 400000 in
theorem nan_int (a:Int) (w:World):Calls Tryz.prog 234 #[.int .i64 a] w fun e w'=>e=.returned (.bool false) ∧ w'=w:=by
 go_enter Tryz.func234,Tryz.ntmps234
 go_wp2
 go_ret
 exact ⟨ret_bool (by simp),rfl⟩
set_option maxHeartbeats 1000000 in
theorem cmp_int (a b:Int) (w:World):Calls Tryz.prog 209 #[.int .i64 a,.int .i64 b] w fun e w'=>e=.returned (.int .i64 (cmpInt a b)) ∧ w'=w:=by
 have HC:Hid (a < b ∨ (¬ a < b ∧ b < a) ∨ (¬ a < b ∧ ¬ b < a)):=by unfold Hid; omega
 unfold cmpInt
 go_enter Tryz.func209,Tryz.ntmps209
 go_wp2_with fail
 refine (nan_int a _).mono ?_
 rintro e w1 ⟨rfl,rfl⟩
 go_wp2_with fail
 refine (nan_int b _).mono ?_
 rintro e w2 ⟨rfl,rfl⟩
 rcases HC.out with h | ⟨h,h'⟩ | ⟨h,h'⟩
 ·go_wp2_with fail
  go_ret
  exact ⟨by simp,rfl⟩
 ·go_wp2_with fail
  go_ret
  exact ⟨by simp,rfl⟩
 ·go_wp2_with fail
  go_ret
  exact ⟨by simp,rfl⟩
end Go.Proofs.YtiplgdkpnhamaaaGreatDoor
namespace Go.Proofs.YtiplgdkpnhamaaaGreatDoor
open Go.RowKit
instance:DecidableEq Place:=fun p q=>
 if h:p.key=q.key ∧ p.el=q.el then isTrue (by cases p; cases q; simp at h; simp [h]) else isFalse (fun e=>h (by rw [e]; exact ⟨rfl,rfl⟩))
structure Wr where
 kind:Int
 amount:Int
 value:ByteArray
abbrev Wr.val (x:Wr):Value:=.agg #[.int .i64 x.kind,.int .i64 x.amount,.string x.value]
def noWr:Wr:=⟨0,0,⟨#[]⟩⟩
def wrAt (m:Place → Option Wr) (p:Place):Wr:=(m p).getD noWr
def putWr (m:Place → Option Wr) (p:Place) (x:Wr):Wr:=if x.kind=0 then { x with amount:=wrap64 (x.amount + (wrAt m p).amount) } else x
theorem zeroWr (w:World):(zeroValue 132).run Tryz.prog w=.ok noWr.val w:=by kernel_rfl
theorem wr_look {w:World} {mb n:Nat} {m:Place → Option Wr} {p:Place} (hM:MapIn w 129 mb n Place.val Wr.val m) (h1:p.key.size ≤ maxLen) (h2:p.el.size ≤ maxLen) {W:World} (hW:W.heap[mb]? = w.heap[mb]?) :
  (Instr.lookup 120 (.map (some mb)) (.agg #[.string p.key,.string p.el]) false).run Tryz.prog W=.ok (wrAt m p).val W:=by
 obtain ⟨kl,hk⟩:=place_key p h1 h2
 have a:=(hM.move hW).lookup (t:=120) place_keyed Tryz.underlying120 (zeroWr W) hk
 have e:(m p).elim noWr.val Wr.val=(wrAt m p).val:=by unfold wrAt; cases m p <;> rfl
 rw [e] at a
 exact a
theorem wr_store {w:World} {mb n:Nat} {m:Place → Option Wr} {p:Place} (hM:MapIn w 129 mb n Place.val Wr.val m) (h1:p.key.size ≤ maxLen) (h2:p.el.size ≤ maxLen) (hn:n < maxLen) (x:Wr) {W:World} (hW:W.heap[mb]? = w.heap[mb]?) :
  ∃ w',(Instr.mapUpdate 120 (.map (some mb)) (.agg #[.string p.key,.string p.el]) (.agg #[.int .i64 x.kind,.int .i64 x.amount,.string x.value])).run Tryz.prog W=.ok () w' ∧ MapIn w' 129 mb (n + 1) Place.val Wr.val (fun q=>if q=p then some x else m q) ∧ W.grownBy w' (some mb):=by
 obtain ⟨kl,hk⟩:=place_key p h1 h2
 exact (hM.move hW).store (t:=120) place_keyed Tryz.underlying120 place_inj hn hk x
theorem field_amount (k a:Int) (v:ByteArray) (W:World):(Instr.field 132 (.agg #[.int .i64 k,.int .i64 a,.string v]) 1).run Tryz.prog W=.ok (.int .i64 a) W:=by kernel_rfl
set_option maxRecDepth 100000 in
set_option maxHeartbeats 2000000 in
theorem put_any (w:World) (mb n:Nat) (m:Place → Option Wr) (p:Place) (x:Wr) (hM:MapIn w 129 mb n Place.val Wr.val m) (h1:p.key.size ≤ maxLen) (h2:p.el.size ≤ maxLen) (hn:n < maxLen) :
  Calls Tryz.prog 102 #[.map (some mb),p.val,x.val] w fun e w'=>e=.returned (.tuple #[]) ∧ MapIn w' 129 mb (n + 1) Place.val Wr.val (fun q=>if q=p then some (putWr m p x) else m q) ∧ Touch (fun q=>q=mb) w w':=by
 have hml:=hM.lt
 obtain ⟨k,a,v⟩:=x
 obtain ⟨pk,pe⟩:=p
 simp only [Place.val] at *
 have hb:∀ o1 o2:Obj,((w.alloc o1).alloc o2).heap[mb]? = w.heap[mb]?:=fun o1 o2=>by rw [Below.heap_alloc _ _ _ (by simp; omega),Below.heap_alloc _ _ _ hml]
 by_cases hk:k=0
 ·subst hk
  have e:putWr m ⟨pk,pe⟩ ⟨0,a,v⟩=⟨0,wrap64 (a + (wrAt m ⟨pk,pe⟩).amount),v⟩:=by simp [putWr]
  rw [e]
  have l1:=wr_look (p:=⟨pk,pe⟩) hM h1 h2 (W:=((w.alloc (.cells #[.string pk,.string pe] 129)).alloc (.cells #[.int .i64 0,.int .i64 a,.string v] 132)).drew) (hb _ _)
  obtain ⟨w2,hrun,hM2,hg2⟩:=wr_store (p:=⟨pk,pe⟩) hM h1 h2 hn ⟨0,wrap64 (a + (wrAt m ⟨pk,pe⟩).amount),v⟩ (W:=((w.alloc (.cells #[.string pk,.string pe] 129)).alloc (.cells #[.int .i64 0,.int .i64 (wrap64 (a + (wrAt m ⟨pk,pe⟩).amount)),.string v] 132)).drew) (hb _ _)
  have HM2:=hide hM2
  have HG2:=hide hg2
  clear hM2 hg2 hM hb e
  generalize wrAt m ⟨pk,pe⟩=z at *
  obtain ⟨zk,za,zv⟩:=z
  dsimp only [Wr.val] at l1 hrun
  have hfa:=field_amount zk za zv
  go_enter Tryz.func102,Tryz.ntmps102
  go_wp2_with fail
  go_region
  all_goals go_wp2_with fail
  all_goals go_end0
  all_goals exact ⟨rfl,HM2.out,Touch.grown (Touch.drew (((Touch.refl _ _).alloc _).alloc _)) HG2.out (fun q hq=>Or.inl (by cases hq; rfl))⟩
 ·have e:putWr m ⟨pk,pe⟩ ⟨k,a,v⟩=⟨k,a,v⟩:=by simp [putWr,hk]
  rw [e]
  have hk':(k == 0)=false:=beq_false_of_ne hk
  obtain ⟨w2,hrun,hM2,hg2⟩:=wr_store (p:=⟨pk,pe⟩) hM h1 h2 hn ⟨k,a,v⟩ (W:=(w.alloc (.cells #[.string pk,.string pe] 129)).alloc (.cells #[.int .i64 k,.int .i64 a,.string v] 132)) (hb _ _)
  have HM2:=hide hM2
  have HG2:=hide hg2
  clear hM2 hg2 hM hb e
  simp only at hrun
  go_enter Tryz.func102,Tryz.ntmps102
  go_wp2_with fail
  go_end0
  exact ⟨rfl,HM2.out,Touch.grown (((Touch.refl _ _).alloc _).alloc _) HG2.out (fun q hq=>Or.inl (by cases hq; rfl))⟩
end Go.Proofs.YtiplgdkpnhamaaaGreatDoor
namespace Go.Proofs.YtiplgdkpnhamaaaGreatDoor
open Go.RowKit
instance:DecidableEq Dot:=fun p q=>
 if h:p.rep=q.rep ∧ p.seq=q.seq then isTrue (by cases p; cases q; simp at h; simp [h]) else isFalse (fun e=>h (by rw [e]; exact ⟨rfl,rfl⟩))
instance:DecidableEq VName:=fun p q=>
 if h:p.at_=q.at_ ∧ p.dot=q.dot then isTrue (by cases p; cases q; simp at h; simp [h]) else isFalse (fun e=>h (by rw [e]; exact ⟨rfl,rfl⟩))
def noVer:Ver:=⟨⟨0,0⟩,0,⟨#[]⟩⟩
def verAt (vers:VName → Option Ver) (x:VName):Ver:=(vers x).getD noVer
def readsB (saw:Vec) (vers:VName → Option Ver) (x:VName):Bool:=saw.covers x.dot && ((verAt vers x).stands || !saw.covers (verAt vers x).went)
structure Snap where
 blk:Nat
 saw:Vec
 kept:List VName
structure St where
 vis:Vec
 vers:VName → Option Ver
 came:Place → List Dot
 els:ByteArray → ByteArray → Bool
 snaps:List Snap
def setVer (vers:VName → Option Ver) (x:VName) (v:Option Ver):VName → Option Ver:=fun y=>if y=x then v else vers y
theorem setVer_same (vers:VName → Option Ver) (x:VName) (v:Option Ver):setVer vers x v x=v:=by simp [setVer]
theorem setVer_other {vers:VName → Option Ver} {x y:VName} {v:Option Ver} (h:y ≠ x):setVer vers x v y=vers y:=by simp [setVer,h]
def setCame (came:Place → List Dot) (p:Place) (l:List Dot):Place → List Dot:=fun q=>if q=p then l else came q
theorem setCame_same (came:Place → List Dot) (p:Place) (l:List Dot):setCame came p l p=l:=by simp [setCame]
theorem setCame_other {came:Place → List Dot} {p q:Place} {l:List Dot} (h:q ≠ p):setCame came p l q=came q:=by simp [setCame,h]
def setEls (els:ByteArray → ByteArray → Bool) (p:Place) (b:Bool):ByteArray → ByteArray → Bool:=fun k e=>if k=p.key ∧ e=p.el then b else els k e
def leftOf' (l:List Dot) (d:Dot):List Dot:=l.filter fun e=>!decide (e=d)
def dropSt (st:St) (x:VName):St:=
 { st with vers:=setVer st.vers x none,came:=setCame st.came x.at_ (leftOf' (st.came x.at_) x.dot),els:=if leftOf' (st.came x.at_) x.dot=[] then setEls st.els x.at_ false else st.els }
def keepFor (x:VName) (s:Snap):Snap:={ s with kept:=s.kept ++ [x] }
def keepAt (vers:VName → Option Ver) (x:VName):List Snap → Option (List Snap)
 | []=>none
 | s :: l=>if readsB s.saw vers x then some (keepFor x s :: l) else (keepAt vers x l).map (s :: ·)
def entrustSt (st:St) (x:VName):St:=
 match keepAt st.vers x st.snaps with
 | some l=>{ st with snaps:=l }
 | none=>dropSt st x
def retireOne (p:Place) (seen:Vec) (by_:Dot) (st:St) (d:Dot):St:=
 if (verAt st.vers ⟨p,d⟩).stands && seen.covers d then entrustSt { st with vers:=setVer st.vers ⟨p,d⟩ (some { verAt st.vers ⟨p,d⟩ with went:=by_ }) } ⟨p,d⟩ else st
def retireSt (st:St) (p:Place) (seen:Vec) (by_:Dot):St:=(st.came p).foldl (retireOne p seen by_) st
def putSt (st:St) (x:VName) (v:Ver):St:={ st with vers:=setVer st.vers x (some v),came:=setCame st.came x.at_ (st.came x.at_ ++ [x.dot]) }
def listSt (st:St) (p:Place):St:={ st with els:=setEls st.els p true }
def standingOf (st:St) (p:Place):Int:=
 match (st.came p).find? fun d=>(verAt st.vers ⟨p,d⟩).stands with
 | some d=>(verAt st.vers ⟨p,d⟩).sum
 | none=>0
def addSt (st:St) (p:Place) (amount:Int) (dot:Dot):St:=
 let sum:=wrap64 (standingOf st p + amount)
 let st1:=retireSt st p st.vis dot
 if sum=0 then st1 else putSt st1 ⟨p,dot⟩ ⟨⟨0,0⟩,sum,⟨#[]⟩⟩
def writeSt (saw:Vec) (dot:Dot) (st:St) (p:Place) (x:Wr):St:=
 if x.kind=0 then addSt st p x.amount dot
 else if x.kind=1 then putSt (retireSt st p saw dot) ⟨p,dot⟩ ⟨⟨0,0⟩,0,x.value⟩
 else if x.kind=2 then listSt (putSt (retireSt st p saw dot) ⟨p,dot⟩ noVer) p
 else if x.kind=3 then retireSt st p saw dot
 else st
def toldRaw (saw:Vec) (st:St) (p:Place):List Dot:=(st.came p).filter fun d=>readsB saw st.vers ⟨p,d⟩
structure Place.Ok (p:Place):Prop where
 key:p.key.size ≤ maxLen
 el:p.el.size ≤ maxLen
structure Dot.Ok (d:Dot):Prop where
 r0:0 ≤ d.rep
 r5:d.rep < 5
 s:(Lit.int .i64 d.seq).wf=true
structure VName.Ok (x:VName):Prop where
 at_:x.at_.Ok
 dot:x.dot.Ok
theorem rep_wf {r:Int} (h0:0 ≤ r) (h5:r < 5):(Lit.int .i64 r).wf=true:=by
 have:r=0 ∨ r=1 ∨ r=2 ∨ r=3 ∨ r=4:=by omega
 rcases this with rfl | rfl | rfl | rfl | rfl <;> decide
theorem VName.Ok.lit {x:VName} (h:x.Ok):∃ kl,keyOf Tryz.prog 233 x.val=some kl:=name_key x h.at_.key h.at_.el (rep_wf h.dot.r0 h.dot.r5) h.dot.s
theorem Place.Ok.lit {p:Place} (h:p.Ok):∃ kl,keyOf Tryz.prog 129 p.val=some kl:=place_key p h.key h.el
structure St.Wf (st:St):Prop where
 here:∀ p d,d ∈ st.came p ↔ (st.vers ⟨p,d⟩).isSome
 once:∀ p,(st.came p).Nodup
 ok:∀ p d,d ∈ st.came p → (VName.mk p d).Ok
 went:∀ x v,st.vers x=some v → v.went.Ok
 kept:∀ s,s ∈ st.snaps → ∀ x,x ∈ s.kept → x.Ok
 blks:(st.snaps.map Snap.blk).Nodup
end Go.Proofs.YtiplgdkpnhamaaaGreatDoor
namespace Go.Proofs.YtiplgdkpnhamaaaGreatDoor
open Go.RowKit
theorem mem_left' {l:List Dot} {d e:Dot}:e ∈ leftOf' l d ↔ e ∈ l ∧ e ≠ d:=by simp [leftOf',List.mem_filter]
theorem VName.ext' {x:VName} {p:Place} {d:Dot}:VName.mk p d=x ↔ p=x.at_ ∧ d=x.dot:=by
 cases x; simp
theorem noDot_ok:(⟨0,0⟩:Dot).Ok:=⟨by decide,by decide,by decide⟩
theorem St.Wf.drop {st:St} (h:st.Wf) (x:VName):(dropSt st x).Wf:=by
 refine ⟨fun p d=>?_,fun p=>?_,fun p d hd=>?_,fun y v hv=>?_,h.kept,h.blks⟩
 ·show d ∈ setCame st.came x.at_ _ p ↔ (setVer st.vers x none ⟨p,d⟩).isSome=true
  by_cases c:p=x.at_
  ·subst c
   rw [setCame_same,mem_left',h.here]
   by_cases e:d=x.dot
   ·subst e
    rw [show (⟨x.at_,x.dot⟩:VName)=x from rfl,setVer_same]; simp
   ·rw [setVer_other (fun c=>e (VName.ext'.1 c).2)]; simp [e]
  ·rw [setCame_other c,setVer_other (fun e=>c (VName.ext'.1 e).1),h.here]
 ·show (setCame st.came x.at_ _ p).Nodup
  by_cases c:p=x.at_
  ·subst c; rw [setCame_same]; exact (h.once _).sublist List.filter_sublist
  ·rw [setCame_other c]; exact h.once p
 ·have hd':d ∈ setCame st.came x.at_ (leftOf' (st.came x.at_) x.dot) p:=hd
  by_cases c:p=x.at_
  ·subst c; rw [setCame_same,mem_left'] at hd'; exact h.ok _ _ hd'.1
  ·rw [setCame_other c] at hd'; exact h.ok _ _ hd'
 ·have hv':setVer st.vers x none y=some v:=hv
  by_cases c:y=x
  ·subst c; rw [setVer_same] at hv'; cases hv'
  ·rw [setVer_other c] at hv'; exact h.went y v hv'
theorem St.Wf.gone {st:St} (h:st.Wf) {x:VName} {v:Ver} (hx:st.vers x=some v) {v':Ver} (hv:v'.went.Ok):({ st with vers:=setVer st.vers x (some v') }:St).Wf:=by
 refine ⟨fun p d=>?_,h.once,h.ok,fun y u hu=>?_,h.kept,h.blks⟩
 ·show d ∈ st.came p ↔ (setVer st.vers x (some v') ⟨p,d⟩).isSome=true
  rw [h.here]
  by_cases c:(⟨p,d⟩:VName)=x
  ·rw [c,setVer_same,hx]; simp
  ·rw [setVer_other c]
 ·have hu':setVer st.vers x (some v') y=some u:=hu
  by_cases c:y=x
  ·subst c; rw [setVer_same] at hu'; cases hu'; exact hv
  ·rw [setVer_other c] at hu'; exact h.went y u hu'
theorem keepAt_some {vers:VName → Option Ver} {x:VName}:∀ {l m:List Snap},keepAt vers x l=some m → ∃ a s b,l=a ++ s :: b ∧ m=a ++ keepFor x s :: b ∧ readsB s.saw vers x=true ∧ ∀ t,t ∈ a → readsB t.saw vers x=false
 | [],_,h=>by simp [keepAt] at h
 | s :: l,m,h=>by
  unfold keepAt at h
  split at h
  ·rename_i c
   cases h
   exact ⟨[],s,l,rfl,rfl,c,by simp⟩
  ·rename_i c
   rw [Option.map_eq_some_iff] at h
   obtain ⟨m',hm,rfl⟩:=h
   obtain ⟨a,s',b,rfl,rfl,h1,h2⟩:=keepAt_some hm
   refine ⟨s :: a,s',b,rfl,rfl,h1,fun t ht=>?_⟩
   rcases List.mem_cons.1 ht with rfl | ht
   ·simpa using c
   ·exact h2 t ht
theorem keepAt_none {vers:VName → Option Ver} {x:VName}:∀ {l:List Snap},keepAt vers x l=none → ∀ s,s ∈ l → readsB s.saw vers x=false
 | [],_,s,hs=>by simp at hs
 | s :: l,h,t,ht=>by
  unfold keepAt at h
  split at h
  ·cases h
  ·rename_i c
   rw [Option.map_eq_none_iff] at h
   rcases List.mem_cons.1 ht with rfl | ht
   ·simpa using c
   ·exact keepAt_none h t ht
theorem St.Wf.entrust {st:St} (h:st.Wf) {x:VName} (hx:x.Ok):(entrustSt st x).Wf:=by
 unfold entrustSt
 split
 ·rename_i m hm
  obtain ⟨a,s,b,e,rfl,-,-⟩:=keepAt_some hm
  refine ⟨h.here,h.once,h.ok,h.went,fun t ht y hy=>?_,?_⟩
  ·have hk:=h.kept
   rw [e] at hk
   have ht':t ∈ a ++ keepFor x s :: b:=ht
   rw [List.mem_append,List.mem_cons] at ht'
   rcases ht' with c | c | c
   ·exact hk t (by simp [c]) y hy
   ·subst c
    have hy':y ∈ s.kept ++ [x]:=hy
    rw [List.mem_append,List.mem_singleton] at hy'
    rcases hy' with c | c
    ·exact hk s (by simp) y c
    ·subst c; exact hx
   ·exact hk t (by simp [c]) y hy
  ·have hb:=h.blks
   rw [e] at hb
   show ((a ++ keepFor x s :: b).map Snap.blk).Nodup
   simpa [keepFor] using hb
 ·exact h.drop x
theorem entrust_snaps (st:St) (x:VName):(entrustSt st x).snaps.map Snap.blk=st.snaps.map Snap.blk:=by
 unfold entrustSt
 split
 ·rename_i m hm
  obtain ⟨a,s,b,e,rfl,-,-⟩:=keepAt_some hm
  rw [e]; simp [keepFor]
 ·rfl
theorem entrust_other {st:St} {x y:VName} (h:y ≠ x):(entrustSt st x).vers y=st.vers y:=by
 unfold entrustSt
 split
 ·rfl
 ·exact setVer_other h
theorem entrust_vis (st:St) (x:VName):(entrustSt st x).vis=st.vis:=by unfold entrustSt; split <;> rfl
theorem St.Wf.one {st:St} (h:st.Wf) {p:Place} {seen:Vec} {by_ d:Dot} (hb:by_.Ok) (hd:(st.vers ⟨p,d⟩).isSome):(retireOne p seen by_ st d).Wf:=by
 unfold retireOne
 split
 ·obtain ⟨v,hv⟩:=Option.isSome_iff_exists.1 hd
  refine St.Wf.entrust (St.Wf.gone h hv (v':={ verAt st.vers ⟨p,d⟩ with went:=by_ }) hb) (h.ok p d ((h.here p d).2 hd))
 ·exact h
theorem one_other {st:St} {p:Place} {seen:Vec} {by_ d:Dot} {y:VName} (h:y ≠ ⟨p,d⟩):(retireOne p seen by_ st d).vers y=st.vers y:=by
 unfold retireOne
 split
 ·rw [entrust_other h]; exact setVer_other h
 ·rfl
theorem one_vis (st:St) (p:Place) (seen:Vec) (by_ d:Dot):(retireOne p seen by_ st d).vis=st.vis:=by
 unfold retireOne; split
 ·rw [entrust_vis]
 ·rfl
theorem retire_steps {st:St} (h:st.Wf) (p:Place) (seen:Vec) {by_:Dot} (hb:by_.Ok):∀ l:List Dot,l.Nodup → (∀ d,d ∈ l → (st.vers ⟨p,d⟩).isSome) → (l.foldl (retireOne p seen by_) st).Wf ∧ ∀ d,d ∉ l → (l.foldl (retireOne p seen by_) st).vers ⟨p,d⟩=st.vers ⟨p,d⟩:=by
 intro l
 induction l generalizing st with
 | nil=>exact fun _ _=>⟨h,fun d _=>rfl⟩
 | cons a l ih=>
  intro hn hl
  obtain ⟨ha,hn'⟩:=List.nodup_cons.1 hn
  have h1:=h.one (seen:=seen) hb (hl a (by simp))
  have hv:∀ d,d ≠ a → (retireOne p seen by_ st a).vers ⟨p,d⟩=st.vers ⟨p,d⟩:=fun d hd=>one_other (fun e=>hd (VName.mk.inj e).2)
  obtain ⟨i1,i2⟩:=ih h1 hn' (fun d hd=>by rw [hv d (fun e=>ha (e ▸ hd))]; exact hl d (by simp [hd]))
  refine ⟨i1,fun d hd=>?_⟩
  rw [List.foldl_cons,i2 d (fun c=>hd (by simp [c])),hv d (fun e=>hd (by simp [e]))]
theorem St.Wf.retire {st:St} (h:st.Wf) (p:Place) (seen:Vec) {by_:Dot} (hb:by_.Ok):(retireSt st p seen by_).Wf:=
 (retire_steps h p seen hb (st.came p) (h.once p) fun d hd=>(h.here p d).1 hd).1
theorem St.Wf.put {st:St} (h:st.Wf) {x:VName} (hx:x.Ok) {v:Ver} (hv:v.went.Ok) (hn:st.vers x=none):(putSt st x v).Wf:=by
 have hnc:x.dot ∉ st.came x.at_:=fun c=>by
  have:=(h.here x.at_ x.dot).1 c
  rw [show (⟨x.at_,x.dot⟩:VName)=x from rfl,hn] at this; cases this
 refine ⟨fun p d=>?_,fun p=>?_,fun p d hd=>?_,fun y u hu=>?_,h.kept,h.blks⟩
 ·show d ∈ setCame st.came x.at_ _ p ↔ (setVer st.vers x (some v) ⟨p,d⟩).isSome=true
  by_cases c:p=x.at_
  ·subst c
   rw [setCame_same,List.mem_append,List.mem_singleton]
   by_cases e:d=x.dot
   ·subst e
    rw [show (⟨x.at_,x.dot⟩:VName)=x from rfl,setVer_same]; simp
   ·rw [setVer_other (fun c=>e (VName.ext'.1 c).2),← h.here]; simp [e]
  ·rw [setCame_other c,setVer_other (fun e=>c (VName.ext'.1 e).1),h.here]
 ·show (setCame st.came x.at_ _ p).Nodup
  by_cases c:p=x.at_
  ·subst c; rw [setCame_same]
   exact List.nodup_append.2 ⟨h.once _,by simp,fun a ha b hb e=>hnc (by rw [List.mem_singleton] at hb; rw [← hb,← e]; exact ha)⟩
  ·rw [setCame_other c]; exact h.once p
 ·have hd':d ∈ setCame st.came x.at_ (st.came x.at_ ++ [x.dot]) p:=hd
  by_cases c:p=x.at_
  ·subst c; rw [setCame_same,List.mem_append,List.mem_singleton] at hd'
   rcases hd' with c | c
   ·exact h.ok _ _ c
   ·subst c; exact hx
  ·rw [setCame_other c] at hd'; exact h.ok _ _ hd'
 ·have hu':setVer st.vers x (some v) y=some u:=hu
  by_cases c:y=x
  ·subst c; rw [setVer_same] at hu'; cases hu'; exact hv
  ·rw [setVer_other c] at hu'; exact h.went y u hu'
theorem St.Wf.list {st:St} (h:st.Wf) (p:Place):(listSt st p).Wf:=⟨h.here,h.once,h.ok,h.went,h.kept,h.blks⟩
def KeptRoom (st:St) (m:Nat):Prop:=∀ s,s ∈ st.snaps → s.kept.length + m ≤ 1000000000000
theorem KeptRoom.entrust {st:St} {m:Nat} (h:KeptRoom st (m + 1)) (x:VName):KeptRoom (entrustSt st x) m:=by
 unfold entrustSt
 split
 ·rename_i l hm
  obtain ⟨a,s,b,e,rfl,-,-⟩:=keepAt_some hm
  intro t ht
  unfold KeptRoom at h
  rw [e] at h
  have ht':t ∈ a ++ keepFor x s :: b:=ht
  rw [List.mem_append,List.mem_cons] at ht'
  rcases ht' with c | c | c
  ·have:=h t (by simp [c]); omega
  ·subst c
   have:=h s (by simp)
   simp only [keepFor,List.length_append,List.length_cons,List.length_nil]; omega
  ·have:=h t (by simp [c]); omega
 ·exact fun s hs=>by have:=h s hs; omega
theorem KeptRoom.less {st:St} {m k:Nat} (h:KeptRoom st m) (hk:k ≤ m):KeptRoom st k:=fun s hs=>by have:=h s hs; omega
theorem KeptRoom.one {st:St} {m:Nat} (h:KeptRoom st (m + 1)) (p:Place) (seen:Vec) (by_ d:Dot):KeptRoom (retireOne p seen by_ st d) m:=by
 unfold retireOne
 split
 ·refine KeptRoom.entrust ?_ _
  exact h
 ·exact h.less (by omega)
end Go.Proofs.YtiplgdkpnhamaaaGreatDoor
namespace Go.Proofs.YtiplgdkpnhamaaaGreatDoor
open Go.RowKit
structure Hist where
 dot:Nat → Dot
 wr:Nat → Place → Option Wr
 sees:Nat → Nat → Bool
def amt (x:Option Wr):Int:=match x with | none=>0 | some x=>if x.kind=0 then x.amount else 0
def Hist.total (H:Hist) (p:Place):Nat → Int
 | 0=>0
 | j + 1=>wrap64 (H.total p j + amt (H.wr j p))
def Hist.isVer (H:Hist) (p:Place) (j:Nat):Bool:=
 match H.wr j p with
 | none=>false
 | some x=>if x.kind=0 then !decide (H.total p (j + 1)=0) else decide (x.kind=1) || decide (x.kind=2)
def Hist.over (H:Hist) (p:Place) (k j:Nat):Bool:=
 match H.wr k p with
 | none=>false
 | some x=>decide (x.kind=0) || H.sees k j
def Hist.wentAt (H:Hist) (p:Place) (j:Nat):Nat → Option Nat
 | 0=>none
 | N + 1=>match H.wentAt p j N with
  | some k=>some k
  | none=>if j < N ∧ H.over p N j=true then some N else none
def Hist.wentDot (H:Hist) (p:Place) (j N:Nat):Dot:=match H.wentAt p j N with | some k=>H.dot k | none=>⟨0,0⟩
def Hist.verOf (H:Hist) (p:Place) (j N:Nat):Ver:=
 match H.wr j p with
 | none=>⟨H.wentDot p j N,0,⟨#[]⟩⟩
 | some x=>if x.kind=0 then ⟨H.wentDot p j N,H.total p (j + 1),⟨#[]⟩⟩ else if x.kind=1 then ⟨H.wentDot p j N,0,x.value⟩ else ⟨H.wentDot p j N,0,⟨#[]⟩⟩
def Hist.at (H:Hist) (saw:Vec) (T N:Nat):Prop:=∀ j,j < N → saw.covers (H.dot j)=decide (j < T)
structure Hist.Ok (H:Hist) (N:Nat):Prop where
 inj:∀ j k,j < N → k < N → H.dot j=H.dot k → j=k
 seq:∀ j,j < N → (H.dot j).seq ≠ 0
 ok:∀ j,j < N → (H.dot j).Ok
theorem Hist.Ok.less {H:Hist} {N M:Nat} (h:H.Ok N) (hm:M ≤ N):H.Ok M:=⟨fun j k hj hk=>h.inj j k (by omega) (by omega),fun j hj=>h.seq j (by omega),fun j hj=>h.ok j (by omega)⟩
section
variable {H:Hist} {p:Place} {j N k T:Nat}
theorem Hist.wentAt_lt:∀ {N:Nat},H.wentAt p j N=some k → j < k ∧ k < N ∧ H.over p k j=true
 | 0,h=>by simp [Hist.wentAt] at h
 | N + 1,h=>by
  unfold Hist.wentAt at h
  split at h
  ·rename_i k' e
   cases h
   have:=Hist.wentAt_lt e
   exact ⟨this.1,by omega,this.2.2⟩
  ·split at h
   ·rename_i c; cases h; exact ⟨c.1,by omega,c.2⟩
   ·cases h
theorem Hist.wentAt_none:∀ {N:Nat},H.wentAt p j N=none → ∀ k,j < k → k < N → H.over p k j=false
 | 0,_,k,_,hk=>by omega
 | N + 1,h,k,hj,hk=>by
  unfold Hist.wentAt at h
  split at h
  ·cases h
  ·rename_i e
   split at h
   ·cases h
   ·rename_i c
    by_cases hkN:k=N
    ·subst hkN
     cases ho:H.over p k j
     ·rfl
     ·exact absurd ⟨hj,ho⟩ c
    ·exact Hist.wentAt_none e k hj (by omega)
theorem Hist.wentAt_free (h:∀ k,j < k → k < N → H.over p k j=false):H.wentAt p j N=none:=by
 cases e:H.wentAt p j N with
 | none=>rfl
 | some k=>have:=Hist.wentAt_lt e; rw [h k this.1 this.2.1] at this; exact absurd this.2.2 (by simp)
theorem Hist.wentAt_keep (h:H.wentAt p j N=some k):H.wentAt p j (N + 1)=some k:=by unfold Hist.wentAt; rw [h]
theorem Hist.wentAt_mono (h:H.wentAt p j N=some k):∀ m,H.wentAt p j (N + m)=some k
 | 0=>h
 | m + 1=>Hist.wentAt_keep (Hist.wentAt_mono h m)
theorem Hist.wentAt_back (hT:T ≤ N):H.wentAt p j T=none ↔ (H.wentAt p j N=none ∨ ∃ k,H.wentAt p j N=some k ∧ T ≤ k):=by
 constructor
 ·intro h
  cases e:H.wentAt p j N with
  | none=>exact Or.inl rfl
  | some k=>
   refine Or.inr ⟨k,rfl,?_⟩
   have hk:=Hist.wentAt_lt e
   rcases Nat.lt_or_ge k T with c | c
   ·have:=Hist.wentAt_none h k hk.1 c
    rw [hk.2.2] at this; cases this
   ·exact c
 ·intro h
  cases e:H.wentAt p j T with
  | none=>rfl
  | some k=>
   have h2:=Hist.wentAt_mono e (N - T)
   rw [show T + (N - T)=N by omega] at h2
   have hk:=Hist.wentAt_lt e
   rcases h with c | ⟨k',c,c'⟩
   ·rw [h2] at c; cases c
   ·rw [h2] at c; cases c; omega
theorem Hist.verOf_went:(H.verOf p j N).went=H.wentDot p j N:=by
 unfold Hist.verOf
 split
 ·rfl
 ·split
  ·rfl
  ·split <;> rfl
theorem Hist.verOf_set {N M:Nat}:{ H.verOf p j N with went:=H.wentDot p j M }=H.verOf p j M:=by
 unfold Hist.verOf
 split
 ·rfl
 ·split
  ·rfl
  ·split <;> rfl
theorem Hist.verOf_same {N M:Nat} (h:H.wentAt p j N=H.wentAt p j M):H.verOf p j N=H.verOf p j M:=by
 rw [← Hist.verOf_set (N:=N) (M:=M)]
 have:H.wentDot p j M=H.wentDot p j N:=by unfold Hist.wentDot; rw [h]
 rw [this]
 exact Hist.verOf_set.symm
theorem Hist.stands_iff (hO:H.Ok N):(H.verOf p j N).stands=true ↔ H.wentAt p j N=none:=by
 unfold Ver.stands
 rw [Hist.verOf_went]
 unfold Hist.wentDot
 split
 ·rename_i k e
  have hk:=Hist.wentAt_lt e
  simp [hO.seq k hk.2.1,e]
 ·simp_all
theorem Hist.reads_iff {saw:Vec} {vers:VName → Option Ver} (hO:H.Ok N) (hv:vers ⟨p,H.dot j⟩=some (H.verOf p j N)) :
  readsB saw vers ⟨p,H.dot j⟩=true ↔ saw.covers (H.dot j)=true ∧ (H.wentAt p j N=none ∨ ∃ k,H.wentAt p j N=some k ∧ saw.covers (H.dot k)=false):=by
 unfold readsB verAt
 rw [hv]
 simp only [Option.getD_some,Bool.and_eq_true,Bool.or_eq_true,Bool.not_eq_true',Hist.stands_iff hO]
 refine and_congr Iff.rfl ?_
 cases e:H.wentAt p j N with
 | none=>simp
 | some k=>
  rw [Hist.verOf_went]
  unfold Hist.wentDot
  rw [e]
  constructor
  ·rintro (c | c)
   ·cases c
   ·exact Or.inr ⟨k,rfl,c⟩
  ·rintro (c | ⟨k',c,c'⟩)
   ·cases c
   ·cases c; exact Or.inr c'
end
structure PInv (H:Hist) (p:Place) (N:Nat) (st:St):Prop where
 b:∀ d v,st.vers ⟨p,d⟩=some v → ∃ j,j < N ∧ d=H.dot j ∧ H.isVer p j=true ∧ v=H.verOf p j N
 c:∀ j,j < N → H.isVer p j=true → (H.wentAt p j N=none ∨ ∃ s k,s ∈ st.snaps ∧ s.saw.covers (H.dot j)=true ∧ H.wentAt p j N=some k ∧ s.saw.covers (H.dot k)=false) → st.vers ⟨p,H.dot j⟩=some (H.verOf p j N)
 e:∀ s,s ∈ st.snaps → ∀ d,(⟨p,d⟩:VName) ∈ s.kept → ∃ j,j < N ∧ d=H.dot j ∧ H.isVer p j=true ∧ (H.wentAt p j N).isSome
theorem PInv.other {H:Hist} {p:Place} {N:Nat} {st st':St} (h:PInv H p N st) (hv:∀ d,st'.vers ⟨p,d⟩=st.vers ⟨p,d⟩) (hs:∀ s',s' ∈ st'.snaps → ∃ s,s ∈ st.snaps ∧ s'.saw=s.saw ∧ ∀ d,(⟨p,d⟩:VName) ∈ s'.kept → (⟨p,d⟩:VName) ∈ s.kept):PInv H p N st':=by
 refine ⟨fun d v hd=>h.b d v (by rw [← hv]; exact hd),fun j hj hi hc=>?_,fun s' hs' d hd=>?_⟩
 ·rw [hv]
  refine h.c j hj hi (hc.imp id ?_)
  rintro ⟨s',k,h1,h2,h3,h4⟩
  obtain ⟨s,a,b,-⟩:=hs s' h1
  exact ⟨s,k,a,by rw [← b]; exact h2,h3,by rw [← b]; exact h4⟩
 ·obtain ⟨s,a,-,b⟩:=hs s' hs'
  exact h.e s a d (b d hd)
theorem PInv.dead {H:Hist} {p:Place} {N:Nat} {st:St} (h:PInv H p N st) (hw:H.wr N p=none):PInv H p (N + 1) st:=by
 have hg:∀ j,H.wentAt p j (N + 1)=H.wentAt p j N:=fun j=>by
  cases e:H.wentAt p j N with
  | some k=>exact Hist.wentAt_keep e
  | none=>
   unfold Hist.wentAt
   rw [e]
   have:H.over p N j=false:=by unfold Hist.over; rw [hw]
   simp [this]
 have hv:∀ j,H.verOf p j (N + 1)=H.verOf p j N:=fun j=>Hist.verOf_same (hg j)
 have hi:H.isVer p N=false:=by unfold Hist.isVer; rw [hw]
 refine ⟨fun d v hd=>?_,fun j hj hj2 hc=>?_,fun s hs d hd=>?_⟩
 ·obtain ⟨j,a,b,c,e⟩:=h.b d v hd
  exact ⟨j,by omega,b,c,by rw [hv]; exact e⟩
 ·have hjN:j < N:=by
   rcases Nat.lt_or_ge j N with c | c
   ·exact c
   ·have:j=N:=by omega
    subst this; rw [hi] at hj2; cases hj2
  rw [hv]
  rw [hg] at hc
  exact h.c j hjN hj2 hc
 ·obtain ⟨j,a,b,c,e⟩:=h.e s hs d hd
  exact ⟨j,by omega,b,c,by rw [hg]; exact e⟩
end Go.Proofs.YtiplgdkpnhamaaaGreatDoor
namespace Go.Proofs.YtiplgdkpnhamaaaGreatDoor
open Go.RowKit
def SnapsBut (p:Place) (st st':St):Prop:=∀ s',s' ∈ st'.snaps → ∃ s,s ∈ st.snaps ∧ s'.saw=s.saw ∧ s'.blk=s.blk ∧ ∀ x,x ∈ s'.kept → x ∈ s.kept ∨ x.at_=p
theorem SnapsBut.refl (p:Place) (st:St):SnapsBut p st st:=fun s hs=>⟨s,hs,rfl,rfl,fun _=>Or.inl⟩
theorem SnapsBut.trans {p:Place} {a b c:St} (h:SnapsBut p a b) (k:SnapsBut p b c):SnapsBut p a c:=fun s hs=>by
 obtain ⟨t,ht,e1,e2,e3⟩:=k s hs
 obtain ⟨u,hu,f1,f2,f3⟩:=h t ht
 exact ⟨u,hu,e1.trans f1,e2.trans f2,fun x hx=>(e3 x hx).elim (f3 x) Or.inr⟩
theorem entrust_but (st:St) (x:VName):SnapsBut x.at_ st (entrustSt st x):=by
 unfold entrustSt
 split
 ·rename_i m hm
  obtain ⟨a,s,b,e,rfl,-,-⟩:=keepAt_some hm
  intro t ht
  have ht':t ∈ a ++ keepFor x s :: b:=ht
  rw [List.mem_append,List.mem_cons] at ht'
  rcases ht' with c | c | c
  ·exact ⟨t,by rw [e]; simp [c],rfl,rfl,fun _=>Or.inl⟩
  ·subst c
   refine ⟨s,by rw [e]; simp,rfl,rfl,fun y hy=>?_⟩
   have hy':y ∈ s.kept ++ [x]:=hy
   rw [List.mem_append,List.mem_singleton] at hy'
   exact hy'.imp id (fun e=>by rw [e])
  ·exact ⟨t,by rw [e]; simp [c],rfl,rfl,fun _=>Or.inl⟩
 ·exact SnapsBut.refl _ _
theorem one_but (st:St) (p:Place) (seen:Vec) (by_ d:Dot):SnapsBut p st (retireOne p seen by_ st d):=by
 unfold retireOne
 split
 ·intro s hs
  have:=entrust_but _ (⟨p,d⟩:VName) s hs
  exact this
 ·exact SnapsBut.refl _ _
theorem steps_but (p:Place) (seen:Vec) (by_:Dot):∀ (l:List Dot) (st:St),SnapsBut p st (l.foldl (retireOne p seen by_) st)
 | [],_=>SnapsBut.refl _ _
 | a :: l,st=>(one_but st p seen by_ a).trans (steps_but p seen by_ l _)
theorem steps_other (p:Place) (seen:Vec) (by_:Dot) {y:VName} (h:y.at_ ≠ p):∀ (l:List Dot) (st:St),(l.foldl (retireOne p seen by_) st).vers y=st.vers y
 | [],_=>rfl
 | a :: l,st=>by rw [List.foldl_cons,steps_other p seen by_ h l]; exact one_other (fun e=>h (by rw [e]))
theorem steps_vis (p:Place) (seen:Vec) (by_:Dot):∀ (l:List Dot) (st:St),(l.foldl (retireOne p seen by_) st).vis=st.vis
 | [],_=>rfl
 | a :: l,st=>by rw [List.foldl_cons,steps_vis p seen by_ l,one_vis]
structure RInv (H:Hist) (p:Place) (N:Nat) (don:Dot → Bool) (st:St):Prop where
 b:∀ d v,st.vers ⟨p,d⟩=some v → ∃ j,j < N ∧ d=H.dot j ∧ H.isVer p j=true ∧ v=H.verOf p j (if don d then N + 1 else N)
 c:∀ j,j < N → H.isVer p j=true → (H.wentAt p j (if don (H.dot j) then N + 1 else N)=none ∨ ∃ s k,s ∈ st.snaps ∧ s.saw.covers (H.dot j)=true ∧ H.wentAt p j (if don (H.dot j) then N + 1 else N)=some k ∧ s.saw.covers (H.dot k)=false) → st.vers ⟨p,H.dot j⟩=some (H.verOf p j (if don (H.dot j) then N + 1 else N))
 e:∀ s,s ∈ st.snaps → ∀ d,(⟨p,d⟩:VName) ∈ s.kept → ∃ j,j < N ∧ d=H.dot j ∧ H.isVer p j=true ∧ (H.wentAt p j (if don d then N + 1 else N)).isSome
theorem RInv.start {H:Hist} {p:Place} {N:Nat} {st:St} (h:PInv H p N st):RInv H p N (fun _=>false) st:=by
 refine ⟨fun d v hd=>by simpa using h.b d v hd,fun j hj hi hc=>?_,fun s hs d hd=>by simpa using h.e s hs d hd⟩
 simpa using h.c j hj hi (by simpa using hc)
theorem RInv.fresh {H:Hist} {p:Place} {N:Nat} {don:Dot → Bool} {st:St} {d:Dot} (h:RInv H p N don st) (hO:H.Ok N) (hd:(st.vers ⟨p,d⟩).isSome) (hn:don d=false) (hs:(verAt st.vers ⟨p,d⟩).stands=true):∀ s,s ∈ st.snaps → (⟨p,d⟩:VName) ∉ s.kept:=fun s hs' hk=>by
 obtain ⟨v,hv⟩:=Option.isSome_iff_exists.1 hd
 obtain ⟨j,hj,rfl,hi,e⟩:=h.b d v hv
 rw [hn] at e
 simp only [Bool.false_eq_true,if_false] at e
 subst e
 have hva:verAt st.vers ⟨p,H.dot j⟩=H.verOf p j N:=by unfold verAt; rw [hv]; rfl
 rw [hva,Hist.stands_iff hO] at hs
 obtain ⟨i,hi1,hi2,-,hi3⟩:=h.e s hs' _ hk
 have:i=j:=hO.inj i j hi1 hj hi2.symm
 subst this
 rw [hn] at hi3
 simp only [Bool.false_eq_true,if_false,hs] at hi3
 cases hi3
theorem RInv.step {H:Hist} {p:Place} {N:Nat} {don:Dot → Bool} {st:St} {seen:Vec} {d:Dot} (h:RInv H p N don st) (hO:H.Ok (N + 1)) (hov:∀ j,j < N → H.over p N j=seen.covers (H.dot j)) (hd:(st.vers ⟨p,d⟩).isSome) (hn:don d=false) :
  RInv H p N (fun e=>don e || decide (e=d)) (retireOne p seen (H.dot N) st d):=by
 obtain ⟨v,hv⟩:=Option.isSome_iff_exists.1 hd
 obtain ⟨j,hj,rfl,hi,e⟩:=h.b d v hv
 rw [hn] at e
 simp only [Bool.false_eq_true,if_false] at e
 subst e
 have hO':=hO.less (Nat.le_succ N)
 have hdon:∀ i,i < N → H.dot i ≠ H.dot j → (don (H.dot i) || decide (H.dot i=H.dot j))=don (H.dot i):=fun i _ hne=>by simp [hne]
 have hva:verAt st.vers ⟨p,H.dot j⟩=H.verOf p j N:=by unfold verAt; rw [hv]; rfl
 unfold retireOne
 rw [hva]
 split
 ·rename_i hsc
  rw [Bool.and_eq_true,Hist.stands_iff hO',← hov j hj] at hsc
  have hw1:H.wentAt p j (N + 1)=some N:=by
   unfold Hist.wentAt; rw [hsc.1]; simp [hj,hsc.2]
  have hve:{ H.verOf p j N with went:=H.dot N }=H.verOf p j (N + 1):=by
   have:H.dot N=H.wentDot p j (N + 1):=by unfold Hist.wentDot; rw [hw1]
   rw [this]; exact Hist.verOf_set
  rw [hve]
  have hother:∀ i,i < N → i ≠ j → (entrustSt { st with vers:=setVer st.vers ⟨p,H.dot j⟩ (some (H.verOf p j (N + 1))) } ⟨p,H.dot j⟩).vers ⟨p,H.dot i⟩=st.vers ⟨p,H.dot i⟩:=fun i hi' hne=>by
   have:(⟨p,H.dot i⟩:VName) ≠ ⟨p,H.dot j⟩:=fun e=>hne (hO'.inj i j hi' hj (VName.mk.inj e).2)
   rw [entrust_other this]; exact setVer_other this
  have hbut:=entrust_but { st with vers:=setVer st.vers ⟨p,H.dot j⟩ (some (H.verOf p j (N + 1))) } ⟨p,H.dot j⟩
  have hR:∀ saw:Vec,readsB saw (setVer st.vers ⟨p,H.dot j⟩ (some (H.verOf p j (N + 1)))) ⟨p,H.dot j⟩=true ↔ saw.covers (H.dot j)=true ∧ saw.covers (H.dot N)=false:=fun saw=>by
   rw [Hist.reads_iff hO (setVer_same _ _ _),hw1]
   constructor
   ·rintro ⟨a,b | ⟨k,b,b'⟩⟩
    ·cases b
    ·cases b; exact ⟨a,b'⟩
   ·rintro ⟨a,b⟩
    exact ⟨a,Or.inr ⟨N,rfl,b⟩⟩
  generalize hst:entrustSt { st with vers:=setVer st.vers ⟨p,H.dot j⟩ (some (H.verOf p j (N + 1))) } ⟨p,H.dot j⟩=st2 at *
  have hself:st2.vers ⟨p,H.dot j⟩=some (H.verOf p j (N + 1)) ∨ (st2.vers ⟨p,H.dot j⟩=none ∧ ∀ s,s ∈ st.snaps → ¬ (s.saw.covers (H.dot j)=true ∧ s.saw.covers (H.dot N)=false)):=by
   rw [← hst]
   unfold entrustSt
   split
   ·exact Or.inl (setVer_same _ _ _)
   ·rename_i hk
    refine Or.inr ⟨setVer_same _ _ _,fun s hs c=>?_⟩
    have:=keepAt_none hk s hs
    rw [(hR s.saw).2 c] at this; cases this
  refine ⟨fun d' v' hd'=>?_,fun i hi1 hi2 hc=>?_,fun s hs d' hd'=>?_⟩
  ·by_cases c:d'=H.dot j
   ·subst c
    rcases hself with e | ⟨e,-⟩
    ·rw [e] at hd'; cases hd'
     exact ⟨j,hj,rfl,hi,by simp⟩
    ·rw [e] at hd'; cases hd'
   ·have:(⟨p,d'⟩:VName) ≠ ⟨p,H.dot j⟩:=fun e=>c (VName.mk.inj e).2
    have e2:st2.vers ⟨p,d'⟩=st.vers ⟨p,d'⟩:=by rw [← hst,entrust_other this]; exact setVer_other this
    rw [e2] at hd'
    obtain ⟨i,h1,h2,h3,h4⟩:=h.b d' v' hd'
    refine ⟨i,h1,h2,h3,?_⟩
    simpa [c] using h4
  ·by_cases c:i=j
   ·subst c
    simp only [decide_true,Bool.or_true,if_true] at hc ⊢
    rcases hself with e | ⟨e,hno⟩
    ·exact e
    ·rw [hw1] at hc
     rcases hc with hc | ⟨s,k,h1,h2,h3,h4⟩
     ·cases hc
     ·cases h3
      obtain ⟨s0,hs0,e1,-,-⟩:=hbut s h1
      exact absurd ⟨by rw [← e1]; exact h2,by rw [← e1]; exact h4⟩ (hno s0 hs0)
   ·have hne:H.dot i ≠ H.dot j:=fun e=>c (hO'.inj i j hi1 hj e)
    rw [hdon i hi1 hne] at hc ⊢
    rw [hother i hi1 c]
    refine h.c i hi1 hi2 (hc.imp id ?_)
    rintro ⟨s,k,h1,h2,h3,h4⟩
    obtain ⟨s0,hs0,e1,-,-⟩:=hbut s h1
    exact ⟨s0,k,hs0,by rw [← e1]; exact h2,h3,by rw [← e1]; exact h4⟩
  ·by_cases c:d'=H.dot j
   ·subst c; exact ⟨j,hj,rfl,hi,by simp [hw1]⟩
   ·simp only [c,decide_false,Bool.or_false]
    rw [← hst] at hs
    unfold entrustSt at hs
    split at hs
    ·rename_i m hm
     obtain ⟨a,s0,b,e,rfl,-,-⟩:=keepAt_some hm
     have e':st.snaps=a ++ s0 :: b:=e
     have hs':s ∈ a ++ keepFor ⟨p,H.dot j⟩ s0 :: b:=hs
     rw [List.mem_append,List.mem_cons] at hs'
     rcases hs' with q | q | q
     ·exact h.e s (by rw [e']; simp [q]) d' hd'
     ·subst q
      have hd2:(⟨p,d'⟩:VName) ∈ s0.kept ++ [⟨p,H.dot j⟩]:=hd'
      rw [List.mem_append,List.mem_singleton] at hd2
      rcases hd2 with q | q
      ·exact h.e s0 (by rw [e']; simp) d' q
      ·exact absurd (VName.mk.inj q).2 c
     ·exact h.e s (by rw [e']; simp [q]) d' hd'
    ·exact h.e s hs d' hd'
 ·rename_i hsc
  have hw:H.wentAt p j (N + 1)=H.wentAt p j N:=by
   cases e:H.wentAt p j N with
   | some k=>exact Hist.wentAt_keep e
   | none=>
    rw [Bool.and_eq_true,Hist.stands_iff hO',← hov j hj] at hsc
    unfold Hist.wentAt; rw [e]
    have:H.over p N j=false:=by
     cases c:H.over p N j
     ·rfl
     ·exact absurd ⟨e,c⟩ hsc
    simp [this]
  have hve:H.verOf p j (N + 1)=H.verOf p j N:=Hist.verOf_same hw
  refine ⟨fun d' v' hd'=>?_,fun i hi1 hi2 hc=>?_,fun s hs d' hd'=>?_⟩
  ·obtain ⟨i,h1,h2,h3,h4⟩:=h.b d' v' hd'
   refine ⟨i,h1,h2,h3,?_⟩
   by_cases c:d'=H.dot j
   ·subst c
    have:i=j:=(hO'.inj j i hj h1 h2).symm
    subst this
    rw [hn] at h4
    simp only [decide_true,Bool.or_true,if_true,hve]
    simpa using h4
   ·simpa [c] using h4
  ·by_cases c:i=j
   ·subst c
    simp only [decide_true,Bool.or_true,if_true,hve]
    exact hv
   ·have hne:H.dot i ≠ H.dot j:=fun e=>c (hO'.inj i j hi1 hj e)
    rw [hdon i hi1 hne] at hc ⊢
    exact h.c i hi1 hi2 hc
  ·obtain ⟨i,h1,h2,h3,h4⟩:=h.e s hs d' hd'
   refine ⟨i,h1,h2,h3,?_⟩
   by_cases c:d'=H.dot j
   ·subst c
    simp only [hn,Bool.false_eq_true,if_false] at h4
    obtain ⟨k,hk⟩:=Option.isSome_iff_exists.1 h4
    simp [Hist.wentAt_keep hk]
   ·simpa [c] using h4
end Go.Proofs.YtiplgdkpnhamaaaGreatDoor
namespace Go.Proofs.YtiplgdkpnhamaaaGreatDoor
open Go.RowKit
structure PRet (H:Hist) (p:Place) (N:Nat) (st:St):Prop where
 b:∀ d v,st.vers ⟨p,d⟩=some v → ∃ j,j < N ∧ d=H.dot j ∧ H.isVer p j=true ∧ v=H.verOf p j (N + 1)
 c:∀ j,j < N → H.isVer p j=true → (H.wentAt p j (N + 1)=none ∨ ∃ s k,s ∈ st.snaps ∧ s.saw.covers (H.dot j)=true ∧ H.wentAt p j (N + 1)=some k ∧ s.saw.covers (H.dot k)=false) → st.vers ⟨p,H.dot j⟩=some (H.verOf p j (N + 1))
 e:∀ s,s ∈ st.snaps → ∀ d,(⟨p,d⟩:VName) ∈ s.kept → ∃ j,j < N ∧ d=H.dot j ∧ H.isVer p j=true ∧ (H.wentAt p j (N + 1)).isSome
theorem steps_inv {H:Hist} {p:Place} {N:Nat} {seen:Vec} (hO:H.Ok (N + 1)) (hov:∀ j,j < N → H.over p N j=seen.covers (H.dot j)):∀ (l:List Dot) (don:Dot → Bool) (st:St),RInv H p N don st → l.Nodup → (∀ d,d ∈ l → (st.vers ⟨p,d⟩).isSome ∧ don d=false) →
  RInv H p N (fun e=>don e || decide (e ∈ l)) (l.foldl (retireOne p seen (H.dot N)) st)
 | [],don,st,h,_,_=>by simpa using h
 | a :: l,don,st,h,hn,hl=>by
  obtain ⟨ha,hn'⟩:=List.nodup_cons.1 hn
  have h1:=h.step hO hov (hl a (by simp)).1 (hl a (by simp)).2
  have h2:=steps_inv hO hov l _ _ h1 hn' (fun d hd=>by
   have hne:d ≠ a:=fun e=>ha (e ▸ hd)
   refine ⟨?_,by simp [hne,(hl d (by simp [hd])).2]⟩
   rw [one_other (fun e=>hne (VName.mk.inj e).2)]
   exact (hl d (by simp [hd])).1)
  have e:(fun e=>(don e || decide (e=a)) || decide (e ∈ l))=fun e=>don e || decide (e ∈ a :: l):=by
   funext e
   rw [Bool.or_assoc]
   congr 1
   rw [Bool.eq_iff_iff]; simp
  rw [e] at h2
  exact h2
theorem retire_inv {H:Hist} {p:Place} {N:Nat} {seen:Vec} {st:St} (hO:H.Ok (N + 1)) (hW:st.Wf) (hov:∀ j,j < N → H.over p N j=seen.covers (H.dot j)) (h:PInv H p N st):PRet H p N (retireSt st p seen (H.dot N)):=by
 have hsome:∀ d,d ∈ st.came p → (st.vers ⟨p,d⟩).isSome:=fun d hd=>(hW.here p d).1 hd
 have hR:=steps_inv hO hov (st.came p) (fun _=>false) st (RInv.start h) (hW.once p) (fun d hd=>⟨hsome d hd,rfl⟩)
 have hS:=(retire_steps hW p seen (hO.ok N (by omega)) (st.came p) (hW.once p) hsome).2
 have hB:=steps_but p seen (H.dot N) (st.came p) st
 unfold retireSt
 generalize (st.came p).foldl (retireOne p seen (H.dot N)) st=st2 at *
 have hin:∀ j,j < N → H.isVer p j=true → H.dot j ∉ st.came p → ∃ k,H.wentAt p j N=some k ∧ ∀ s,s ∈ st.snaps → ¬ (s.saw.covers (H.dot j)=true ∧ s.saw.covers (H.dot k)=false):=fun j hj hi hn=>by
  have hv:¬ (st.vers ⟨p,H.dot j⟩).isSome:=fun c=>hn ((hW.here p _).2 c)
  cases e:H.wentAt p j N with
  | none=>exact absurd (by rw [h.c j hj hi (Or.inl e)]; rfl) hv
  | some k=>
   refine ⟨k,rfl,fun s hs c=>hv ?_⟩
   rw [h.c j hj hi (Or.inr ⟨s,k,hs,c.1,e,c.2⟩)]; rfl
 refine ⟨fun d v hd=>?_,fun j hj hi hc=>?_,fun s hs d hd=>?_⟩
 ·have hm:d ∈ st.came p:=by
   by_cases c:d ∈ st.came p
   ·exact c
   ·rw [hS d c] at hd
    exact (hW.here p d).2 (by rw [hd]; rfl)
  obtain ⟨j,h1,h2,h3,h4⟩:=hR.b d v hd
  exact ⟨j,h1,h2,h3,by simpa [hm] using h4⟩
 ·by_cases c:H.dot j ∈ st.came p
  ·have:=hR.c j hj hi
   simp only [c,decide_true,Bool.or_true,if_true] at this
   exact this hc
  ·obtain ⟨k,hk,hno⟩:=hin j hj hi c
   rw [Hist.wentAt_keep hk] at hc
   rcases hc with hc | ⟨s,k',h1,h2,h3,h4⟩
   ·cases hc
   ·cases h3
    obtain ⟨s0,hs0,e1,-,-⟩:=hB s h1
    exact absurd ⟨by rw [← e1]; exact h2,by rw [← e1]; exact h4⟩ (hno s0 hs0)
 ·obtain ⟨j,h1,h2,h3,h4⟩:=hR.e s hs d hd
  refine ⟨j,h1,h2,h3,?_⟩
  split at h4
  ·exact h4
  ·obtain ⟨k,hk⟩:=Option.isSome_iff_exists.1 h4
   rw [Hist.wentAt_keep hk]; rfl
theorem PRet.none {H:Hist} {p:Place} {N:Nat} {st:St} (h:PRet H p N st) (hi:H.isVer p N=false):PInv H p (N + 1) st:=by
 refine ⟨fun d v hd=>?_,fun j hj hj2 hc=>?_,fun s hs d hd=>?_⟩
 ·obtain ⟨j,a,b⟩:=h.b d v hd; exact ⟨j,by omega,b⟩
 ·refine h.c j ?_ hj2 hc
  rcases Nat.lt_or_ge j N with c | c
  ·exact c
  ·have:j=N:=by omega
   subst this; rw [hi] at hj2; cases hj2
 ·obtain ⟨j,a,b⟩:=h.e s hs d hd; exact ⟨j,by omega,b⟩
theorem PRet.put {H:Hist} {p:Place} {N:Nat} {st:St} (h:PRet H p N st) (hO:H.Ok (N + 1)) (hi:H.isVer p N=true) {v:Ver} (hv:v=H.verOf p N (N + 1)):PInv H p (N + 1) (putSt st ⟨p,H.dot N⟩ v):=by
 subst hv
 have hne:∀ j,j < N → (⟨p,H.dot j⟩:VName) ≠ ⟨p,H.dot N⟩:=fun j hj e=>by
  have:=hO.inj j N (by omega) (by omega) (VName.mk.inj e).2; omega
 refine ⟨fun d v hd=>?_,fun j hj hj2 hc=>?_,fun s hs d hd=>?_⟩
 ·have hd':setVer st.vers ⟨p,H.dot N⟩ (some (H.verOf p N (N + 1))) ⟨p,d⟩=some v:=hd
  by_cases c:d=H.dot N
  ·subst c; rw [setVer_same] at hd'; cases hd'
   exact ⟨N,by omega,rfl,hi,rfl⟩
  ·rw [setVer_other (fun e=>c (VName.mk.inj e).2)] at hd'
   obtain ⟨j,a,b⟩:=h.b d v hd'; exact ⟨j,by omega,b⟩
 ·show setVer st.vers ⟨p,H.dot N⟩ (some (H.verOf p N (N + 1))) ⟨p,H.dot j⟩=_
  rcases Nat.lt_or_ge j N with c | c
  ·rw [setVer_other (hne j c)]; exact h.c j c hj2 hc
  ·have:j=N:=by omega
   subst this; rw [setVer_same]
 ·obtain ⟨j,a,b⟩:=h.e s hs d hd; exact ⟨j,by omega,b⟩
theorem wrap_small (a b:Int):wrap64 (wrap64 a + b)=wrap64 (a + b):=by unfold wrap64; omega
theorem Hist.total_wrap (H:Hist) (p:Place):∀ j,wrap64 (H.total p j)=H.total p j
 | 0=>by simp [Hist.total,wrap64]
 | j + 1=>by
  have:=wrap_small (H.total p j + amt (H.wr j p)) 0
  simpa [Hist.total] using this
theorem Hist.total_still {H:Hist} {p:Place} {j:Nat}:∀ m,(∀ k,j ≤ k → k < j + m → H.wr k p=none) → H.total p (j + m)=H.total p j
 | 0,_=>rfl
 | m + 1,h=>by
  have e:=Hist.total_still m (fun k a b=>h k a (by omega))
  show wrap64 (H.total p (j + m) + amt (H.wr (j + m) p))=_
  rw [h (j + m) (by omega) (by omega),e]
  have:=H.total_wrap p j
  simpa [amt] using this
theorem Hist.last_writer (H:Hist) (p:Place):∀ N,(∀ k,k < N → H.wr k p=none) ∨ ∃ j,j < N ∧ (H.wr j p).isSome ∧ ∀ k,j < k → k < N → H.wr k p=none
 | 0=>Or.inl fun k hk=>by omega
 | N + 1=>by
  cases e:H.wr N p with
  | some x=>exact Or.inr ⟨N,by omega,by rw [e]; rfl,fun k a b=>by omega⟩
  | none=>
   rcases Hist.last_writer H p N with h | ⟨j,a,b,c⟩
   ·exact Or.inl fun k hk=>by
     by_cases q:k=N
     ·subst q; exact e
     ·exact h k (by omega)
   ·exact Or.inr ⟨j,by omega,b,fun k h1 h2=>by
     by_cases q:k=N
     ·subst q; exact e
     ·exact c k h1 (by omega)⟩
theorem standing_total {H:Hist} {p:Place} {N:Nat} {st:St} (hO:H.Ok N) (hW:st.Wf) (h:PInv H p N st) (hk:∀ j x,j < N → H.wr j p=some x → x.kind=0):standingOf st p=H.total p N:=by
 have hfree:∀ j,j < N → H.wentAt p j N=none → ∀ k,j < k → k < N → H.wr k p=none:=fun j _ hw k h1 h2=>by
  have:=Hist.wentAt_none hw k h1 h2
  unfold Hist.over at this
  split at this
  ·assumption
  ·rename_i x hx
   rw [hk k x h2 hx] at this; simp at this
 unfold standingOf
 split
 ·rename_i d hd
  have hm:=List.mem_of_find?_eq_some hd
  have hst:=List.find?_some hd
  obtain ⟨v,hv⟩:=Option.isSome_iff_exists.1 ((hW.here p d).1 hm)
  obtain ⟨j,hj,rfl,hi,rfl⟩:=h.b d v hv
  have hva:verAt st.vers ⟨p,H.dot j⟩=H.verOf p j N:=by unfold verAt; rw [hv]; rfl
  rw [hva] at hst ⊢
  rw [Hist.stands_iff hO] at hst
  have e2:=Hist.total_still (H:=H) (p:=p) (j:=j + 1) (N - (j + 1)) (fun k a b=>hfree j hj hst k (by omega) (by omega))
  rw [show j + 1 + (N - (j + 1))=N by omega] at e2
  rw [e2]
  unfold Hist.isVer at hi
  unfold Hist.verOf
  split
  ·rename_i hx; rw [hx] at hi; simp at hi
  ·rename_i x hx
   rw [if_pos (hk j x hj hx)]
 ·rename_i hnone
  rw [List.find?_eq_none] at hnone
  rcases H.last_writer p N with c | ⟨j,hj,hw,hl⟩
  ·have:=Hist.total_still (H:=H) (p:=p) (j:=0) N (fun k _ b=>c k (by omega))
   rw [Nat.zero_add] at this
   rw [this]; rfl
  ·obtain ⟨x,hx⟩:=Option.isSome_iff_exists.1 hw
   have hwn:H.wentAt p j N=none:=Hist.wentAt_free fun k a b=>by unfold Hist.over; rw [hl k a b]
   have e2:=Hist.total_still (H:=H) (p:=p) (j:=j + 1) (N - (j + 1)) (fun k a b=>hl k (by omega) (by omega))
   rw [show j + 1 + (N - (j + 1))=N by omega] at e2
   rw [e2]
   cases hi:H.isVer p j with
   | true=>
    have hv:=h.c j hj hi (Or.inl hwn)
    have hm:H.dot j ∈ st.came p:=(hW.here p _).2 (by rw [hv]; rfl)
    have:=hnone _ hm
    have hva:verAt st.vers ⟨p,H.dot j⟩=H.verOf p j N:=by unfold verAt; rw [hv]; rfl
    rw [hva,Hist.stands_iff hO] at this
    exact absurd hwn this
   | false=>
    unfold Hist.isVer at hi
    rw [hx] at hi
    simp only [hk j x hj hx,if_true] at hi
    simp at hi
    exact hi.symm
end Go.Proofs.YtiplgdkpnhamaaaGreatDoor
namespace Go.Proofs.YtiplgdkpnhamaaaGreatDoor
open Go.RowKit
def KNod (st:St):Prop:=(st.snaps.flatMap Snap.kept).Nodup
theorem KNod.entrust {st:St} {x:VName} (h:KNod st) (hx:∀ s,s ∈ st.snaps → x ∉ s.kept):KNod (entrustSt st x):=by
 unfold entrustSt
 split
 ·rename_i m hm
  obtain ⟨a,s,b,e,rfl,-,-⟩:=keepAt_some hm
  unfold KNod at h ⊢
  rw [e] at h hx
  have hp:((a ++ keepFor x s :: b).flatMap Snap.kept).Perm (x :: (a ++ s :: b).flatMap Snap.kept):=by
   simp only [List.flatMap_append,List.flatMap_cons,keepFor]
   have h1:(a.flatMap Snap.kept ++ (s.kept ++ [x] ++ b.flatMap Snap.kept))=(a.flatMap Snap.kept ++ s.kept) ++ x :: b.flatMap Snap.kept:=by simp
   have h2:(a.flatMap Snap.kept ++ (s.kept ++ b.flatMap Snap.kept))=(a.flatMap Snap.kept ++ s.kept) ++ b.flatMap Snap.kept:=by simp
   rw [h1,h2]
   exact List.perm_middle
  show ((a ++ keepFor x s :: b).flatMap Snap.kept).Nodup
  rw [hp.nodup_iff,List.nodup_cons]
  refine ⟨fun c=>?_,h⟩
  obtain ⟨t,ht,hc⟩:=List.mem_flatMap.1 c
  exact hx t ht hc
 ·exact h
theorem KNod.one {H:Hist} {p:Place} {N:Nat} {don:Dot → Bool} {st:St} {seen:Vec} {d:Dot} (hK:KNod st) (h:RInv H p N don st) (hO:H.Ok (N + 1)) (hd:(st.vers ⟨p,d⟩).isSome) (hn:don d=false):KNod (retireOne p seen (H.dot N) st d):=by
 unfold retireOne
 split
 ·rename_i c
  rw [Bool.and_eq_true] at c
  refine KNod.entrust ?_ ?_
  ·exact hK
  ·exact h.fresh (hO.less (Nat.le_succ N)) hd hn c.1
 ·exact hK
theorem KNod.steps {H:Hist} {p:Place} {N:Nat} {seen:Vec} (hO:H.Ok (N + 1)) (hov:∀ j,j < N → H.over p N j=seen.covers (H.dot j)):∀ (l:List Dot) (don:Dot → Bool) (st:St),RInv H p N don st → KNod st → l.Nodup → (∀ d,d ∈ l → (st.vers ⟨p,d⟩).isSome ∧ don d=false) → KNod (l.foldl (retireOne p seen (H.dot N)) st)
 | [],_,_,_,hK,_,_=>hK
 | a :: l,don,st,h,hK,hn,hl=>by
  obtain ⟨ha,hn'⟩:=List.nodup_cons.1 hn
  have h1:=h.step hO hov (hl a (by simp)).1 (hl a (by simp)).2
  refine KNod.steps hO hov l _ _ h1 (hK.one h hO (hl a (by simp)).1 (hl a (by simp)).2) hn' (fun d hd=>?_)
  have hne:d ≠ a:=fun e=>ha (e ▸ hd)
  refine ⟨?_,by simp [hne,(hl d (by simp [hd])).2]⟩
  rw [one_other (fun e=>hne (VName.mk.inj e).2)]
  exact (hl d (by simp [hd])).1
def EInv (isSet:Place → Prop) (st:St):Prop:=∀ q,isSet q → st.came q ≠ [] → st.els q.key q.el=true
theorem setEls_other {els:ByteArray → ByteArray → Bool} {p q:Place} {b:Bool} (h:q ≠ p):setEls els p b q.key q.el=els q.key q.el:=by
 unfold setEls
 rw [if_neg]
 rintro ⟨a,c⟩
 exact h (by cases q; cases p; simp_all)
theorem setEls_same {els:ByteArray → ByteArray → Bool} {p:Place} {b:Bool}:setEls els p b p.key p.el=b:=by simp [setEls]
theorem EInv.drop {isSet:Place → Prop} {st:St} (h:EInv isSet st) (x:VName):EInv isSet (dropSt st x):=fun q hq hc=>by
 have hc':setCame st.came x.at_ (leftOf' (st.came x.at_) x.dot) q ≠ []:=hc
 show (if leftOf' (st.came x.at_) x.dot=[] then setEls st.els x.at_ false else st.els) q.key q.el=true
 by_cases c:q=x.at_
 ·subst c
  rw [setCame_same] at hc'
  rw [if_neg hc']
  refine h _ hq fun e=>hc' ?_
  rw [e]; rfl
 ·rw [setCame_other c] at hc'
  split
  ·rw [setEls_other c]; exact h q hq hc'
  ·exact h q hq hc'
theorem EInv.entrust {isSet:Place → Prop} {st:St} (h:EInv isSet st) (x:VName):EInv isSet (entrustSt st x):=by
 unfold entrustSt
 split
 ·exact h
 ·exact h.drop x
theorem EInv.steps {isSet:Place → Prop} (p:Place) (seen:Vec) (by_:Dot):∀ (l:List Dot) (st:St),EInv isSet st → EInv isSet (l.foldl (retireOne p seen by_) st)
 | [],_,h=>h
 | a :: l,st,h=>by
  refine EInv.steps p seen by_ l _ ?_
  unfold retireOne
  split
  ·refine EInv.entrust ?_ _
   exact h
  ·exact h
theorem EInv.putOff {isSet:Place → Prop} {st:St} (h:EInv isSet st) {x:VName} (v:Ver) (hx:¬ isSet x.at_):EInv isSet (putSt st x v):=fun q hq hc=>by
 have hc':setCame st.came x.at_ (st.came x.at_ ++ [x.dot]) q ≠ []:=hc
 by_cases c:q=x.at_
 ·subst c; exact absurd hq hx
 ·rw [setCame_other c] at hc'; exact h q hq hc'
theorem EInv.putOn {isSet:Place → Prop} {st:St} (h:EInv isSet st) {x:VName} (v:Ver):EInv isSet (listSt (putSt st x v) x.at_):=fun q hq hc=>by
 have hc':setCame st.came x.at_ (st.came x.at_ ++ [x.dot]) q ≠ []:=hc
 show setEls st.els x.at_ true q.key q.el=true
 by_cases c:q=x.at_
 ·subst c; exact setEls_same
 ·rw [setCame_other c] at hc'; rw [setEls_other c]; exact h q hq hc'
structure MInv (H:Hist) (isSet:Place → Prop) (N:Nat) (left:Place → Bool) (st0 st:St):Prop where
 wf:st.Wf
 pl:∀ p,PInv H p (if left p then N else N + 1) st
 els:EInv isSet st
 kn:KNod st
 vis:st.vis=st0.vis
 snaps:∀ s',s' ∈ st.snaps → ∃ s,s ∈ st0.snaps ∧ s'.saw=s.saw ∧ s'.blk=s.blk
 blks:st.snaps.map Snap.blk=st0.snaps.map Snap.blk
theorem steps_blks (p:Place) (seen:Vec) (by_:Dot):∀ (l:List Dot) (st:St),(l.foldl (retireOne p seen by_) st).snaps.map Snap.blk=st.snaps.map Snap.blk
 | [],_=>rfl
 | a :: l,st=>by
  rw [List.foldl_cons,steps_blks p seen by_ l]
  unfold retireOne
  split
  ·rw [entrust_snaps]
  ·rfl
structure WrOk (H:Hist) (isSet:Place → Prop) (N:Nat) (saw vis:Vec):Prop where
 ok:H.Ok (N + 1)
 kinds:∀ p x,H.wr N p=some x → x.kind=0 ∨ x.kind=1 ∨ x.kind=2 ∨ x.kind=3
 sets:∀ p x,H.wr N p=some x → (isSet p ↔ (x.kind=2 ∨ x.kind=3))
 cnts:∀ p x,H.wr N p=some x → x.kind=0 → ∀ j y,j < N → H.wr j p=some y → y.kind=0
 vis:∀ j,j < N → vis.covers (H.dot j)=true
 saw:∀ j,j < N → H.sees N j=saw.covers (H.dot j)
 place:∀ p,(H.wr N p).isSome → p.Ok
theorem Hist.wentAt_self (H:Hist) (p:Place) (j:Nat):H.wentAt p j (j + 1)=none:=by
 cases e:H.wentAt p j (j + 1) with
 | none=>rfl
 | some k=>have:=Hist.wentAt_lt e; omega
theorem write_inv {H:Hist} {isSet:Place → Prop} {N:Nat} {left:Place → Bool} {st0 st:St} {saw:Vec} {p:Place} {x:Wr} (h:MInv H isSet N left st0 st) (hW:WrOk H isSet N saw st0.vis) (hx:H.wr N p=some x) (hl:left p=true) :
  MInv H isSet N (fun q=>left q && !decide (q=p)) st0 (writeSt saw (H.dot N) st p x):=by
 have hO:=hW.ok
 have hp:=h.pl p
 rw [hl] at hp
 simp only [if_true] at hp
 have hxO:(⟨p,H.dot N⟩:VName).Ok:=⟨hW.place p (by rw [hx]; rfl),hO.ok N (by omega)⟩
 have hsome:∀ d,d ∈ st.came p → (st.vers ⟨p,d⟩).isSome:=fun d hd=>(h.wf.here p d).1 hd
 -- whatever is seen
 have gen:∀ seen:Vec,(∀ j,j < N → H.over p N j=seen.covers (H.dot j)) → ∀ st1,st1=retireSt st p seen (H.dot N) →
   st1.Wf ∧ PRet H p N st1 ∧ EInv isSet st1 ∧ KNod st1 ∧ st1.vis=st0.vis ∧ (∀ s',s' ∈ st1.snaps → ∃ s,s ∈ st0.snaps ∧ s'.saw=s.saw ∧ s'.blk=s.blk) ∧ st1.snaps.map Snap.blk=st0.snaps.map Snap.blk ∧ (∀ q,q ≠ p → PInv H q (if left q then N else N + 1) st1) ∧ st1.vers ⟨p,H.dot N⟩=none:=fun seen hov st1 e=>by
  have hR:=retire_inv hO h.wf hov hp
  have hWf:=h.wf.retire p seen (hO.ok N (by omega))
  have hbut:SnapsBut p st (retireSt st p seen (H.dot N)):=steps_but p seen (H.dot N) (st.came p) st
  have hoth:∀ y:VName,y.at_ ≠ p → (retireSt st p seen (H.dot N)).vers y=st.vers y:=fun y hy=>steps_other p seen (H.dot N) hy (st.came p) st
  have hE:EInv isSet (retireSt st p seen (H.dot N)):=EInv.steps p seen (H.dot N) (st.came p) st h.els
  have hK:KNod (retireSt st p seen (H.dot N)):=KNod.steps hO hov (st.came p) (fun _=>false) st (RInv.start hp) h.kn (h.wf.once p) (fun d hd=>⟨hsome d hd,rfl⟩)
  have hV:(retireSt st p seen (H.dot N)).vis=st.vis:=steps_vis p seen (H.dot N) (st.came p) st
  have hBl:(retireSt st p seen (H.dot N)).snaps.map Snap.blk=st.snaps.map Snap.blk:=steps_blks p seen (H.dot N) (st.came p) st
  subst e
  refine ⟨hWf,hR,hE,hK,hV.trans h.vis,fun s' hs'=>?_,hBl.trans h.blks,fun q hq=>(h.pl q).other (fun d=>hoth ⟨q,d⟩ hq) (fun s' hs'=>?_),?_⟩
  ·obtain ⟨s,a,b,c,-⟩:=hbut s' hs'
   obtain ⟨s0,a0,b0,c0⟩:=h.snaps s a
   exact ⟨s0,a0,b.trans b0,c.trans c0⟩
  ·obtain ⟨s,a,b,-,c⟩:=hbut s' hs'
   exact ⟨s,a,b,fun d hd=>(c _ hd).elim id (fun e=>absurd e hq)⟩
  ·cases e:(retireSt st p seen (H.dot N)).vers ⟨p,H.dot N⟩ with
   | none=>rfl
   | some v=>
    obtain ⟨j,a,b,-⟩:=hR.b _ _ e
    have:=hO.inj N j (by omega) (by omega) b
    omega
 have hleft:∀ q,(if (left q && !decide (q=p)) then N else N + 1)=if q=p then N + 1 else if left q then N else N + 1:=fun q=>by
  by_cases c:q=p <;> simp [c]
 -- one that leaves no version,one that leaves one
 have fin0:∀ seen:Vec,(∀ j,j < N → H.over p N j=seen.covers (H.dot j)) → H.isVer p N=false → MInv H isSet N (fun q=>left q && !decide (q=p)) st0 (retireSt st p seen (H.dot N)):=fun seen hov hi=>by
  obtain ⟨g1,g2,g3,g4,g5,g6,g7,g8,g9⟩:=gen seen hov _ rfl
  refine ⟨g1,fun q=>?_,g3,g4,g5,g6,g7⟩
  show PInv H q (if (left q && !decide (q=p)) then N else N + 1) _
  rw [hleft]
  split
  ·rename_i c; subst c; exact g2.none hi
  ·rename_i c; exact g8 q c
 have fin1:∀ (seen:Vec) (v:Ver) (onB:Bool),(∀ j,j < N → H.over p N j=seen.covers (H.dot j)) → H.isVer p N=true → v=H.verOf p N (N + 1) → v.went.Ok → (onB=false → ¬ isSet p) →
   MInv H isSet N (fun q=>left q && !decide (q=p)) st0 (if onB then listSt (putSt (retireSt st p seen (H.dot N)) ⟨p,H.dot N⟩ v) p else putSt (retireSt st p seen (H.dot N)) ⟨p,H.dot N⟩ v):=fun seen v onB hov hi hv hvo hon=>by
  obtain ⟨g1,g2,g3,g4,g5,g6,g7,g8,g9⟩:=gen seen hov _ rfl
  have w1:=g1.put hxO hvo g9
  have base:∀ st2:St,st2.vers=(putSt (retireSt st p seen (H.dot N)) ⟨p,H.dot N⟩ v).vers → st2.snaps=(retireSt st p seen (H.dot N)).snaps → st2.vis=(retireSt st p seen (H.dot N)).vis → st2.Wf → EInv isSet st2 → MInv H isSet N (fun q=>left q && !decide (q=p)) st0 st2:=fun st2 e1 e2 e3 hw he=>by
   refine ⟨hw,fun q=>?_,he,by unfold KNod; rw [e2]; exact g4,by rw [e3]; exact g5,by rw [e2]; exact g6,by rw [e2]; exact g7⟩
   show PInv H q (if (left q && !decide (q=p)) then N else N + 1) _
   rw [hleft]
   split
   ·rename_i c
    subst c
    exact (g2.put hO hi hv).other (fun d=>by rw [e1]) (fun s hs=>⟨s,by rw [e2] at hs; exact hs,rfl,fun d hd=>hd⟩)
   ·rename_i c
    refine (g8 q c).other (fun d=>?_) (fun s hs=>⟨s,by rw [e2] at hs; exact hs,rfl,fun d hd=>hd⟩)
    rw [e1]
    exact setVer_other (fun e=>c (VName.mk.inj e).1)
  cases onB with
  | true=>exact base _ rfl rfl rfl (w1.list p) (g3.putOn (x:=⟨p,H.dot N⟩) v)
  | false=>exact base _ rfl rfl rfl w1 (g3.putOff v (hon rfl))
 have hself:=H.wentAt_self p N
 have hwd:H.wentDot p N (N + 1)=⟨0,0⟩:=by unfold Hist.wentDot; rw [hself]
 unfold writeSt
 have hov0:x.kind ≠ 0 → ∀ j,j < N → H.over p N j=saw.covers (H.dot j):=fun c j hj=>by
  unfold Hist.over; rw [hx,← hW.saw j hj]; simp [c]
 by_cases k0:x.kind=0
 ·rw [if_pos k0]
  have hov:∀ j,j < N → H.over p N j=st.vis.covers (H.dot j):=fun j hj=>by
   unfold Hist.over; rw [hx,h.vis,hW.vis j hj]; simp [k0]
  have hst:=standing_total (hO.less (Nat.le_succ N)) h.wf hp (hW.cnts p x hx k0)
  have hsum:wrap64 (standingOf st p + x.amount)=H.total p (N + 1):=by
   rw [hst]; show _=wrap64 (H.total p N + amt (H.wr N p)); rw [hx]; simp [amt,k0]
  unfold addSt
  simp only [hsum]
  have hiv:H.isVer p N=!decide (H.total p (N + 1)=0):=by unfold Hist.isVer; rw [hx]; simp [k0]
  split
  ·rename_i c
   exact fin0 st.vis hov (by rw [hiv]; simp [c])
  ·rename_i c
   refine fin1 st.vis ⟨⟨0,0⟩,H.total p (N + 1),⟨#[]⟩⟩ false hov (by rw [hiv]; simp [c]) ?_ noDot_ok (fun _=>?_)
   ·unfold Hist.verOf; rw [hx]; simp [k0,hwd]
   ·rw [hW.sets p x hx]; omega
 ·rw [if_neg k0]
  by_cases k1:x.kind=1
  ·rw [if_pos k1]
   refine fin1 saw ⟨⟨0,0⟩,0,x.value⟩ false (hov0 k0) (by unfold Hist.isVer; rw [hx]; simp [k1]) ?_ noDot_ok (fun _=>?_)
   ·unfold Hist.verOf; rw [hx]; simp [k1,hwd]
   ·rw [hW.sets p x hx]; omega
  ·rw [if_neg k1]
   by_cases k2:x.kind=2
   ·rw [if_pos k2]
    refine fin1 saw noVer true (hov0 k0) (by unfold Hist.isVer; rw [hx]; simp [k2]) ?_ noDot_ok (fun c=>by cases c)
    unfold Hist.verOf; rw [hx]; simp [k2,hwd,noVer]
   ·rw [if_neg k2]
    have k3:x.kind=3:=by have:=hW.kinds p x hx; omega
    rw [if_pos k3]
    exact fin0 saw (hov0 k0) (by unfold Hist.isVer; rw [hx]; simp [k3])
end Go.Proofs.YtiplgdkpnhamaaaGreatDoor
namespace Go.Proofs.YtiplgdkpnhamaaaGreatDoor
open Go.RowKit
structure GInv (H:Hist) (isSet:Place → Prop) (N:Nat) (st:St):Prop where
 wf:st.Wf
 pl:∀ p,PInv H p N st
 els:EInv isSet st
 kn:KNod st
 vis:∀ j,j < N → st.vis.covers (H.dot j)=true
 snaps:∀ s,s ∈ st.snaps → ∃ T,T ≤ N ∧ H.at s.saw T N
theorem GInv.begin_ {H:Hist} {isSet:Place → Prop} {N:Nat} {st:St} (h:GInv H isSet N st):MInv H isSet N (fun p=>(H.wr N p).isSome) st st:=by
 refine ⟨h.wf,fun p=>?_,h.els,h.kn,rfl,fun s hs=>⟨s,hs,rfl,rfl⟩,rfl⟩
 split
 ·exact h.pl p
 ·rename_i c
  exact (h.pl p).dead (by simpa using c)
theorem MInv.end_ {H:Hist} {isSet:Place → Prop} {N:Nat} {left:Place → Bool} {st0 st:St} (h:MInv H isSet N left st0 st) (h0:GInv H isSet N st0) (hl:∀ p,left p=false) (hs:∀ s,s ∈ st0.snaps → s.saw.covers (H.dot N)=false) {v:Vec} (hv:∀ j,j < N + 1 → v.covers (H.dot j)=true):GInv H isSet (N + 1) { st with vis:=v }:=by
 refine ⟨⟨h.wf.here,h.wf.once,h.wf.ok,h.wf.went,h.wf.kept,h.wf.blks⟩,fun p=>?_,h.els,h.kn,hv,fun s' hs'=>?_⟩
 ·have:=h.pl p
  rw [hl p] at this
  exact this.other (fun _=>rfl) (fun s hs=>⟨s,hs,rfl,fun _=>id⟩)
 ·obtain ⟨s,a,b,-⟩:=h.snaps s' hs'
  obtain ⟨T,hT,hat⟩:=h0.snaps s a
  refine ⟨T,by omega,fun j hj=>?_⟩
  rw [b]
  rcases Nat.lt_or_ge j N with c | c
  ·exact hat j c
  ·have:j=N:=by omega
   subst this
   rw [hs s a]; simp; omega
def openSt (st:St) (b:Nat):St:={ st with snaps:=st.snaps ++ [⟨b,st.vis,[]⟩] }
theorem GInv.open_ {H:Hist} {isSet:Place → Prop} {N:Nat} {st:St} (h:GInv H isSet N st) {b:Nat} (hb:b ∉ st.snaps.map Snap.blk):GInv H isSet N (openSt st b):=by
 have hmem:∀ s,s ∈ (openSt st b).snaps → s ∈ st.snaps ∨ s=⟨b,st.vis,[]⟩:=fun s hs=>by
  have hs':s ∈ st.snaps ++ [⟨b,st.vis,[]⟩]:=hs
  simpa using hs'
 refine ⟨⟨h.wf.here,h.wf.once,h.wf.ok,h.wf.went,fun s hs x hx=>?_,?_⟩,fun p=>⟨(h.pl p).b,fun j hj hi hc=>?_,fun s hs d hd=>?_⟩,h.els,?_,h.vis,fun s hs=>?_⟩
 ·rcases hmem s hs with c | rfl
  ·exact h.wf.kept s c x hx
  ·simp at hx
 ·show ((st.snaps ++ [(⟨b,st.vis,[]⟩:Snap)]).map Snap.blk).Nodup
  rw [List.map_append,List.nodup_append]
  exact ⟨h.wf.blks,by simp,fun a ha c hc e=>hb (by simp at hc; rw [← hc,← e]; exact ha)⟩
 ·refine (h.pl p).c j hj hi (hc.imp id ?_)
  rintro ⟨s,k,h1,h2,h3,h4⟩
  rcases hmem s h1 with c | rfl
  ·exact ⟨s,k,c,h2,h3,h4⟩
  ·have:=h.vis k (Hist.wentAt_lt h3).2.1
   rw [h4] at this; cases this
 ·rcases hmem s hs with c | rfl
  ·exact (h.pl p).e s c d hd
  ·simp at hd
 ·show ((st.snaps ++ [(⟨b,st.vis,[]⟩:Snap)]).flatMap Snap.kept).Nodup
  rw [List.flatMap_append]
  have:=h.kn
  unfold KNod at this
  simpa using this
 ·rcases hmem s hs with c | rfl
  ·exact h.snaps s c
  ·exact ⟨N,Nat.le_refl _,fun j hj=>by rw [h.vis j hj]; simp [hj]⟩
theorem PInv.entrust {H:Hist} {p:Place} {N j:Nat} {st:St} (h:PInv H p N st) (hO:H.Ok N) (hj:j < N) (hi:H.isVer p j=true) (hw:(H.wentAt p j N).isSome):PInv H p N (entrustSt st ⟨p,H.dot j⟩):=by
 have hbut:=entrust_but st ⟨p,H.dot j⟩
 have hself:(entrustSt st ⟨p,H.dot j⟩).vers ⟨p,H.dot j⟩=st.vers ⟨p,H.dot j⟩ ∨ ((entrustSt st ⟨p,H.dot j⟩).vers ⟨p,H.dot j⟩=none ∧ ∀ s,s ∈ st.snaps → readsB s.saw st.vers ⟨p,H.dot j⟩=false):=by
  unfold entrustSt
  split
  ·exact Or.inl rfl
  ·rename_i c
   exact Or.inr ⟨setVer_same _ _ _,fun s hs=>keepAt_none c s hs⟩
 have hoth:∀ d,d ≠ H.dot j → (entrustSt st ⟨p,H.dot j⟩).vers ⟨p,d⟩=st.vers ⟨p,d⟩:=fun d hd=>entrust_other (fun e=>hd (VName.mk.inj e).2)
 refine ⟨fun d v hd=>?_,fun i hi1 hi2 hc=>?_,fun s hs d hd=>?_⟩
 ·by_cases c:d=H.dot j
  ·subst c
   rcases hself with e | ⟨e,-⟩
   ·rw [e] at hd; exact h.b _ _ hd
   ·rw [e] at hd; cases hd
  ·rw [hoth d c] at hd; exact h.b _ _ hd
 ·have hold:st.vers ⟨p,H.dot i⟩=some (H.verOf p i N):=by
   refine h.c i hi1 hi2 (hc.imp id ?_)
   rintro ⟨s,k,h1,h2,h3,h4⟩
   obtain ⟨s0,a,b,-⟩:=hbut s h1
   exact ⟨s0,k,a,by rw [← b]; exact h2,h3,by rw [← b]; exact h4⟩
  by_cases c:i=j
  ·subst c
   rcases hself with e | ⟨e,hno⟩
   ·rw [e]; exact hold
   ·rcases hc with hc | ⟨s,k,h1,h2,h3,h4⟩
    ·rw [hc] at hw; cases hw
    ·obtain ⟨s0,a,b,-⟩:=hbut s h1
     have:=hno s0 a
     rw [(Hist.reads_iff hO hold).2 ⟨by rw [← b]; exact h2,Or.inr ⟨k,h3,by rw [← b]; exact h4⟩⟩] at this
     cases this
  ·rw [hoth _ (fun e=>c (hO.inj i j hi1 hj e))]; exact hold
 ·by_cases c:d=H.dot j
  ·subst c; exact ⟨j,hj,rfl,hi,hw⟩
  ·have hs2:=hs
   unfold entrustSt at hs2
   split at hs2
   ·rename_i m hm
    obtain ⟨a,s0,b,e,rfl,-,-⟩:=keepAt_some hm
    have hs':s ∈ a ++ keepFor ⟨p,H.dot j⟩ s0 :: b:=hs2
    rw [List.mem_append,List.mem_cons] at hs'
    rcases hs' with q | q | q
    ·exact h.e s (by rw [e]; simp [q]) d hd
    ·subst q
     have hd2:(⟨p,d⟩:VName) ∈ s0.kept ++ [⟨p,H.dot j⟩]:=hd
     rw [List.mem_append,List.mem_singleton] at hd2
     rcases hd2 with q | q
     ·exact h.e s0 (by rw [e]; simp) d q
     ·exact absurd (VName.mk.inj q).2 c
    ·exact h.e s (by rw [e]; simp [q]) d hd
   ·exact h.e s hs2 d hd
structure GoneAt (H:Hist) (N:Nat) (x:VName):Prop where
 ex:∃ j,j < N ∧ x.dot=H.dot j ∧ H.isVer x.at_ j=true ∧ (H.wentAt x.at_ j N).isSome
theorem GInv.entrust {H:Hist} {isSet:Place → Prop} {N:Nat} {st:St} {x:VName} (h:GInv H isSet N st) (hO:H.Ok N) (hx:GoneAt H N x) (hk:∀ s,s ∈ st.snaps → x ∉ s.kept) (hxo:x.Ok):GInv H isSet N (entrustSt st x):=by
 obtain ⟨j,hj,hd,hi,hw⟩:=hx.ex
 have hbut:=entrust_but st x
 refine ⟨h.wf.entrust hxo,fun p=>?_,h.els.entrust x,h.kn.entrust hk,by rw [entrust_vis]; exact h.vis,fun s hs=>?_⟩
 ·by_cases c:p=x.at_
  ·subst c
   have e:x=⟨x.at_,H.dot j⟩:=by rw [← hd]
   rw [e]
   exact (h.pl x.at_).entrust hO hj hi hw
  ·refine (h.pl p).other (fun d=>entrust_other (fun e=>c (by rw [← e]))) (fun s' hs'=>?_)
   obtain ⟨s,a,b,-,c'⟩:=hbut s' hs'
   exact ⟨s,a,b,fun d hd=>(c' _ hd).elim id (fun e=>absurd e c)⟩
 ·obtain ⟨s0,a,b,-⟩:=hbut s hs
  rw [b]; exact h.snaps s0 a
theorem entrust_kept {st:St} {x y:VName} (hy:∀ s,s ∈ st.snaps → y ∉ s.kept) (hne:y ≠ x):∀ s,s ∈ (entrustSt st x).snaps → y ∉ s.kept:=by
 unfold entrustSt
 split
 ·rename_i m hm
  obtain ⟨a,s0,b,e,rfl,-,-⟩:=keepAt_some hm
  rw [e] at hy
  intro s hs
  have hs':s ∈ a ++ keepFor x s0 :: b:=hs
  rw [List.mem_append,List.mem_cons] at hs'
  rcases hs' with q | q | q
  ·exact hy s (by simp [q])
  ·subst q
   intro c
   have c':y ∈ s0.kept ++ [x]:=c
   rw [List.mem_append,List.mem_singleton] at c'
   exact c'.elim (hy s0 (by simp)) hne
  ·exact hy s (by simp [q])
 ·exact hy
theorem GInv.entrusts {H:Hist} {isSet:Place → Prop} {N:Nat} (hO:H.Ok N):∀ (l:List VName) (st:St),GInv H isSet N st → l.Nodup → (∀ x,x ∈ l → GoneAt H N x ∧ x.Ok ∧ ∀ s,s ∈ st.snaps → x ∉ s.kept) → GInv H isSet N (l.foldl entrustSt st)
 | [],_,h,_,_=>h
 | a :: l,st,h,hn,hl=>by
  obtain ⟨ha,hn'⟩:=List.nodup_cons.1 hn
  obtain ⟨a1,a2,a3⟩:=hl a (by simp)
  refine GInv.entrusts hO l _ (h.entrust hO a1 a3 a2) hn' fun x hx=>?_
  obtain ⟨x1,x2,x3⟩:=hl x (by simp [hx])
  exact ⟨x1,x2,entrust_kept x3 (fun e=>ha (e ▸ hx))⟩
def closeSt (st:St) (s:Snap):St:=s.kept.foldl entrustSt { st with snaps:=st.snaps.filter fun t=>!decide (t.blk=s.blk) }
theorem GInv.close {H:Hist} {isSet:Place → Prop} {N:Nat} {st:St} {s:Snap} (h:GInv H isSet N st) (hO:H.Ok N) (hs:s ∈ st.snaps):GInv H isSet N (closeSt st s):=by
 have hsub:∀ t,t ∈ st.snaps.filter (fun t=>!decide (t.blk=s.blk)) → t ∈ st.snaps:=fun t ht=>(List.mem_filter.1 ht).1
 have hne:∀ t,t ∈ st.snaps.filter (fun t=>!decide (t.blk=s.blk)) → t.blk ≠ s.blk:=fun t ht=>by have:=(List.mem_filter.1 ht).2; simpa using this
 have hkn:=h.kn
 unfold KNod at hkn
 obtain ⟨a,b,e⟩:=List.append_of_mem hs
 have hdis:∀ t,t ∈ st.snaps → t.blk ≠ s.blk → ∀ x,x ∈ s.kept → x ∉ t.kept:=fun t ht hb x hx c=>by
  rw [e] at ht hkn
  rw [List.flatMap_append,List.flatMap_cons,List.nodup_append] at hkn
  obtain ⟨n1,n2,n3⟩:=hkn
  rw [List.nodup_append] at n2
  rw [List.mem_append,List.mem_cons] at ht
  rcases ht with q | q | q
  ·exact n3 x (List.mem_flatMap.2 ⟨t,q,c⟩) x (List.mem_append.2 (Or.inl hx)) rfl
  ·subst q; exact hb rfl
  ·exact n2.2.2 x hx x (List.mem_flatMap.2 ⟨t,q,c⟩) rfl
 have hnod:s.kept.Nodup:=by
  rw [e] at hkn
  rw [List.flatMap_append,List.flatMap_cons,List.nodup_append] at hkn
  exact (List.nodup_append.1 hkn.2.1).1
 refine GInv.entrusts hO s.kept _ ⟨⟨h.wf.here,h.wf.once,h.wf.ok,h.wf.went,fun t ht=>h.wf.kept t (hsub t ht),?_⟩,fun p=>(h.pl p).other (fun _=>rfl) (fun t ht=>⟨t,hsub t ht,rfl,fun _=>id⟩),h.els,?_,h.vis,fun t ht=>h.snaps t (hsub t ht)⟩ hnod fun x hx=>⟨?_,h.wf.kept s hs x hx,fun t ht=>hdis t (hsub t ht) (hne t ht) x hx⟩
 ·exact h.wf.blks.sublist (List.Sublist.map _ List.filter_sublist)
 ·refine List.Nodup.sublist ?_ h.kn
  rw [List.flatMap_def,List.flatMap_def]
  have:∀ l:List Snap,((l.filter fun t=>!decide (t.blk=s.blk)).map Snap.kept).flatten.Sublist (l.map Snap.kept).flatten:=fun l=>by
   induction l with
   | nil=>simp
   | cons t l ih=>
    by_cases c:t.blk=s.blk
    ·simp only [List.filter_cons,c,decide_true,Bool.not_true,Bool.false_eq_true,if_false,List.map_cons,List.flatten_cons]
     exact ih.trans (List.sublist_append_right _ _)
    ·simp only [List.filter_cons,c,decide_false,Bool.not_false,if_true,List.map_cons,List.flatten_cons]
     exact List.Sublist.append (List.Sublist.refl _) ih
  exact this _
 ·obtain ⟨j,h1,h2,h3,h4⟩:=(h.pl x.at_).e s hs x.dot hx
  exact ⟨j,h1,h2,h3,h4⟩
def Hist.cur (H:Hist) (p:Place) (T j:Nat):Prop:=j < T ∧ H.isVer p j=true ∧ H.wentAt p j T=none
theorem told_mem {H:Hist} {isSet:Place → Prop} {N T:Nat} {st:St} {saw:Vec} (h:GInv H isSet N st) (hO:H.Ok N) {s:Snap} (hs:s ∈ st.snaps) (e:s.saw=saw) (hT:T ≤ N) (ha:H.at saw T N) (p:Place) (d:Dot) :
  d ∈ toldRaw saw st p ↔ ∃ j,H.cur p T j ∧ d=H.dot j:=by
 unfold toldRaw
 rw [List.mem_filter,h.wf.here]
 constructor
 ·rintro ⟨hv,hr⟩
  obtain ⟨v,hv⟩:=Option.isSome_iff_exists.1 hv
  obtain ⟨j,hj,rfl,hi,rfl⟩:=(h.pl p).b d v hv
  rw [Hist.reads_iff hO hv,ha j hj] at hr
  refine ⟨j,⟨by simpa using hr.1,hi,(Hist.wentAt_back hT).2 (hr.2.imp id ?_)⟩,rfl⟩
  rintro ⟨k,h1,h2⟩
  rw [ha k (Hist.wentAt_lt h1).2.1] at h2
  exact ⟨k,h1,by simpa using h2⟩
 ·rintro ⟨j,⟨hj,hi,hw⟩,rfl⟩
  have hjN:j < N:=by omega
  have hw':=(Hist.wentAt_back hT).1 hw
  have hcov:saw.covers (H.dot j)=true:=by rw [ha j hjN]; simpa using hj
  have hr2:H.wentAt p j N=none ∨ ∃ k,H.wentAt p j N=some k ∧ saw.covers (H.dot k)=false:=hw'.imp id fun ⟨k,h1,h2⟩=>⟨k,h1,by rw [ha k (Hist.wentAt_lt h1).2.1]; simpa using h2⟩
  have hv:st.vers ⟨p,H.dot j⟩=some (H.verOf p j N):=(h.pl p).c j hjN hi (hr2.imp id fun ⟨k,h1,h2⟩=>⟨s,k,hs,by rw [e]; exact hcov,h1,by rw [e]; exact h2⟩)
  exact ⟨by rw [hv]; rfl,(Hist.reads_iff hO hv).2 ⟨hcov,hr2⟩⟩
theorem told_ver {H:Hist} {isSet:Place → Prop} {N:Nat} {st:St} {saw:Vec} (h:GInv H isSet N st) {p:Place} {d:Dot} (hd:d ∈ toldRaw saw st p):∃ j,j < N ∧ d=H.dot j ∧ H.isVer p j=true ∧ verAt st.vers ⟨p,d⟩=H.verOf p j N:=by
 unfold toldRaw at hd
 rw [List.mem_filter,h.wf.here] at hd
 obtain ⟨v,hv⟩:=Option.isSome_iff_exists.1 hd.1
 obtain ⟨j,hj,rfl,hi,rfl⟩:=(h.pl p).b d v hv
 exact ⟨j,hj,rfl,hi,by unfold verAt; rw [hv]; rfl⟩
theorem told_nodup {H:Hist} {isSet:Place → Prop} {N:Nat} {st:St} (h:GInv H isSet N st) (saw:Vec) (p:Place):(toldRaw saw st p).Nodup:=(h.wf.once p).sublist List.filter_sublist
theorem sum_told {H:Hist} {isSet:Place → Prop} {N T:Nat} {st:St} {saw:Vec} (h:GInv H isSet N st) (hO:H.Ok N) {s:Snap} (hs:s ∈ st.snaps) (e:s.saw=saw) (hT:T ≤ N) (ha:H.at saw T N) {p:Place} (hk:∀ j x,j < N → H.wr j p=some x → x.kind=0) {l:List Dot} (hl:l.Perm (toldRaw saw st p)) :
  l.foldl (fun a d=>wrap64 (a + (verAt st.vers ⟨p,d⟩).sum)) 0=H.total p T:=by
 have hm:∀ d,d ∈ l ↔ ∃ j,H.cur p T j ∧ d=H.dot j:=fun d=>(hl.mem_iff).trans (told_mem h hO hs e hT ha p d)
 have hov:∀ j k,j < N → k < N → (H.wr k p).isSome → H.over p k j=true:=fun j k _ hkN hw=>by
  obtain ⟨x,hx⟩:=Option.isSome_iff_exists.1 hw
  unfold Hist.over; rw [hx]; simp [hk k x hkN hx]
 have hfree:∀ j,H.cur p T j → ∀ k,j < k → k < T → H.wr k p=none:=fun j hj k h1 h2=>by
  cases c:H.wr k p with
  | none=>rfl
  | some x=>
   have:=Hist.wentAt_none hj.2.2 k h1 h2
   have hj1:=hj.1
   rw [hov j k (by omega) (by omega) (by rw [c]; rfl)] at this
   cases this
 have hwr:∀ j,H.isVer p j=true → (H.wr j p).isSome:=fun j hj=>by
  unfold Hist.isVer at hj
  split at hj
  ·cases hj
  ·rename_i x hx; rw [hx]; rfl
 have huniq:∀ j j',H.cur p T j → H.cur p T j' → j=j':=fun j j' hj hj'=>by
  have h1:=hj.1
  have h2:=hj'.1
  rcases Nat.lt_trichotomy j j' with c | c | c
  ·have a:=hfree j hj j' c h2
   have b:=hwr j' hj'.2.1
   rw [a] at b; cases b
  ·exact c
  ·have a:=hfree j' hj' j c h1
   have b:=hwr j hj.2.1
   rw [a] at b; cases b
 have hnd:l.Nodup:=hl.nodup_iff.2 (told_nodup h saw p)
 match l,hm,hnd with
 | [],hm,_=>
  show 0=H.total p T
  rcases H.last_writer p T with c | ⟨j,hj,hw,hlast⟩
  ·have:=Hist.total_still (H:=H) (p:=p) (j:=0) T (fun k _ b=>c k (by omega))
   rw [Nat.zero_add] at this
   rw [this]; rfl
  ·have e2:=Hist.total_still (H:=H) (p:=p) (j:=j + 1) (T - (j + 1)) (fun k a b=>hlast k (by omega) (by omega))
   rw [show j + 1 + (T - (j + 1))=T by omega] at e2
   rw [e2]
   obtain ⟨x,hx⟩:=Option.isSome_iff_exists.1 hw
   cases hi:H.isVer p j with
   | true=>
    have:H.cur p T j:=⟨hj,hi,Hist.wentAt_free fun k a b=>by unfold Hist.over; rw [hlast k a b]⟩
    have:=(hm (H.dot j)).2 ⟨j,this,rfl⟩
    simp at this
   | false=>
    unfold Hist.isVer at hi
    rw [hx] at hi
    simp only [hk j x (by omega) hx,if_true] at hi
    simp at hi
    exact hi.symm
 | [d],hm,_=>
  obtain ⟨j,hj,rfl⟩:=(hm d).1 (by simp)
  have hd':H.dot j ∈ toldRaw saw st p:=(told_mem h hO hs e hT ha p _).2 ⟨j,hj,rfl⟩
  obtain ⟨i,hi1,hi2,hi3,hi4⟩:=told_ver h hd'
  have hj1:=hj.1
  have:i=j:=(hO.inj j i (by omega) hi1 hi2).symm
  subst this
  have e2:=Hist.total_still (H:=H) (p:=p) (j:=i + 1) (T - (i + 1)) (fun k a b=>hfree i hj k (by omega) (by omega))
  rw [show i + 1 + (T - (i + 1))=T by omega] at e2
  show wrap64 (0 + (verAt st.vers ⟨p,H.dot i⟩).sum)=_
  rw [hi4,e2]
  obtain ⟨x,hx⟩:=Option.isSome_iff_exists.1 (hwr i hi3)
  have:(H.verOf p i N).sum=H.total p (i + 1):=by unfold Hist.verOf; rw [hx]; simp [hk i x hi1 hx]
  rw [this,Int.zero_add]
  exact H.total_wrap p (i + 1)
 | d :: d' :: l,hm,hnd=>
  obtain ⟨j,hj,rfl⟩:=(hm d).1 (by simp)
  obtain ⟨j',hj',rfl⟩:=(hm d').1 (by simp)
  have:=huniq j j' hj hj'
  subst this
  simp at hnd
end Go.Proofs.YtiplgdkpnhamaaaGreatDoor
namespace Go.Proofs.YtiplgdkpnhamaaaGreatDoor
open Go.RowKit
set_option maxRecDepth 100000 in
set_option maxHeartbeats 2000000 in
theorem twrite_full (w:World) (tb:Nat) (began own:Value) (p:Place) (x:Wr) (hT:Blk w tb [began,.int .i64 16,own] 122) :
  Calls Tryz.prog 62 #[.pointer (some ⟨tb,0,none⟩),p.val,x.val] w fun e w'=>e=.returned (.int .i64 5) ∧ Below w.heap.size w w':=by
 obtain ⟨k,a,v⟩:=x
 obtain ⟨pk,pe⟩:=p
 simp only [Place.val] at *
 have c1:w.cell? ⟨tb,1,none⟩=some (.int .i64 16):=hT.cell 1
 have hl:=hT.lt
 clear hT
 go_enter Tryz.func62,Tryz.ntmps62
 go_wp2_with fail
 go_ret
 exact ⟨rfl,((Below.refl _ _).alloc (Nat.le_refl _) _).alloc (by simp) _⟩
set_option maxRecDepth 100000 in
set_option maxHeartbeats 4000000 in
theorem twrite_ok (w:World) (tb mb n:Nat) (calls:Int) (began:Value) (m:Place → Option Wr) (p:Place) (x:Wr) (hT:Blk w tb [began,.int .i64 calls,.map (some mb)] 122) (hM:MapIn w 129 mb n Place.val Wr.val m) (hne:tb ≠ mb)
  (h0:0 ≤ calls) (h16:calls < 16) (h1:p.key.size ≤ maxLen) (h2:p.el.size ≤ maxLen) (hn:n < maxLen) :
  Calls Tryz.prog 62 #[.pointer (some ⟨tb,0,none⟩),p.val,x.val] w fun e w'=>e=.returned (.int .i64 0) ∧ Blk w' tb [began,.int .i64 (calls + 1),.map (some mb)] 122 ∧
   MapIn w' 129 mb (n + 1) Place.val Wr.val (fun q=>if q=p then some (putWr m p x) else m q) ∧ Touch (fun q=>q=tb ∨ q=mb) w w':=by
 have HP:Hid (∀ W,W.heap[mb]? = w.heap[mb]? → Calls Tryz.prog 102 #[.map (some mb),p.val,x.val] W fun e w'=>e=.returned (.tuple #[]) ∧ MapIn w' 129 mb (n + 1) Place.val Wr.val (fun q=>if q=p then some (putWr m p x) else m q) ∧ Touch (fun q=>q=mb) W w'):=fun W hW=>put_any W mb n m p x (hM.move hW) h1 h2 hn
 have hml:=hM.lt
 have hl:=hT.lt
 have hne':mb ≠ tb:=fun e=>hne e.symm
 obtain ⟨k,a,v⟩:=x
 obtain ⟨pk,pe⟩:=p
 simp only [Place.val] at *
 have c1:w.cell? ⟨tb,1,none⟩=some (.int .i64 calls):=hT.cell 1
 have c2:w.cell? ⟨tb,2,none⟩=some (.map (some mb)):=hT.cell 2
 have f1:w.frozen? ⟨tb,1,none⟩=false:=hT.frozen 1
 have hc:(calls == 16)=false:=beq_false_of_ne (by omega)
 have HT:=hide hT
 clear hT hM
 go_enter Tryz.func62,Tryz.ntmps62
 have hWm:(((w.setCell ⟨tb,1,none⟩ (.int .i64 (calls + 1))).alloc (.cells #[.string pk,.string pe] 129)).alloc (.cells #[.int .i64 k,.int .i64 a,.string v] 132)).heap[mb]? = w.heap[mb]?:=by
  rw [Below.heap_alloc _ _ _ (by simp; omega),Below.heap_alloc _ _ _ (by simp; omega),Below.heap_setCell _ _ _ _ hne']
 have hWb:Blk (((w.setCell ⟨tb,1,none⟩ (.int .i64 (calls + 1))).alloc (.cells #[.string pk,.string pe] 129)).alloc (.cells #[.int .i64 k,.int .i64 a,.string v] 132)) tb [began,.int .i64 (calls + 1),.map (some mb)] 122:=((HT.out.set 1 _).alloc _).alloc _
 have hWt:Touch (fun q=>q=tb ∨ q=mb) w (((w.setCell ⟨tb,1,none⟩ (.int .i64 (calls + 1))).alloc (.cells #[.string pk,.string pe] 129)).alloc (.cells #[.int .i64 k,.int .i64 a,.string v] 132)):=(((Touch.refl _ _).setCell (p:=⟨tb,1,none⟩) (Or.inl (Or.inl rfl)) _).alloc _).alloc _
 have HW:=hide (⟨hWm,hWb,hWt⟩:_ ∧ _ ∧ _)
 clear hWm hWb hWt
 go_wp2_with fail
 go_region_with (go_at_call 102; refine (HP.out _ (by exact HW.out.1)).mono ?_; rintro e w5 ⟨rfl,hM5,hT5⟩; have HM5:=hide hM5; have HT5:=hide hT5; clear hM5 hT5)
 all_goals go_wp2_with fail
 all_goals go_ret
 all_goals exact ⟨rfl,HW.out.2.1.move (HT5.out.block tb HW.out.2.1.lt hne),HM5.out,HW.out.2.2.drew.then (HT5.out.mono fun q _ e=>Or.inr e)⟩
end Go.Proofs.YtiplgdkpnhamaaaGreatDoor
namespace Go.Proofs.YtiplgdkpnhamaaaGreatDoor
open Go.RowKit
set_option maxHeartbeats 1000000 in
theorem visible_any (w:World) (b:Nat) (v:Vec) (c0:w.cell? ⟨b,0,none⟩=some (.int .i64 v.a)) (c1:w.cell? ⟨b,1,none⟩=some (.int .i64 v.b)) (c2:w.cell? ⟨b,2,none⟩=some (.int .i64 v.c)) (c3:w.cell? ⟨b,3,none⟩=some (.int .i64 v.d)) (c4:w.cell? ⟨b,4,none⟩=some (.int .i64 v.e)) :
  Calls Tryz.prog 57 #[.pointer (some ⟨b,0,none⟩)] w fun e w'=>e=.returned v.val ∧ Below w.heap.size w w':=by
 have hl:=World.block_lt_of_cell? w _ c0
 go_enter Tryz.func57,Tryz.ntmps57
 go_wp2_with fail
 exact bodyPost_ret (v:=v.val) (by simp [results,Tryz.results57,go_sem]) rfl ⟨rfl,(Below.refl _ _).alloc (Nat.le_refl _) _⟩
set_option maxHeartbeats 1000000 in
theorem saw_any (w:World) (b:Nat) (v:Vec) (c0:w.cell? ⟨b,1,none⟩=some (.int .i64 v.a)) (c1:w.cell? ⟨b,2,none⟩=some (.int .i64 v.b)) (c2:w.cell? ⟨b,3,none⟩=some (.int .i64 v.c)) (c3:w.cell? ⟨b,4,none⟩=some (.int .i64 v.d)) (c4:w.cell? ⟨b,5,none⟩=some (.int .i64 v.e)) :
  Calls Tryz.prog 67 #[.pointer (some ⟨b,0,none⟩)] w fun e w'=>e=.returned v.val ∧ Below w.heap.size w w':=by
 have hl:=World.block_lt_of_cell? w _ c0
 go_enter Tryz.func67,Tryz.ntmps67
 go_wp2_with fail
 exact bodyPost_ret (v:=v.val) (by simp [results,Tryz.results67,go_sem]) rfl ⟨rfl,(Below.refl _ _).alloc (Nat.le_refl _) _⟩
end Go.Proofs.YtiplgdkpnhamaaaGreatDoor
