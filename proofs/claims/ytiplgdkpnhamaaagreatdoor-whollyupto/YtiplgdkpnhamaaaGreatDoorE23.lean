/- The texts K1, K2, K7, K3, K4, K6, joined. -/
import Derived.Test.YtiplgdkpnhamaaaGreatDoorE21
import Derived.Test.YtiplgdkpnhamaaaGreatDoorE09
import Derived.Test.YtiplgdkpnhamaaaGreatDoorE16
import Derived.Test.YtiplgdkpnhamaaaGreatDoorE22
import Derived.Test.YtiplgdkpnhamaaaGreatDoorE19
import Derived.Test.YtiplgdkpnhamaaaGreatDoorE06
import Derived.Test.YtiplgdkpnhamaaaGreatDoorE04
import Derived.Test.YtiplgdkpnhamaaaGreatDoorE08
namespace Go.Proofs.YtiplgdkpnhamaaaGreatDoor
open Go.RowKit
structure TxP (w:World) (p:Nat → Own) (k nb tb mb:Nat) (t:RTx):Prop where
 blk:Qb w p (.tx k) tb [bptr nb,.int .i64 t.ops.length,.map (some mb)] 122
 ownT:p mb=.own k
 own:MapIn w 129 mb t.ops.length Place.val Wr.val (ownOf t.ops)
def opv (d:DRep) (tbs:Nat → Nat) (k:Nat):Value:=if (d.opn k).isSome then bptr (tbs k) else .pointer none
def opvs (d:DRep) (tbs:Nat → Nat):List Value:=[opv d tbs 0,opv d tbs 1,opv d tbs 2,opv d tbs 3,opv d tbs 4,opv d tbs 5]
section
variable {w w':World} {p p':Nat → Own} {b n i k:Nat} {d:DRep} {sb:Nat} {st:St} {sl tbs mbs:Nat → Nat} {hv kn:List Value} {t:RTx} {nb tb mb:Nat}
theorem TxP.move (h:TxP w p k nb tb mb t) (hm:∀ q,q < w.heap.size → p q ≠ .other → w'.heap[q]? = w.heap[q]? ∧ p' q=p q):TxP w' p' k nb tb mb t:=by
 have:=hm mb h.own.lt (by rw [h.ownT]; simp)
 exact ⟨h.blk.move2 (fun q hq e=>by have:=hm q hq (by rw [e]; simp); exact ⟨this.1,this.2.trans e⟩),this.2.trans h.ownT,h.own.move this.1⟩
theorem opvs_get {d:DRep} {tbs:Nat → Nat} (hk:k < 6):(opvs d tbs)[k]? = some (opv d tbs k):=by
 have:k=0 ∨ k=1 ∨ k=2 ∨ k=3 ∨ k=4 ∨ k=5:=by omega
 rcases this with rfl | rfl | rfl | rfl | rfl | rfl <;> rfl
end
def notOther (u:Own):Prop:=u ≠ .other
theorem sto_not {u:Own} (h:stoTag u):notOther u:=fun e=>by rw [e] at h; exact h
end Go.Proofs.YtiplgdkpnhamaaaGreatDoor
namespace Go.Proofs.YtiplgdkpnhamaaaGreatDoor
open Go.RowKit
theorem repCells_set {i n:Int} {sb:Nat} {hv kn op:List Value} (h1:hv.length=5) (h2:kn.length=25) (k:Nat) (x:Value):(repCells i n sb hv kn op).set (33 + k) x=repCells i n sb hv kn (op.set k x):=by
 unfold repCells
 rw [List.set_append_right _ _ (by simp; omega)]
 congr 2
 simp; omega
theorem opvs_set {d:DRep} {tbs:Nat → Nat} {k:Nat} {t?:Option RTx} (hk:k < 6) (tb:Nat):(opvs d tbs).set k (if t?.isSome then bptr tb else .pointer none)=opvs { d with opn:=setSlot d.opn k t? } (fun q=>if q=k then tb else tbs q):=by
 have:k=0 ∨ k=1 ∨ k=2 ∨ k=3 ∨ k=4 ∨ k=5:=by omega
 rcases this with rfl | rfl | rfl | rfl | rfl | rfl <;> simp [opvs,opv,setSlot]
theorem opvs_end {d:DRep} {tbs:Nat → Nat} {k:Nat} (hk:k < 6):(opvs d tbs).set k (.pointer none)=opvs { d with opn:=setSlot d.opn k none } tbs:=by
 have:k=0 ∨ k=1 ∨ k=2 ∨ k=3 ∨ k=4 ∨ k=5:=by omega
 rcases this with rfl | rfl | rfl | rfl | rfl | rfl <;> simp [opvs,opv,setSlot]
end Go.Proofs.YtiplgdkpnhamaaaGreatDoor
namespace Go.Proofs.YtiplgdkpnhamaaaGreatDoor
open Go.RowKit
structure BegIn (w:World) (p:Nat → Own) (k sb N nb tb mb:Nat) (st:St) (W:World) (p3:Nat → Own):Prop where
 sto:StIn W p3 sb N (openSt st nb)
 qt:QT stoTag w p W p3
 tx:Qb W p3 (.tx k) tb [bptr nb,.int .i64 0,.map (some mb)] 122
 ownT:p3 mb=.own k
 own:MapIn W 129 mb 0 Place.val Wr.val (fun _=>none)
 fresh:w.heap.size ≤ nb
theorem beg_open {w w1:World} {p p1:Nat → Own} {k sb N:Nat} {st:St} (hS:StIn w1 p1 sb N (openSt st w.heap.size)) (hq:QT stoTag w p w1 p1) :
  BegIn w p k sb N w.heap.size (w1.heap.size + 1) w1.heap.size st ((w1.alloc (.map #[] 0)).alloc (.cells #[bptr w.heap.size,.int .i64 0,.map (some w1.heap.size)] 122)) (updq (updq p1 w1.heap.size (.own k)) (w1.heap.size + 1) (.tx k)):=by
 have hz:(w1.alloc (.map #[] 0)).heap.size=w1.heap.size + 1:=by simp
 have hB:Below w1.heap.size w1 ((w1.alloc (.map #[] 0)).alloc (.cells #[bptr w.heap.size,.int .i64 0,.map (some w1.heap.size)] 122)):=((Below.refl _ _).alloc (Nat.le_refl _) _).alloc (by simp) _
 have hsame:∀ q,q < w1.heap.size → updq (updq p1 w1.heap.size (.own k)) (w1.heap.size + 1) (.tx k) q=p1 q:=fun q hq=>by rw [updq_other (by omega),updq_other (by omega)]
 obtain ⟨vb,cb,eb,ov,cv,ev,kv,h⟩:=hS
 refine ⟨⟨vb,cb,eb,ov,cv,ev,kv,h.move fun q hq _=>⟨hB.block q hq,hsame q hq⟩⟩,⟨hq.touch.then (Touch.ofBelow hB),fun q hq'=>(hsame q (Nat.lt_of_lt_of_le hq' hq.size)).trans (hq.same q hq')⟩,⟨Blk.second w1 _ _ _,updq_same _ _ _⟩,?_,?_,Nat.le_refl _⟩
 ·rw [updq_other (by omega),updq_same]
 ·exact (MapIn.made w1 129 Place.val Wr.val).move (Below.heap_alloc _ _ _ (by simp))
theorem beg_map {w w2:World} {p p2:Nat → Own} {k sb N:Nat} {st:St} (hS:StIn w2 p2 sb N (openSt st (w.heap.size + 1))) (hq:QT stoTag (w.alloc (.map #[] 0)) (updq p w.heap.size (.own k)) w2 p2) :
  BegIn w p k sb N (w.heap.size + 1) w2.heap.size w.heap.size st (w2.alloc (.cells #[bptr (w.heap.size + 1),.int .i64 0,.map (some w.heap.size)] 122)) (updq p2 w2.heap.size (.tx k)):=by
 have hz:(w.alloc (.map #[] 0)).heap.size=w.heap.size + 1:=by simp
 have hle:=hq.size
 have hB:Below w2.heap.size w2 (w2.alloc (.cells #[bptr (w.heap.size + 1),.int .i64 0,.map (some w.heap.size)] 122)):=(Below.refl _ _).alloc (Nat.le_refl _) _
 have hsame:∀ q,q < w2.heap.size → updq p2 w2.heap.size (.tx k) q=p2 q:=fun q hq=>updq_other (by omega)
 have hm:p2 w.heap.size=.own k:=by rw [hq.same _ (by omega),updq_same]
 obtain ⟨vb,cb,eb,ov,cv,ev,kv,h⟩:=hS
 have hM:MapIn w2 129 w.heap.size 0 Place.val Wr.val (fun _=>none):=(MapIn.made w 129 Place.val Wr.val).movet hq (by rw [updq_same]; simp [stoTag])
 have q0:QT stoTag w p w2 p2:=⟨(Touch.ofBelow ((Below.refl _ _).alloc (Nat.le_refl _) _)).trans (hq.touch.mono fun q hq' e=>by
   by_cases c:q < w.heap.size
   ·rw [updq_other (by omega)] at e; exact Or.inl e
   ·exact Or.inr (by omega)),fun q hq'=>by rw [hq.same q (by omega),updq_other (by omega)]⟩
 exact ⟨⟨vb,cb,eb,ov,cv,ev,kv,h.move fun q hq _=>⟨hB.block q hq,hsame q hq⟩⟩,⟨q0.touch.then (Touch.ofBelow hB),fun q hq'=>(hsame q (Nat.lt_of_lt_of_le hq' q0.size)).trans (q0.same q hq')⟩,⟨heap_alloc_new w2 _,updq_same _ _ _⟩,by rw [updq_other (by omega)]; exact hm,hM.move (Below.heap_alloc _ _ _ hM.lt),by omega⟩
theorem idx6_0 (v0 v1 v2 v3 v4 v5:Value) (W:World):(Instr.index 112 (.agg #[v0,v1,v2,v3,v4,v5]) (.int .i64 0)).run Tryz.prog W=.ok v0 W:=by kernel_rfl
theorem idx6_1 (v0 v1 v2 v3 v4 v5:Value) (W:World):(Instr.index 112 (.agg #[v0,v1,v2,v3,v4,v5]) (.int .i64 1)).run Tryz.prog W=.ok v1 W:=by kernel_rfl
theorem idx6_2 (v0 v1 v2 v3 v4 v5:Value) (W:World):(Instr.index 112 (.agg #[v0,v1,v2,v3,v4,v5]) (.int .i64 2)).run Tryz.prog W=.ok v2 W:=by kernel_rfl
theorem idx6_3 (v0 v1 v2 v3 v4 v5:Value) (W:World):(Instr.index 112 (.agg #[v0,v1,v2,v3,v4,v5]) (.int .i64 3)).run Tryz.prog W=.ok v3 W:=by kernel_rfl
theorem idx6_4 (v0 v1 v2 v3 v4 v5:Value) (W:World):(Instr.index 112 (.agg #[v0,v1,v2,v3,v4,v5]) (.int .i64 4)).run Tryz.prog W=.ok v4 W:=by kernel_rfl
theorem idx6_5 (v0 v1 v2 v3 v4 v5:Value) (W:World):(Instr.index 112 (.agg #[v0,v1,v2,v3,v4,v5]) (.int .i64 5)).run Tryz.prog W=.ok v5 W:=by kernel_rfl
theorem QT.undrew {A:Own → Prop} {w w':World} {p p':Nat → Own} (h:QT A w.drew p w' p'):QT A w p w' p':=⟨⟨h.touch.os,h.touch.tape,h.touch.output,h.touch.size,h.touch.block⟩,h.same⟩
theorem begin_none {d:DRep} (h:∀ j,j < 6 → (d.opn j).isSome=true):beginAns d=.tuple #[.int .i64 0,.int .i64 5] ∧ beginD d=d:=by
 have:¬ freeSlot d.opn < 6:=by
  unfold freeSlot
  intro c
  have:=List.findIdx_getElem (w:=by simpa using c) (xs:=List.range 6) (p:=fun k=>(d.opn k).isNone)
  simp only [List.getElem_range] at this
  have h2:=h _ c
  unfold freeSlot at h2
  cases e:d.opn (List.findIdx (fun k=>(d.opn k).isNone) (List.range 6)) with
  | none=>rw [e] at h2; cases h2
  | some t=>rw [e] at this; cases this
 unfold beginAns beginD
 rw [if_neg this,if_neg this]
 exact ⟨rfl,rfl⟩
theorem begin_at {d:DRep} {k:Nat} (hk:k < 6) (h:∀ j,j < k → (d.opn j).isSome=true) (hf:d.opn k=none):beginAns d=.tuple #[.int .i64 k,.int .i64 0] ∧ beginD d={ d with opn:=setSlot d.opn k (some ⟨0,0,d.vis,[]⟩) }:=by
 have e:=freeSlot_eq hk h hf
 unfold beginAns beginD
 rw [if_pos (by omega),if_pos (by omega),e]
 exact ⟨rfl,rfl⟩
end Go.Proofs.YtiplgdkpnhamaaaGreatDoor
namespace Go.Proofs.YtiplgdkpnhamaaaGreatDoor
open Go.RowKit
theorem opvs_same {d:DRep} {tbs:Nat → Nat} {k:Nat} {t t':RTx} (h:d.opn k=some t):opvs { d with opn:=setSlot d.opn k (some t') } tbs=opvs d tbs:=by
 have e:∀ j,opv { d with opn:=setSlot d.opn k (some t') } tbs j=opv d tbs j:=fun j=>by
  unfold opv
  by_cases c:j=k
  ·subst c; simp [setSlot,h]
  ·simp [setSlot,c]
 simp [opvs,e]
theorem plOf_ok {o:ROp} (h1:o.key.size ≤ maxLen) (h2:¬ o.kind=1 → o.value.size ≤ maxLen):(plOf o).key.size ≤ maxLen ∧ (plOf o).el.size ≤ maxLen:=by
 unfold plOf; split
 ·exact ⟨h1,no_size⟩
 ·rename_i c; exact ⟨h1,h2 (fun e=>c (Or.inl e))⟩
theorem key_small {o:ROp} (h:OpOk o):o.key.size ≤ 8:=by
 by_cases c:1 ≤ o.key.size ∧ o.key.size ≤ 8
 ·exact c.2
 ·have:=h.key; rw [kindOf_long c] at this; unfold kindByte at this; split at this
  ·omega
  ·split at this <;> omega
theorem small_max {n:Nat} (h:n ≤ 8):n ≤ maxLen:=by unfold maxLen; omega
def wroteD (d:DRep) (k:Nat) (t:RTx) (o:ROp):DRep:=if 16 ≤ t.ops.length then d else { d with opn:=setSlot d.opn k (some { t with ops:=t.ops ++ [o] }) }
end Go.Proofs.YtiplgdkpnhamaaaGreatDoor
namespace Go.Proofs.YtiplgdkpnhamaaaGreatDoor
open Go.RowKit
def werr (t?:Option RTx) (th:Int) (key val:ByteArray):Int:=
 match t? with
 | none=>4
 | some _=>if ¬ kindOf key=th then 2 else if 8 < val.size then 3 else 0
theorem does_werr {t?:Option RTx} {o:ROp} (hk:¬ o.kind=1):doesErr t? o=if werr t? (kindByte o.kind) o.key o.value=0 then (match t? with | none=>0 | some t=>if 16 ≤ t.ops.length then 5 else 0) else werr t? (kindByte o.kind) o.key o.value:=by
 cases t? with
 | none=>rfl
 | some t=>
  unfold doesErr werr
  simp only [hk,false_and,not_false_eq_true,true_and,false_or]
  by_cases c1:kindOf o.key=kindByte o.kind
  ·by_cases c2:8 < o.value.size
   ·simp [c1,c2]
   ·simp [c1,c2]
  ·simp [c1]
theorem does_wrote {d:DRep} {k:Nat} {t:RTx} {o:ROp} (ho:opnAt d k=some t) (hk:¬ o.kind=1) (hg:werr (opnAt d k) (kindByte o.kind) o.key o.value=0):doesErr (opnAt d k) o=(if 16 ≤ t.ops.length then 5 else 0) ∧ doesD d k o=wroteD d k t o:=by
 have ea:doesErr (some t) o=if 16 ≤ t.ops.length then 5 else 0:=by
  rw [does_werr hk,if_pos (by rw [← ho]; exact hg)]
 refine ⟨by rw [ho]; exact ea,?_⟩
 unfold doesD wroteD; rw [ho]; simp only; rw [ea]
 by_cases c:16 ≤ t.ops.length
 ·rw [if_pos c,if_pos c,if_neg (by omega)]
 ·rw [if_neg c,if_neg c,if_pos rfl]; rfl
theorem does_bad {d:DRep} {tx:Int} {o:ROp} (hk:¬ o.kind=1) (hb:¬ werr (opnAt d tx) (kindByte o.kind) o.key o.value=0):doesErr (opnAt d tx) o=werr (opnAt d tx) (kindByte o.kind) o.key o.value ∧ doesD d tx o=d:=by
 have ea:doesErr (opnAt d tx) o=werr (opnAt d tx) (kindByte o.kind) o.key o.value:=by rw [does_werr hk,if_neg hb]
 refine ⟨ea,?_⟩
 unfold doesD
 cases ho:opnAt d tx with
 | none=>rfl
 | some t=>
  rw [ho] at ea hb
  simp only
  rw [ea,if_neg hb]
end Go.Proofs.YtiplgdkpnhamaaaGreatDoor
namespace Go.Proofs.YtiplgdkpnhamaaaGreatDoor
open Go.RowKit
theorem Tryz.infoIntX:(Tryz.prog.info? 3).map (fun i=>(i.zero,i.size,i.bytes))=some (some (.int .i64 0),1,8):=by kernel_rfl
set_option maxRecDepth 100000 in
set_option maxHeartbeats 2000000 in
theorem clone_ints (w:World) (g cap n:Nat) (xs:List Value) (hlen:xs.length=n * 1) (hcells:∀ j u,xs[j]? = some u → w.cell? ((⟨g,0,none⟩:Addr).add j)=some u) (h1:∀ u ∈ xs,u.oneCell'=true) (hl:n ≤ 1000000000) :
  Calls Tryz.prog 58 #[.slice (some ⟨g,0,none⟩) n cap] w fun e w'=>∃ v',e=.returned v' ∧ w'.ownsRow w.heap.size 3 1 v' n xs ∧ Below w.heap.size w w':=by
 have hnil:=fun w a n c=>Lib.run_eql_slice_nil (P:=Tryz.prog) w 44 3 a n c 0 0 Tryz.underlying44
 obtain ⟨i0,hi,hz0,hz1,hz2⟩:=info_parts Tryz.infoIntX
 have HL:=hide hlen
 have HC2:Hid (∀ j u,xs[j]? = some u → (w.alloc (.cells #[] 3)).cell? ((⟨g,0,none⟩:Addr).add j)=some u):=fun j u hu=>by
  have:=hcells j u hu
  rw [Addr.add_lit] at this ⊢
  rw [World.cell?_alloc_past _ _ _ (World.block_lt_of_cell? w _ this)]; exact this
 have HE:Hid ((w.alloc (.cells #[] 3)).ownsRow w.heap.size 3 1 (.slice (some ⟨w.heap.size,0,none⟩) 0 0) 0 []):=⟨rfl,.inr ⟨w.heap.size,0,#[],rfl,Nat.le_refl _,heap_alloc_new w _,Nat.le_refl _,Nat.zero_le _,rfl,rfl⟩⟩
 clear hlen hcells
 go_enter Tryz.func58,Tryz.ntmps58
 go_wp2_with (at_builtin; refine wpList_append_own_at _ rfl _ _ 44 rfl w.heap.size 3 i0 (.int .i64 0) 1 8 Tryz.underlying44 hi hz0 hz1 hz2 rfl (by decide) _ 0 [] rfl HE.out ⟨g,0,none⟩ n cap xs rfl HL.out HC2.out h1 (by unfold maxLen; omega) (by omega) (by simp) ?_; intro v1 w1 hown1 hgrow1 hnil1 hat1)
 go_ret
 refine ⟨v1,rfl,by simpa using hown1,((Below.refl _ _).alloc (Nat.le_refl _) _).grown hgrow1 (by simp) (fun j hj=>?_)⟩
 cases hj
 exact Nat.le_refl _
theorem vec_take {l:List Int} {n:Nat} (hl:l.length=n) (hn:n ≤ 5):[Value.int .i64 (vecOf l).a,.int .i64 (vecOf l).b,.int .i64 (vecOf l).c,.int .i64 (vecOf l).d,.int .i64 (vecOf l).e].take n=ints l:=by
 subst hl
 match l,hn with
 | [],_=>rfl
 | [a],_=>rfl
 | [a,b],_=>rfl
 | [a,b,c],_=>rfl
 | [a,b,c,d],_=>rfl
 | [a,b,c,d,e],_=>rfl
 | a :: b :: c :: d :: e :: f :: l,h=>simp at h
end Go.Proofs.YtiplgdkpnhamaaaGreatDoor
