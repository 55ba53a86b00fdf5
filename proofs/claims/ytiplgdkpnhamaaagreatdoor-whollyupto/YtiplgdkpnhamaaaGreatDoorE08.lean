/- The texts S1, S2, S4, H1, G6, S5, X1, T1, X2, T2, T3, joined. -/
import Derived.Test.YtiplgdkpnhamaaaGreatDoorE05
import Derived.Test.YtiplgdkpnhamaaaGreatDoorE07
import Derived.Maps.RangeWalk
import Derived.Laws.CopyRow
namespace Go.Proofs.YtiplgdkpnhamaaaGreatDoor
open Go.RowKit
structure DRep where
 hs:List RTx
 vis:List Int
 opn:Nat → Option RTx
def opnAt (d:DRep) (tx:Int):Option RTx:=if 0 ≤ tx then d.opn tx.toNat else none
def freeSlot (opn:Nat → Option RTx):Nat:=(List.range 6).findIdx fun k=>(opn k).isNone
def setSlot (opn:Nat → Option RTx) (k:Nat) (t:Option RTx):Nat → Option RTx:=fun j=>if j=k then t else opn j
theorem setSlot_same (opn:Nat → Option RTx) (k:Nat) (t:Option RTx):setSlot opn k t k=t:=by simp [setSlot]
theorem setSlot_other {opn:Nat → Option RTx} {k j:Nat} {t:Option RTx} (h:j ≠ k):setSlot opn k t j=opn j:=by simp [setSlot,h]
theorem freeSlot_eq {opn:Nat → Option RTx} {k:Nat} (hk:k < 6) (h:∀ j,j < k → (opn j).isSome=true) (h2:opn k=none):freeSlot opn=k:=by
 unfold freeSlot
 rw [List.findIdx_eq (by simpa using hk)]
 refine ⟨by simp [h2],fun j hj=>?_⟩
 have:=h j hj
 rw [Option.isSome_iff_exists] at this
 obtain ⟨t,ht⟩:=this
 simp [ht]
def readAns (t?:Option RTx) (key:ByteArray) (ts:List RTx) (n:Nat):Int × List ByteArray × Int:=
 match t? with
 | none=>(0,[],4)
 | some t=>
  if kindOf key=99 then (wrap64 (counterOf t.saw key ts + sumOf key t.ops),[],0)
  else if kindOf key=114 then (0,(match lastOf key noEl t.ops with | some o=>[o.value] | none=>registerOf t.saw key ts n),0)
  else if kindOf key=115 then (0,readSet key t.ops (setOf t.saw key ts),0)
  else (0,[],2)
def kindByte (kind:Int):Int:=if kind=1 then 99 else if kind=2 then 114 else 115
def doesErr (t?:Option RTx) (p:ROp):Int:=
 match t? with
 | none=>4
 | some t=>
  if ¬ kindOf p.key=kindByte p.kind then 2
  else if (p.kind=1 ∧ (p.amount < -1000000 ∨ 1000000 < p.amount)) ∨ (¬ p.kind=1 ∧ 8 < p.value.size) then 3
  else if 16 ≤ t.ops.length then 5
  else 0
def beginD (d:DRep):DRep:=if freeSlot d.opn < 6 then { d with opn:=setSlot d.opn (freeSlot d.opn) (some ⟨0,0,d.vis,[]⟩) } else d
def beginAns (d:DRep):Value:=if freeSlot d.opn < 6 then .tuple #[.int .i64 (freeSlot d.opn),.int .i64 0] else .tuple #[.int .i64 0,.int .i64 5]
def doesD (d:DRep) (tx:Int) (p:ROp):DRep:=
 match opnAt d tx with
 | none=>d
 | some t=>if doesErr (some t) p=0 then { d with opn:=setSlot d.opn tx.toNat (some { t with ops:=t.ops ++ [p] }) } else d
def endD (d:DRep) (tx:Int):DRep:={ d with opn:=setSlot d.opn tx.toNat none }
def done (i:Nat) (d:DRep) (t:RTx):RTx:=⟨i,d.vis.getD i 0 + 1,t.saw,t.ops⟩
def commitD (i:Nat) (d:DRep) (tx:Int):DRep:=
 match opnAt d tx with
 | none=>d
 | some t=>if t.ops.length=0 then endD d tx else ⟨d.hs ++ [done i d t],d.vis.set i (d.vis.getD i 0 + 1),setSlot d.opn tx.toNat none⟩
def commitAns (i:Nat) (d:DRep) (tx:Int):Value:=
 match opnAt d tx with
 | none=>.tuple #[.agg #[.int .i64 0,.int .i64 0],.int .i64 4]
 | some t=>if t.ops.length=0 then .tuple #[.agg #[.int .i64 0,.int .i64 0],.int .i64 0] else .tuple #[.agg #[.int .i64 i,.int .i64 (d.vis.getD i 0 + 1)],.int .i64 0]
def abortD (d:DRep) (tx:Int):DRep:=if (opnAt d tx).isSome then endD d tx else d
def abortAns (d:DRep) (tx:Int):Value:=if (opnAt d tx).isSome then .int .i64 0 else .int .i64 4
theorem Pc.move2 {w w':World} {o o':Nat → Tag} {t:Tag} {e:TypeId} {size:Nat} {v:Value} {n:Nat} {xs:List Value} (h:Pc w o t e size v n xs) (hb:∀ q,q < w.heap.size → o q=t → w'.heap[q]? = w.heap[q]? ∧ o' q=t):Pc w' o' t e size v n xs:=
 ⟨h.row.move fun k hk=>(hb k (h.lt hk) (h.tag k hk)).1,fun q hq=>(hb q (h.lt hq) (h.tag q hq)).2⟩
theorem Bl.move2 {w w':World} {o o':Nat → Tag} {t:Tag} {b:Nat} {cs:List Value} {ty:TypeId} (h:Bl w o t b cs ty) (hb:∀ q,q < w.heap.size → o q=t → w'.heap[q]? = w.heap[q]? ∧ o' q=t):Bl w' o' t b cs ty:=
 ⟨h.blk.move (hb b h.blk.lt h.tag).1,(hb b h.blk.lt h.tag).2⟩
end Go.Proofs.YtiplgdkpnhamaaaGreatDoor
namespace Go.Proofs.YtiplgdkpnhamaaaGreatDoor
open Go.RowKit
theorem withEls_len (v:List Int) (key:ByteArray) (ts:List RTx) (t:RTx):∀ (es acc:List ByteArray),(es.foldl (setEl v key ts t) acc).length ≤ acc.length + es.length
 | [],acc=>by simp
 | e :: es,acc=>by
  have a:=setEl_len v key ts t acc e
  have b:=withEls_len v key ts t es (setEl v key ts t acc e)
  simp only [List.foldl_cons,List.length_cons]
  omega
theorem setOf_len (v:List Int) (key:ByteArray) (ts:List RTx) (hop:∀ t,t ∈ ts → t.ops.length ≤ 16):(setOf v key ts).length ≤ 16 * ts.length:=by
 have:∀ (us:List RTx) (acc:List ByteArray),(∀ t,t ∈ us → t.ops.length ≤ 16) → (us.foldl (setTx v key ts) acc).length ≤ acc.length + 16 * us.length:=by
  intro us
  induction us with
  | nil=>intro acc _; simp
  | cons u us ih=>
   intro acc h
   have a:(setTx v key ts acc u).length ≤ acc.length + 16:=by
    unfold setTx
    split
    ·have:=withEls_len v key ts u (elemsOf key u.ops) acc
     have:=elemsOf_len key u.ops
     have:=h u (by simp)
     omega
    ·omega
   have b:=ih (setTx v key ts acc u) (fun t ht=>h t (by simp [ht]))
   simp only [List.foldl_cons,List.length_cons]
   omega
 simpa [setOf] using this ts [] hop
end Go.Proofs.YtiplgdkpnhamaaaGreatDoor
namespace Go.Proofs.YtiplgdkpnhamaaaGreatDoor
open Go.RowKit
structure Moved (B:Tag → Prop) (w:World) (o:Nat → Tag) (w':World) (o':Nat → Tag):Prop where
 touch:Touch (fun q=>B (o q)) w w'
 same:∀ q,q < w.heap.size → ¬ B (o q) → o' q=o q
def gives (s i k m:Nat) (t:Tag):Tag:=if t=(s + 5,i,k) then (s + 9,m,0) else if t=(s + 6,i,k) then (s + 10,m,0) else t
end Go.Proofs.YtiplgdkpnhamaaaGreatDoor
namespace Go.Proofs.YtiplgdkpnhamaaaGreatDoor
open Go.RowKit
section
variable {τ:Type}
def updq (o:Nat → τ) (b:Nat) (t:τ):Nat → τ:=fun q=>if q=b then t else o q
theorem updq_same (o:Nat → τ) (b:Nat) (t:τ):updq o b t b=t:=by simp [updq]
theorem updq_other {o:Nat → τ} {b q:Nat} {t:τ} (h:q ≠ b):updq o b t q=o q:=by simp [updq,h]
structure Qc (w:World) (o:Nat → τ) (t:τ) (e:TypeId) (size:Nat) (v:Value) (n:Nat) (xs:List Value):Prop where
 row:Row w e size v n xs
 tag:∀ q,v.ownBlock=some q → o q=t
structure Qb (w:World) (o:Nat → τ) (t:τ) (b:Nat) (cs:List Value) (ty:TypeId):Prop where
 blk:Blk w b cs ty
 tag:o b=t
structure QT (A:τ → Prop) (w:World) (o:Nat → τ) (w':World) (o':Nat → τ):Prop where
 touch:Touch (fun q=>A (o q)) w w'
 same:∀ q,q < w.heap.size → o' q=o q
theorem QT.refl (A:τ → Prop) (w:World) (o:Nat → τ):QT A w o w o:=⟨Touch.refl _ _,fun _ _=>rfl⟩
theorem QT.trans {A:τ → Prop} {w w1 w2:World} {o o1 o2:Nat → τ} (h:QT A w o w1 o1) (k:QT A w1 o1 w2 o2):QT A w o w2 o2:=by
 refine ⟨h.touch.trans (k.touch.mono fun q hq ha=>?_),fun q hq=>(k.same q (Nat.lt_of_lt_of_le hq h.touch.size)).trans (h.same q hq)⟩
 by_cases hw:q < w.heap.size
 ·rw [h.same q hw] at ha; exact Or.inl ha
 ·exact Or.inr (by omega)
theorem QT.mono {A B:τ → Prop} {w w1:World} {o o1:Nat → τ} (h:QT A w o w1 o1) (hs:∀ t,A t → B t):QT B w o w1 o1:=⟨h.touch.mono fun _ _ ha=>hs _ ha,h.same⟩
theorem QT.size {A:τ → Prop} {w w1:World} {o o1:Nat → τ} (h:QT A w o w1 o1):w.heap.size ≤ w1.heap.size:=h.touch.size
theorem QT.drew {A:τ → Prop} {w w1:World} {o o1:Nat → τ} (h:QT A w o w1 o1):QT A w o w1.drew o1:=⟨h.touch.drew,h.same⟩
theorem QT.alloc {A:τ → Prop} {w w1:World} {o o1:Nat → τ} (h:QT A w o w1 o1) (b:Obj):QT A w o (w1.alloc b) o1:=⟨h.touch.alloc b,h.same⟩
theorem QT.set {A:τ → Prop} {w w1:World} {o o1:Nat → τ} {p:Addr} (h:QT A w o w1 o1) (hp:A (o1 p.block)) (u:Value):QT A w o (w1.setCell p u) o1:=by
 refine ⟨h.touch.setCell ?_ u,h.same⟩
 by_cases hw:p.block < w.heap.size
 ·rw [h.same _ hw] at hp; exact Or.inl hp
 ·exact Or.inr (by omega)
theorem QT.grew {A:τ → Prop} {w w1 w2:World} {o o1:Nat → τ} {row:Option Nat} {t:τ} (h:QT A w o w1 o1) (hg:w1.grownBy w2 row) (hr:∀ q,row=some q → o1 q=t) (ht:A t):QT A w o w2 (updq o1 w1.heap.size t):=by
 refine ⟨h.touch.grown hg fun q hq=>?_,fun q hq=>?_⟩
 ·by_cases hw:q < w.heap.size
  ·left
   have e:=hr q hq
   rw [h.same q hw] at e
   rw [e]; exact ht
  ·exact Or.inr (by omega)
 ·rw [updq_other (by have:=h.touch.size; omega)]; exact h.same q hq
theorem QT.below {A:τ → Prop} {w w1 w2:World} {o o1:Nat → τ} (h:QT A w o w1 o1) (hb:Below w1.heap.size w1 w2):QT A w o w2 o1:=
 ⟨h.touch.trans (Touch.ofBelow hb),h.same⟩
def own2q (o:Nat → τ) (s:Nat) (f:Nat → τ):Nat → τ:=fun q=>if q < s then o q else f q
theorem own2q_low {o f:Nat → τ} {s q:Nat} (h:q < s):own2q o s f q=o q:=by simp [own2q,h]
theorem own2q_high {o f:Nat → τ} {s q:Nat} (h:s ≤ q):own2q o s f q=f q:=by simp [own2q,show ¬ q < s by omega]
variable {w w':World} {o:Nat → τ} {t t':τ} {e e':TypeId} {size size' n n' b b':Nat} {v v' u:Value} {xs xs' cs:List Value} {ty:TypeId}
theorem Qc.lt (h:Qc w o t e size v n xs) {q:Nat} (hq:v.ownBlock=some q):q < w.heap.size:=h.row.lt hq
theorem Qc.move {o':Nat → τ} (h:Qc w o t e size v n xs) (hb:∀ q,q < w.heap.size → o q=t → w'.heap[q]? = w.heap[q]?) (ho:∀ q,q < w.heap.size → o' q=o q):Qc w' o' t e size v n xs:=
 ⟨h.row.move fun k hk=>hb k (h.lt hk) (h.tag k hk),fun q hq=>by rw [ho q (h.lt hq)]; exact h.tag q hq⟩
theorem Qb.move {o':Nat → τ} (h:Qb w o t b cs ty) (hb:∀ q,q < w.heap.size → o q=t → w'.heap[q]? = w.heap[q]?) (ho:∀ q,q < w.heap.size → o' q=o q):Qb w' o' t b cs ty:=
 ⟨h.blk.move (hb b h.blk.lt h.tag),by rw [ho b h.blk.lt]; exact h.tag⟩
theorem Qc.touch {A:τ → Prop} {o':Nat → τ} (h:Qc w o t e size v n xs) (k:QT A w o w' o') (ht:¬ A t):Qc w' o' t e size v n xs:=
 h.move (fun q hq e=>k.touch.block q hq (by rw [e]; exact ht)) k.same
theorem Qb.touch {A:τ → Prop} {o':Nat → τ} (h:Qb w o t b cs ty) (k:QT A w o w' o') (ht:¬ A t):Qb w' o' t b cs ty:=
 h.move (fun q hq e=>k.touch.block q hq (by rw [e]; exact ht)) k.same
theorem Qb.grew {row:Option Nat} (h:Qb w o t b cs ty) (hg:w.grownBy w' row) (hr:∀ q,row=some q → o q=t') (hne:t ≠ t'):Qb w' (updq o w.heap.size t') t b cs ty:=
 h.move (fun q hq e=>hg.block q hq (fun c=>hne (by rw [← e,hr q c.symm]))) (fun q hq=>updq_other (by omega))
theorem Qc.app (h:Qc w o t e size v n xs) (hrow:w'.ownsRow 0 e size v' n' xs') (hat:v'.ownBlock=v.ownBlock ∨ v'.ownBlock=some w.heap.size):Qc w' (updq o w.heap.size t) t e size v' n' xs':=by
 refine ⟨hrow,fun q hq=>?_⟩
 rcases hat with a | a
 ·have hq':v.ownBlock=some q:=by rw [← a]; exact hq
  rw [updq_other (by have:=h.lt hq'; omega)]; exact h.tag q hq'
 ·rw [a] at hq; cases hq; exact updq_same _ _ _
theorem Qc.set (h:Qc w o t e size v n xs) {p:Addr} (hp:o p.block=t') (hne:t ≠ t') (x:Value):Qc (w.setCell p x) o t e size v n xs:=
 ⟨h.row.other (fun c=>hne (by rw [← h.tag _ c,hp])) x,h.tag⟩
theorem Qb.other (h:Qb w o t b cs ty) {p:Addr} (hp:o p.block=t') (hne:t ≠ t') (x:Value):Qb (w.setCell p x) o t b cs ty:=
 ⟨h.blk.other (fun c=>hne (by rw [← h.tag,c,hp])) x,h.tag⟩
theorem Qb.set (h:Qb w o t b cs ty) (j:Nat) (x:Value):Qb (w.setCell ⟨b,j,none⟩ x) o t b (cs.set j x) ty:=⟨h.blk.set j x,h.tag⟩
theorem Qc.alloc (h:Qc w o t e size v n xs) (ob:Obj):Qc (w.alloc ob) o t e size v n xs:=⟨World.ownsRow.alloc h.row ob,h.tag⟩
theorem Qb.alloc (h:Qb w o t b cs ty) (ob:Obj):Qb (w.alloc ob) o t b cs ty:=⟨h.blk.alloc ob,h.tag⟩
theorem Qb.drew (h:Qb w o t b cs ty):Qb w.drew o t b cs ty:=⟨h.blk,h.tag⟩
theorem Qc.below (h:Qc w o t e size v n xs) (hb:Below w.heap.size w w'):Qc w' o t e size v n xs:=⟨h.row.below hb,h.tag⟩
theorem Qb.below (h:Qb w o t b cs ty) (hb:Below w.heap.size w w'):Qb w' o t b cs ty:=⟨h.blk.below hb,h.tag⟩
theorem Qc.move2 {o':Nat → τ} (h:Qc w o t e size v n xs) (hb:∀ q,q < w.heap.size → o q=t → w'.heap[q]? = w.heap[q]? ∧ o' q=t):Qc w' o' t e size v n xs:=
 ⟨h.row.move fun k hk=>(hb k (h.lt hk) (h.tag k hk)).1,fun q hq=>(hb q (h.lt hq) (h.tag q hq)).2⟩
theorem Qb.move2 {o':Nat → τ} (h:Qb w o t b cs ty) (hb:∀ q,q < w.heap.size → o q=t → w'.heap[q]? = w.heap[q]? ∧ o' q=t):Qb w' o' t b cs ty:=
 ⟨h.blk.move (hb b h.blk.lt h.tag).1,(hb b h.blk.lt h.tag).2⟩
end
end Go.Proofs.YtiplgdkpnhamaaaGreatDoor
namespace Go.Proofs.YtiplgdkpnhamaaaGreatDoor
open Go.RowKit
open Go.Maps (Keyed)
open Go.ChangeMaps Go.MapKept Go.WideShapes
open Go.WideElems (Fit rd rg pl rd_key rd_val rg_of other_key)
section
variable {α β:Type} {w w':World} {k t e:TypeId} {b n r cnt:Nat} {kv:α → Value} {ev:β → Value} {m:α → Option β} {left:α → Bool}
theorem owns_tight {n':Nat} {D:DataW Value} (h:w.ownsMap Tryz.prog k rawElem b n D) (hs:Maps.size D ≤ n'):w.ownsMap Tryz.prog k rawElem b n' D:=by
 obtain ⟨es,clock,hb,F,_,rfl⟩:=h
 exact ⟨es,clock,hb,F,by simpa [Maps.size,length_sorted] using hs,rfl⟩
theorem MapIn.mono {n':Nat} (h:MapIn w k b n kv ev m) (hn:n ≤ n'):MapIn w k b n' kv ev m:=by
 obtain ⟨D,hD,r⟩:=h.ex
 exact ⟨D,hD.mono hn,r⟩
theorem MapIn.store_old [DecidableEq α] (h:MapIn w k b n kv ev m) (K:Keyed Tryz.prog k) (ht:Tryz.prog.underlying t=some (.map k e)) (hinj:∀ a a',kv a=kv a' → a=a') (hn:n < maxLen) {a:α} {kl:Lit} (hkey:keyOf Tryz.prog k (kv a)=some kl) {y:β} (hm:m a=some y) (x:β) :
  ∃ w',(Instr.mapUpdate t (.map (some b)) (kv a) (ev x)).run Tryz.prog w=.ok () w' ∧ MapIn w' k b n kv ev (fun a'=>if a'=a then some x else m a') ∧ w.grownBy w' (some b):=by
 obtain ⟨D,hD,hat,hall⟩:=h.ex
 obtain ⟨w1,hrun1,hD1,hg1⟩:=hD.update K ht hn (d:=.held (ev x)) (ps:=[]) hkey rfl
 have hsz:Maps.size (D.put kl (.held (ev x))) ≤ n:=by
  rw [Maps.size_put (hD.tidy K),(hat a kl hkey).1,hm]
  exact hD.size_le
 have hD':=owns_tight hD1 hsz
 refine ⟨w1,hrun1,⟨_,hD',fun a' kl' hk'=>?_,fun kl' hh=>?_⟩,hg1⟩
 ·by_cases c:a'=a
  ·subst c
   rw [hkey] at hk'
   cases hk'
   rw [if_pos rfl]
   refine ⟨Maps.has_put_same hD.isMap (K.key hkey) _,fun y hy z=>?_⟩
   cases hy
   exact Maps.atKey_put_same hD.isMap (K.key hkey) _ _
  ·have hne:kl' ≠ kl:=fun e=>c (hinj _ _ (K.inj hk' (e ▸ hkey)))
   rw [if_neg c,Maps.has_put_other hne]
   obtain ⟨h1,h2⟩:=hat a' kl' hk'
   refine ⟨h1,fun y hy z=>?_⟩
   rw [Maps.atKey_put_other hne]
   exact h2 y hy z
 ·by_cases c:kl'=kl
  ·subst c; exact ⟨a,x,hkey,by rw [if_pos rfl]⟩
  ·rw [Maps.has_put_other c] at hh
   obtain ⟨a',y,ha',hy⟩:=hall kl' hh
   refine ⟨a',y,ha',?_⟩
   rw [if_neg (fun e=>c (by rw [e,hkey] at ha'; exact (Option.some.inj ha').symm))]
   exact hy
theorem MapIn.len (h:MapIn w k b n kv ev m) (ht:Tryz.prog.underlying t=some (.map k e)) (ty:TypeId):∃ c:Nat,c ≤ n ∧ (c=0 → ∀ a kl,keyOf Tryz.prog k (kv a)=some kl → m a=none) ∧ ∀ W:World,W.heap[b]? = w.heap[b]? → (Builtin.len_ #[t] ty #[.map (some b)]).run Tryz.prog W=.ok (.int .i64 c) W:=by
 obtain ⟨D,hD,hat,-⟩:=h.ex
 refine ⟨Maps.size D,hD.size_le,fun h0 a kl hk=>?_,fun W hW=>?_⟩
 ·have h1:=(hat a kl hk).1
  have h2:Maps.has D kl=false:=by
   obtain ⟨es,clock,hb,F,hs,rfl⟩:=hD
   have:(List.foldr DataW.insert [] (List.map (rg Tryz.prog k rawElem) es.toList))=[]:=List.eq_nil_of_length_eq_zero h0
   rw [this]; rfl
  rw [h2] at h1
  cases hm:m a
  ·rfl
  ·rw [hm] at h1; cases h1
 ·obtain ⟨es,clock,hb,F,hs,hDe⟩:=hD
  exact World.ownsMap.len (w:=W) (n:=n) (R:=rawElem) (D:=D) ⟨es,clock,hW.trans hb,F,hs,hDe⟩ ht ty
structure RngIn (w:World) (k:TypeId) (b r n:Nat) (kv:α → Value) (ev:β → Value) (m:α → Option β) (left:α → Bool) (cnt:Nat):Prop where
 ex:∃ D L,w.ranges Tryz.prog k rawElem b r n D L cnt ∧ (∀ a kl,keyOf Tryz.prog k (kv a)=some kl → Maps.has D kl=(m a).isSome ∧ ∀ x,m a=some x → ∀ z,D.atKey kl z=.held (ev x)) ∧ (∀ kl,Maps.has D kl=true → ∃ a x,keyOf Tryz.prog k (kv a)=some kl ∧ m a=some x) ∧ ∀ a kl,keyOf Tryz.prog k (kv a)=some kl → left a=L kl
theorem RngIn.map (h:RngIn w k b r n kv ev m left cnt):MapIn w k b n kv ev m:=by
 obtain ⟨D,L,hr,h1,h2,-⟩:=h.ex
 exact ⟨D,hr.owns,h1,h2⟩
theorem RngIn.move (h:RngIn w k b r n kv ev m left cnt) (hb:w'.heap[b]? = w.heap[b]?) (hr:w'.heap[r]? = w.heap[r]?):RngIn w' k b r n kv ev m left cnt:=by
 obtain ⟨D,L,⟨es,clock,since,seen,c0,x1,F,hs,hD,x2,rest⟩,h1⟩:=h.ex
 exact ⟨D,L,⟨es,clock,since,seen,c0,hb.trans x1,F,hs,hD,hr.trans x2,rest⟩,h1⟩
theorem RngIn.lt (h:RngIn w k b r n kv ev m left cnt):r < w.heap.size:=by obtain ⟨D,L,hr,-⟩:=h.ex; exact hr.lt
theorem RngIn.left_eq (h:RngIn w k b r n kv ev m left cnt):w.rangeLeft b r=cnt:=by obtain ⟨D,L,hr,-⟩:=h.ex; exact hr.left_eq
theorem MapIn.range (h:MapIn w k b n kv ev m) (K:Keyed Tryz.prog k) (ht:Tryz.prog.underlying t=some (.map k e)) :
  ∃ w' cnt,(Instr.range t (.map (some b))).run Tryz.prog w=.ok (.pointer (some ⟨w.heap.size,0,none⟩)) w' ∧ RngIn w' k b w.heap.size n kv ev m (fun a=>(m a).isSome) cnt ∧ cnt ≤ n ∧ w.grownBy w' none ∧ w'.heap.size=w.heap.size + 1:=by
 obtain ⟨D,hD,h1,h2⟩:=h.ex
 obtain ⟨w',hrun,hr,hg,hs⟩:=hD.range K ht
 exact ⟨w',_,hrun,⟨D,_,hr,h1,h2,fun a kl hk=>(h1 a kl hk).1.symm⟩,hD.size_le,hg,hs⟩
theorem ranges_has {P:Program} {D:DataW Value} {L:Lit → Bool} (h:w.ranges P k rawElem b r n D L cnt) (K:Keyed P k) {kl:Lit} (hl:L kl=true):Maps.has D kl=true:=by
 obtain ⟨es,clock,since,seen,c0,hb,F,hs,rfl,hr,hold,hc,hl1,hl2,-⟩:=h
 obtain ⟨x,hx,rfl⟩:=hl2 kl hl
 obtain ⟨y,hy⟩:=F.reads x hx
 exact List.any_eq_true.2 ⟨rg P k rawElem x,mem_sorted.2 (List.mem_map.2 ⟨x,hx,rfl⟩),WideAt.sameKey_self (by rw [rg_of hy]; exact K.key (rd_key hy))⟩
set_option maxRecDepth 100000 in
theorem RngIn.next [DecidableEq α] (h:RngIn w k b r n kv ev m left cnt) (K:Keyed Tryz.prog k) (hinj:∀ a a',kv a=kv a' → a=a') (ty:TypeId) :
  (cnt=0 ∧ (∀ a kl,keyOf Tryz.prog k (kv a)=some kl → left a=false) ∧ (Instr.next (.pointer (some ⟨r,0,none⟩)) false ty).run Tryz.prog w=.ok (.tuple #[.bool false]) w) ∨
  ∃ a x w' cnt',(∃ kl,keyOf Tryz.prog k (kv a)=some kl) ∧ left a=true ∧ m a=some x ∧ (Instr.next (.pointer (some ⟨r,0,none⟩)) false ty).run Tryz.prog w=.ok (.tuple #[.bool true,kv a,ev x]) w' ∧
   RngIn w' k b r n kv ev m (fun a'=>left a' && !decide (a'=a)) cnt' ∧ cnt' < cnt ∧ w.grownBy w' (some r) ∧ w'.heap.size=w.heap.size ∧ (Instr.entry (.pointer (some ⟨r,0,none⟩))).run Tryz.prog w'=.ok (.tuple #[kv a,ev x]) w':=by
 obtain ⟨D,L,hr,h1,h2,h3⟩:=h.ex
 rcases hr.next K ty with ⟨h0,hl,hrun⟩ | ⟨key,v,kl,y,w',cnt',hkey,hlk,hv,hat,hrun,hrg,hlt,hgr,hsz,hen⟩
 ·exact Or.inl ⟨h0,fun a kl hk=>(h3 a kl hk).trans (hl kl),hrun⟩
 ·obtain ⟨a,x,ha,hx⟩:=h2 kl (ranges_has hr K hlk)
  have e1:key=kv a:=K.inj hkey ha
  subst e1
  have e2:v=ev x:=by
   have a1:=(h1 a kl ha).2 x hx (.held (ev x))
   rw [hat] at a1
   have a2:y=(.held v,[]):=(Option.some.inj hv).symm
   rw [a2] at a1
   exact DataW.held.inj a1
  subst e2
  refine Or.inr ⟨a,x,w',cnt',⟨kl,ha⟩,(h3 a kl ha).trans hlk,hx,hrun,⟨D,_,hrg,h1,h2,fun a' kl' hk'=>?_⟩,hlt,hgr,hsz,hen⟩
  show (left a' && !decide (a'=a))=(L kl' && !kl'.sameKey kl)
  rw [h3 a' kl' hk']
  congr 2
  by_cases c:a'=a
  ·subst c
   rw [ha] at hk'
   cases hk'
   rw [WideAt.sameKey_self (K.key ha)]
   simp
  ·have:kl'.sameKey kl=false:=by
    cases hs:kl'.sameKey kl
    ·rfl
    ·have e:=WideAt.sameKey_eq hs
     subst e
     exact absurd (hinj _ _ (K.inj hk' ha)) c
   rw [this]; simp [c]
end
end Go.Proofs.YtiplgdkpnhamaaaGreatDoor
namespace Go.Proofs.YtiplgdkpnhamaaaGreatDoor
open Go.RowKit
abbrev ptr (b:Nat):Value:=.pointer (some ⟨b,0,none⟩)
def newD (n:Nat):DRep:=⟨[],List.replicate n 0,fun _=>none⟩
structure Room (d:DRep):Prop where
 hist:d.hs.length ≤ 1100000
 vis:∀ j (hj:j < d.vis.length),0 ≤ d.vis[j] ∧ d.vis[j] ≤ 1100000
section
variable {PR:World → (Nat → Tag) → Tag → Nat → Nat → Nat → DRep → Prop} {w w':World} {o o':Nat → Tag} {s wb gb n m i:Nat} {pb rb:List Nat} {rsv way tv mv nv kv:Value} {cnt:Int} {dp dr:List DRep} {ts:List RTx}
theorem moved_new {B:Tag → Prop} (w:World) (o:Nat → Tag) (ob:Obj) (t:Tag):Moved B w o (w.alloc ob) (upd o w.heap.size t):=
 ⟨⟨rfl,rfl,rfl,by simp,fun q hq _=>Below.heap_alloc w ob q hq⟩,fun q hq _=>upd_other (by omega)⟩
end
end Go.Proofs.YtiplgdkpnhamaaaGreatDoor
namespace Go.Proofs.YtiplgdkpnhamaaaGreatDoor
open Go.RowKit
open Go.Maps (Keyed)
theorem zero_len (z:Array Value) (n:Nat):(Builtin.zeroCells z n).toList.length=n * z.size:=by simp [Builtin.zeroCells]
theorem zero_one {z:Array Value} (h:∀ u ∈ z.toList,u.oneCell'=true) (n:Nat):∀ u ∈ (Builtin.zeroCells z n).toList,u.oneCell'=true:=by
 intro u hu
 simp only [Builtin.zeroCells,Array.toList_map,List.mem_map] at hu
 obtain ⟨i,hi,rfl⟩:=hu
 have hi':i < n * z.size:=by simpa using hi
 have hz:0 < z.size:=by
  rcases Nat.eq_zero_or_pos z.size with c | c
  ·rw [c] at hi'; omega
  ·exact c
 have hm:=Nat.mod_lt i hz
 rw [getElem!_pos z _ hm]
 exact h _ (by simp)
theorem clear_row {P:Program} {w:World} {e t ty:TypeId} {size g n cap i:Nat} {xs:List Value} {z:Value} (ht:P.underlying t=some (.slice e)) (hv:∀ w,(zeroValue e).run P w=.ok z w) (hzs:z.cells.size=size) (h1:∀ u ∈ z.cells.toList,u.oneCell'=true)
  (hrow:Row w e size (.slice (some ⟨g,0,none⟩) n cap) n xs) (hi:i < n) :
  ∃ w',(Builtin.clear_ #[t] ty #[.slice (some ⟨g,i * size,none⟩) (n - i) (cap - i)]).run P w=.ok (.tuple #[]) w' ∧ Row w' e size (.slice (some ⟨g,0,none⟩) i cap) i (xs.take (i * size)) ∧ w.grownBy w' (some g):=by
 rcases hrow.2 with ⟨h',-⟩ | ⟨g',cap',cur,h',-,hg,hnc,hcm,hcs,htake⟩
 ·cases h'
 ·cases h'
  have hlen:=zero_len z.cells (n - i)
  rw [hzs] at hlen
  have hle:i * size + (n - i) * size ≤ cap * size:=by rw [← Nat.add_mul]; exact Nat.mul_le_mul_right _ (by omega)
  have hin:i * size ≤ n * size:=Nat.mul_le_mul_right _ (by omega)
  have hst:=run_storeCells_at (P:=P) g (i * size) e (Builtin.zeroCells z.cells (n - i)).toList 0 cur w hg (by rw [hlen,hcs]; omega) (zero_one h1 _)
  rw [Nat.add_zero] at hst
  refine ⟨w.setRow g (cur.toList.take (i * size) ++ (Builtin.zeroCells z.cells (n - i)).toList ++ cur.toList.drop (i * size + (Builtin.zeroCells z.cells (n - i)).toList.length)).toArray,?_,⟨?_,.inr ⟨g,cap,_,rfl,Nat.zero_le _,setRow_heap w g cur _ e _ hg,by omega,hcm,?_,?_⟩⟩,⟨rfl,rfl,rfl,by simp,fun k _ hk=>setRow_other w g k _ (fun e=>hk (by rw [e]))⟩⟩
  ·obtain ⟨m,hm⟩:∃ m,n - i=m + 1:=⟨n - i - 1,by omega⟩
   rw [hm] at hst ⊢
   simp [Builtin.clear_,run_underlying ht,hv,hst]
  ·rw [List.length_take,hrow.1]; omega
  ·rw [List.size_toArray,List.length_append,List.length_append,hlen,List.length_take,List.length_drop,Array.length_toList,hcs]; omega
  ·show ((cur.toList.take (i * size) ++ (Builtin.zeroCells z.cells (n - i)).toList) ++ cur.toList.drop (i * size + (Builtin.zeroCells z.cells (n - i)).toList.length)).take (i * size)=xs.take (i * size)
   rw [List.append_assoc,List.take_append_of_le_length (by rw [List.length_take,Array.length_toList,hcs]; omega),← htake,List.take_take,List.take_take]
   congr 1; omega
section
variable {P:Program} {ops:Array Oper} {rest:List Oper} {o:Oper} {a:Act} {Q:Exit → Act → World → Prop} {w:World}
end
section
variable {α β:Type} {ops:Array Oper} {rest:List Oper} {o:Oper} {a:Act} {Q:Exit → Act → World → Prop} {w:World} {k t e:TypeId} {b n:Nat} {kv:α → Value} {ev:β → Value} {m:α → Option β}
end
end Go.Proofs.YtiplgdkpnhamaaaGreatDoor
namespace Go.Proofs.YtiplgdkpnhamaaaGreatDoor
open Go.RowKit
theorem seesV_mono {v vis:List Int} (h:∀ r,v.getD r 0 ≤ vis.getD r 0) {r s:Int} (hs:seesV v r s=true):seesV vis r s=true:=by
 unfold seesV at hs ⊢
 rw [decide_eq_true_eq] at hs ⊢
 exact Int.le_trans hs (h _)
theorem foldl_any {α:Type} (f:α → Bool):∀ (l:List α) (b:Bool),l.foldl (fun acc u=>acc || f u) b=(b || l.any f)
 | [],b=>by simp
 | a :: l,b=>by simp [foldl_any f l,Bool.or_assoc]
theorem overOf_any (v:List Int) (key:ByteArray) (t:RTx) (l:List RTx):overOf v key t l=l.any fun u=>seesV v u.rep u.seq && seesV u.saw t.rep t.seq && (lastOf key noEl u.ops).isSome:=by
 unfold overOf
 have e:overStep v key t=fun acc u=>acc || (seesV v u.rep u.seq && seesV u.saw t.rep t.seq && (lastOf key noEl u.ops).isSome):=by funext acc u; rfl
 rw [e,foldl_any]; simp
theorem goneOf_any (v:List Int) (key el:ByteArray) (t:RTx) (l:List RTx):goneOf v key el t l=l.any fun u=>seesV v u.rep u.seq && seesV u.saw t.rep t.seq && (lastOf key el u.ops).isSome && decide (lastKind (lastOf key el u.ops)=4):=by
 unfold goneOf
 have e:goneStep v key el t=fun acc u=>acc || (seesV v u.rep u.seq && seesV u.saw t.rep t.seq && (lastOf key el u.ops).isSome && decide (lastKind (lastOf key el u.ops)=4)):=by funext acc u; rfl
 rw [e,foldl_any]; simp
theorem any_same {α:Type} {f g:α → Bool} {l ts:List α} (hp:l.Perm (ts.filter g)) (hfg:∀ u,f u=true → g u=true):l.any f=ts.any f:=by
 rw [Bool.eq_iff_iff,List.any_eq_true,List.any_eq_true]
 constructor
 ·rintro ⟨u,hu,hf⟩
  exact ⟨u,(List.mem_filter.1 (hp.mem_iff.1 hu)).1,hf⟩
 ·rintro ⟨u,hu,hf⟩
  exact ⟨u,hp.mem_iff.2 (List.mem_filter.2 ⟨hu,hfg u hf⟩),hf⟩
theorem over_same {v vis:List Int} {key:ByteArray} {t:RTx} {l ts:List RTx} (hp:l.Perm (ts.filter fun u=>seesV vis u.rep u.seq)) (hv:∀ r,v.getD r 0 ≤ vis.getD r 0):overOf v key t l=overOf v key t ts:=by
 rw [overOf_any,overOf_any]
 exact any_same hp fun u hu=>seesV_mono hv (by simp only [Bool.and_eq_true] at hu; exact hu.1.1)
theorem gone_same {v vis:List Int} {key el:ByteArray} {t:RTx} {l ts:List RTx} (hp:l.Perm (ts.filter fun u=>seesV vis u.rep u.seq)) (hv:∀ r,v.getD r 0 ≤ vis.getD r 0):goneOf v key el t l=goneOf v key el t ts:=by
 rw [goneOf_any,goneOf_any]
 exact any_same hp fun u hu=>seesV_mono hv (by simp only [Bool.and_eq_true] at hu; exact hu.1.1.1)
def csum (v:List Int) (key:ByteArray) (l:List RTx):Int:=(l.map fun t=>if seesV v t.rep t.seq then sumOf key t.ops else 0).sum
theorem wrap_add (a b:Int):wrap64 (wrap64 a + b)=wrap64 (a + b):=by unfold wrap64; omega
theorem counter_csum (v:List Int) (key:ByteArray) (l:List RTx):counterOf v key l=wrap64 (csum v key l):=by
 have:∀ (l:List RTx) (a:Int),l.foldl (fun n t=>if seesV v t.rep t.seq then wrap64 (n + sumOf key t.ops) else n) (wrap64 a)=wrap64 (a + csum v key l):=by
  intro l
  induction l with
  | nil=>intro a; simp [csum]
  | cons t l ih=>
   intro a
   rw [List.foldl_cons]
   have e:csum v key (t :: l)=(if seesV v t.rep t.seq then sumOf key t.ops else 0) + csum v key l:=by simp [csum]
   rw [e]
   by_cases h:seesV v t.rep t.seq=true
   ·rw [if_pos h,if_pos h,wrap_add,ih,Int.add_assoc]
   ·rw [if_neg h,if_neg h,ih]; congr 1; omega
 have h:=this l 0
 rw [Int.zero_add,show wrap64 0=0 by unfold wrap64; omega] at h
 exact h
theorem sum_perm {l l':List Int} (h:l.Perm l'):l.sum=l'.sum:=by
 induction h with
 | nil=>rfl
 | cons x _ ih=>simp [ih]
 | swap x y l=>simp; omega
 | trans _ _ h1 h2=>exact h1.trans h2
theorem csum_filter (v vis:List Int) (key:ByteArray) (hv:∀ r,v.getD r 0 ≤ vis.getD r 0):∀ ts:List RTx,csum v key (ts.filter fun u=>seesV vis u.rep u.seq)=csum v key ts
 | []=>rfl
 | t :: ts=>by
  have ih:=csum_filter v vis key hv ts
  have e:csum v key (t :: ts)=(if seesV v t.rep t.seq then sumOf key t.ops else 0) + csum v key ts:=by simp [csum]
  rw [e,List.filter_cons]
  by_cases h:seesV vis t.rep t.seq=true
  ·rw [if_pos h]
   have e2:csum v key (t :: ts.filter fun u=>seesV vis u.rep u.seq)=(if seesV v t.rep t.seq then sumOf key t.ops else 0) + csum v key (ts.filter fun u=>seesV vis u.rep u.seq):=by simp [csum]
   rw [e2,ih]
  ·rw [if_neg h,ih,if_neg (fun c=>h (seesV_mono hv c))]; omega
theorem counter_same {v vis:List Int} {key:ByteArray} {l ts:List RTx} (hp:l.Perm (ts.filter fun u=>seesV vis u.rep u.seq)) (hv:∀ r,v.getD r 0 ≤ vis.getD r 0):counterOf v key l=counterOf v key ts:=by
 rw [counter_csum,counter_csum,← csum_filter v vis key hv ts]
 congr 1
 exact sum_perm (hp.map _)
theorem uniq_eq {ts:List RTx} (hu:ts.Pairwise fun u v=>¬ (u.rep=v.rep ∧ u.seq=v.seq)) {a b:RTx} (ha:a ∈ ts) (hb:b ∈ ts) (h:a.rep=b.rep ∧ a.seq=b.seq):a=b:=by
 obtain ⟨i,hi,rfl⟩:=List.mem_iff_getElem.1 ha
 obtain ⟨j,hj,rfl⟩:=List.mem_iff_getElem.1 hb
 rw [List.pairwise_iff_getElem] at hu
 rcases Nat.lt_trichotomy i j with c | c | c
 ·exact absurd h (hu i j hi hj c)
 ·subst c; rfl
 ·exact absurd ⟨h.1.symm,h.2.symm⟩ (hu j i hj hi c)
theorem find_one {l ts:List RTx} (hu:ts.Pairwise fun u v=>¬ (u.rep=v.rep ∧ u.seq=v.seq)) (hsub:∀ u,u ∈ l → u ∈ ts) {r s:Int} {u:RTx} (hul:u ∈ l) (hd:isDot r s u=true):findTx l r s=u:=by
 obtain ⟨i,hi,h1,-,h3⟩:=findTx_at ⟨u,hul,hd⟩
 rw [h3]
 unfold isDot at h1 hd
 rw [decide_eq_true_eq] at h1 hd
 exact uniq_eq hu (hsub _ (List.getElem_mem hi)) (hsub u hul) ⟨h1.1.trans hd.1.symm,h1.2.trans hd.2.symm⟩
theorem regRow_same {v vis:List Int} {key:ByteArray} {l ts:List RTx} {r:Nat} (hp:l.Perm (ts.filter fun u=>seesV vis u.rep u.seq)) (hv:∀ r,v.getD r 0 ≤ vis.getD r 0) (hu:ts.Pairwise fun u v=>¬ (u.rep=v.rep ∧ u.seq=v.seq))
  (hfull:∀ s:Nat,(s:Int) + 1 ≤ vis.getD r 0 → ∃ u,u ∈ ts ∧ isDot (r:Int) ((s:Int) + 1) u=true):∀ m:Nat,(m:Int) ≤ v.getD r 0 → regRow v key l r m=regRow v key ts r m
 | 0,_=>rfl
 | m + 1,hm=>by
  rw [regRow_succ,regRow_succ,regRow_same hp hv hu hfull m (by omega)]
  congr 1
  have hvr:=hv r
  obtain ⟨u,hut,hd⟩:=hfull m (by omega)
  have hd':=hd
  unfold isDot at hd'
  rw [decide_eq_true_eq] at hd'
  have hul:u ∈ l:=hp.mem_iff.2 (List.mem_filter.2 ⟨hut,by
   unfold seesV
   rw [decide_eq_true_eq,hd'.1,hd'.2]
   simp only [Int.toNat_natCast]
   omega⟩)
  rw [find_one hu (fun x hx=>(List.mem_filter.1 (hp.mem_iff.1 hx)).1) hul hd,find_one hu (fun x hx=>hx) hut hd]
  unfold regAt
  rw [over_same hp hv]
theorem register_same {v vis:List Int} {key:ByteArray} {l ts:List RTx} (hp:l.Perm (ts.filter fun u=>seesV vis u.rep u.seq)) (hv:∀ r,v.getD r 0 ≤ vis.getD r 0) (hu:ts.Pairwise fun u v=>¬ (u.rep=v.rep ∧ u.seq=v.seq)) (n:Nat)
  (hfull:∀ r,r < n → ∀ s:Nat,(s:Int) + 1 ≤ vis.getD r 0 → ∃ u,u ∈ ts ∧ isDot (r:Int) ((s:Int) + 1) u=true) (hpos:∀ r,0 ≤ v.getD r 0):∀ k,k ≤ n → registerOf v key l k=registerOf v key ts k
 | 0,_=>rfl
 | k + 1,hk=>by
  have h0:=hpos k
  rw [registerOf_succ,registerOf_succ,register_same hp hv hu n hfull hpos k (by omega),regRow_same hp hv hu (hfull k (by omega)) _ (by omega)]
end Go.Proofs.YtiplgdkpnhamaaaGreatDoor
namespace Go.Proofs.YtiplgdkpnhamaaaGreatDoor
open Go.RowKit
def idxP {α:Type} (p:α → Bool) (l:List α):Int:=match l.findIdx? p with | some k=>(k:Int) | none=>-1
theorem idxP_none {α:Type} {p:α → Bool} {l:List α} (h:∀ j (hj:j < l.length),p l[j]=false):idxP p l=-1:=by
 unfold idxP
 have:l.findIdx? p=none:=by
  rw [List.findIdx?_eq_none_iff]
  intro x hx
  obtain ⟨j,hj,rfl⟩:=List.mem_iff_getElem.1 hx
  exact h j hj
 rw [this]
theorem idxP_some {α:Type} {p:α → Bool} {l:List α} {k:Nat} (hk:k < l.length) (hp:p l[k]=true) (h:∀ j (hj:j < l.length),j < k → p l[j]=false):idxP p l=k:=by
 unfold idxP
 have:l.findIdx? p=some k:=by
  rw [List.findIdx?_eq_some_iff_getElem]
  exact ⟨hk,hp,fun j hj=>by simp [h j (by omega) hj]⟩
 rw [this]
theorem idxP_cases {α:Type} (p:α → Bool) (l:List α):(idxP p l=-1 ∧ l.filter (fun x=>!p x)=l) ∨ ∃ k,∃ hk:k < l.length,idxP p l=k ∧ p l[k]=true ∧ (l.take k).filter (fun x=>!p x)=l.take k:=by
 unfold idxP
 cases e:l.findIdx? p with
 | none=>
  refine Or.inl ⟨rfl,?_⟩
  rw [List.filter_eq_self]
  intro a ha
  rw [List.findIdx?_eq_none_iff] at e
  simp [e a ha]
 | some k=>
  rw [List.findIdx?_eq_some_iff_getElem] at e
  obtain ⟨hk,hp,hno⟩:=e
  refine Or.inr ⟨k,hk,rfl,hp,?_⟩
  rw [List.filter_eq_self]
  intro a ha
  obtain ⟨j,hj,rfl⟩:=List.mem_iff_getElem.1 ha
  rw [List.length_take] at hj
  rw [List.getElem_take]
  have:=hno j (by omega)
  simpa using this
structure Str {α:Type} (p:α → Bool) (l xs:List α) (i j:Nat):Prop where
 lt:i < j
 le:j ≤ l.length
 len:xs.length=l.length
 low:xs.take i=(l.take j).filter fun x=>!p x
 high:∀ k (hk:k < l.length),j ≤ k → xs[k]? = some l[k]
section
variable {α:Type} {p:α → Bool} {l xs:List α} {i j k:Nat}
theorem Str.start (hk:k < l.length) (hp:p l[k]=true) (h:(l.take k).filter (fun x=>!p x)=l.take k):Str p l l k (k + 1):=by
 refine ⟨by omega,by omega,rfl,?_,fun q hq _=>by simp [hq]⟩
 rw [List.take_succ_eq_append_getElem hk,List.filter_append,h]
 simp [hp]
theorem Str.keep (h:Str p l xs i j) (hj:j < l.length) (hp:p l[j]=false):Str p l (xs.set i l[j]) (i + 1) (j + 1):=by
 have hlt:=h.lt
 have hlen:=h.len
 refine ⟨by omega,by omega,by rw [List.length_set]; exact hlen,?_,fun q hq hle=>?_⟩
 ·rw [List.take_succ_eq_append_getElem (by rw [List.length_set]; omega),List.take_set_of_le (by omega),h.low,List.take_succ_eq_append_getElem hj,List.filter_append]
  simp [hp]
 ·rw [List.getElem?_set_ne (by omega)]; exact h.high q hq (by omega)
theorem Str.skip (h:Str p l xs i j) (hj:j < l.length) (hp:p l[j]=true):Str p l xs i (j + 1):=by
 have hlt:=h.lt
 refine ⟨by omega,by omega,h.len,?_,fun q hq hle=>h.high q hq (by omega)⟩
 rw [h.low,List.take_succ_eq_append_getElem hj,List.filter_append]
 simp [hp]
theorem Str.done (h:Str p l xs i l.length):xs.take i=l.filter (fun x=>!p x) ∧ i=(l.filter fun x=>!p x).length ∧ i < l.length:=by
 have h1:=h.low
 rw [List.take_length] at h1
 have hlt:=h.lt
 have hlen:=h.len
 refine ⟨h1,?_,hlt⟩
 rw [← h1,List.length_take]; omega
end
theorem flat_take {α:Type} (f:α → List Value) (s:Nat) (hf:∀ a,(f a).length=s):∀ (l:List α) (i:Nat),(l.flatMap f).take (i * s)=(l.take i).flatMap f
 | [],i=>by simp
 | a :: l,0=>by simp
 | a :: l,i + 1=>by
  have ih:=flat_take f s hf l i
  rw [List.take_succ_cons,List.flatMap_cons,List.flatMap_cons,List.take_append,hf,List.take_of_length_le (by rw [hf,Nat.add_mul]; omega),← ih]
  congr 2
  rw [Nat.add_mul]; omega
end Go.Proofs.YtiplgdkpnhamaaaGreatDoor
namespace Go.Proofs.YtiplgdkpnhamaaaGreatDoor
open Go.RowKit
theorem less_irr:∀ a:List UInt8,Op.bytesLess a a=false
 | []=>rfl
 | x :: a=>by simp [Op.bytesLess,less_irr a]
theorem less_trans:∀ {a b c:List UInt8},Op.bytesLess a b=true → Op.bytesLess b c=true → Op.bytesLess a c=true
 | _,[],_,h,_=>by simp [Op.bytesLess] at h
 | _,_ :: _,[],_,h=>by simp [Op.bytesLess] at h
 | [],_ :: _,_ :: _,_,_=>rfl
 | x :: a,y :: b,z :: c,h1,h2=>by
  simp only [Op.bytesLess,Bool.or_eq_true,decide_eq_true_eq,Bool.and_eq_true,beq_iff_eq] at h1 h2 ⊢
  rcases h1 with h1 | ⟨rfl,h1⟩
  ·rcases h2 with h2 | ⟨rfl,h2⟩
   ·exact Or.inl (UInt8.lt_trans h1 h2)
   ·exact Or.inl h1
  ·rcases h2 with h2 | ⟨rfl,h2⟩
   ·exact Or.inl h2
   ·exact Or.inr ⟨rfl,less_trans h1 h2⟩
theorem less_total:∀ a b:List UInt8,a=b ∨ Op.bytesLess a b=true ∨ Op.bytesLess b a=true
 | [],[]=>Or.inl rfl
 | [],_ :: _=>Or.inr (Or.inl rfl)
 | _ :: _,[]=>Or.inr (Or.inr rfl)
 | x :: a,y :: b=>by
  by_cases e:x=y
  ·subst e
   rcases less_total a b with h | h | h
   ·left; rw [h]
   ·right; left; simp [Op.bytesLess,h]
   ·right; right; simp [Op.bytesLess,h]
  ·rcases Nat.lt_or_gt_of_ne (fun c=>e (UInt8.toNat_inj.1 c)) with h | h
   ·right; left; simp [Op.bytesLess,UInt8.lt_iff_toNat_lt.2 h]
   ·right; right; simp [Op.bytesLess,UInt8.lt_iff_toNat_lt.2 h]
theorem toL_inj {a b:ByteArray} (h:a.toList=b.toList):a=b:=str_eq.1 (by rw [h]; simp)
theorem strLt_irr (a:ByteArray):strLt a a=false:=less_irr _
theorem strLt_trans {a b c:ByteArray} (h1:strLt a b=true) (h2:strLt b c=true):strLt a c=true:=less_trans h1 h2
theorem strLt_total (a b:ByteArray):a=b ∨ strLt a b=true ∨ strLt b a=true:=(less_total a.toList b.toList).imp toL_inj id
def Rising (l:List ByteArray):Prop:=l.Pairwise fun a b=>strLt a b=true
theorem rising_ext:∀ {l m:List ByteArray},Rising l → Rising m → (∀ a,a ∈ l ↔ a ∈ m) → l=m
 | [],[],_,_,_=>rfl
 | [],b :: m,_,_,h=>by have:=(h b).2 (by simp); simp at this
 | a :: l,[],_,_,h=>by have:=(h a).1 (by simp); simp at this
 | a :: l,b :: m,hl,hm,h=>by
  obtain ⟨ha,hl'⟩:=List.pairwise_cons.1 hl
  obtain ⟨hb,hm'⟩:=List.pairwise_cons.1 hm
  have e:a=b:=by
   rcases List.mem_cons.1 ((h a).1 (by simp)) with c | c
   ·exact c
   ·rcases List.mem_cons.1 ((h b).2 (by simp)) with c' | c'
    ·exact c'.symm
    ·have x:=strLt_trans (ha b c') (hb a c)
     rw [strLt_irr] at x; cases x
  subst e
  congr 1
  refine rising_ext hl' hm' fun x=>⟨fun hx=>?_,fun hx=>?_⟩
  ·rcases List.mem_cons.1 ((h x).1 (by simp [hx])) with c | c
   ·subst c; have y:=ha x hx; rw [strLt_irr] at y; cases y
   ·exact c
  ·rcases List.mem_cons.1 ((h x).2 (by simp [hx])) with c | c
   ·subst c; have y:=hb x hx; rw [strLt_irr] at y; cases y
   ·exact c
theorem place_spec (L:List ByteArray) (s:ByteArray) (hr:Rising L) (hs:∀ a,a ∈ L → a ≠ s):∀ k,k ≤ L.length → place L s k ≤ k ∧ (∀ j (h:j < L.length),j < place L s k → strLt L[j] s=true) ∧ (∀ j (h:j < L.length),place L s k ≤ j → j < k → strLt s L[j]=true)
 | 0,_=>⟨Nat.le_refl _,fun j _ h=>by simp [place] at h,fun j _ _ h=>by omega⟩
 | k + 1,hk=>by
  have hkl:k < L.length:=by omega
  have hg:L.getD k noEl=L[k]:=by simp [hkl]
  obtain ⟨i1,i2,i3⟩:=place_spec L s hr hs k (by omega)
  unfold place
  rw [hg]
  split
  ·rename_i hlt
   refine ⟨by omega,i2,fun j hj h1 h2=>?_⟩
   by_cases c:j=k
   ·subst c; exact hlt
   ·exact i3 j hj h1 (by omega)
  ·rename_i hlt
   refine ⟨Nat.le_refl _,fun j hj h=>?_,fun j _ h1 h2=>by omega⟩
   have hk':strLt L[k] s=true:=by
    rcases strLt_total L[k] s with c | c | c
    ·exact absurd c (hs _ (List.getElem_mem hkl))
    ·exact c
    ·exact absurd c hlt
   by_cases c:j=k
   ·subst c; exact hk'
   ·exact strLt_trans ((List.pairwise_iff_getElem.1 hr) j k hj hkl (by omega)) hk'
theorem withOf_spec {L:List ByteArray} (hr:Rising L) (s:ByteArray):Rising (withOf L s) ∧ ∀ a,a ∈ withOf L s ↔ a ∈ L ∨ a=s:=by
 unfold withOf
 split
 ·rename_i h
  obtain ⟨a,ha,hd⟩:=List.any_eq_true.1 h
  have e:=of_decide_eq_true hd
  subst e
  exact ⟨hr,fun x=>⟨Or.inl,fun c=>c.elim id (fun e=>e ▸ ha)⟩⟩
 ·rename_i h
  have hs:∀ a,a ∈ L → a ≠ s:=fun a ha e=>h (List.any_eq_true.2 ⟨a,ha,by simp [e]⟩)
  obtain ⟨p1,p2,p3⟩:=place_spec L s hr hs L.length (Nat.le_refl _)
  generalize place L s L.length=k at *
  refine ⟨?_,fun a=>?_⟩
  ·unfold insAt Rising
   rw [List.pairwise_append]
   refine ⟨hr.sublist (List.take_sublist _ _),List.pairwise_cons.2 ⟨fun b hb=>?_,hr.sublist (List.drop_sublist _ _)⟩,fun a ha b hb=>?_⟩
   ·obtain ⟨i,hi,rfl⟩:=List.mem_drop_iff_getElem.1 hb
    exact p3 _ (by omega) (by omega) (by omega)
   ·obtain ⟨i,hi,rfl⟩:=List.mem_take_iff_getElem.1 ha
    have hik:i < k:=by omega
    rcases List.mem_cons.1 hb with c | c
    ·subst c; exact p2 i (by omega) hik
    ·obtain ⟨j,hj,rfl⟩:=List.mem_drop_iff_getElem.1 c
     exact (List.pairwise_iff_getElem.1 hr) i _ (by omega) (by omega) (by omega)
  ·unfold insAt
   rw [List.mem_append,List.mem_cons]
   constructor
   ·rintro (c | c | c)
    ·exact Or.inl (List.mem_of_mem_take c)
    ·exact Or.inr c
    ·exact Or.inl (List.mem_of_mem_drop c)
   ·rintro (c | c)
    ·rw [← List.take_append_drop k L,List.mem_append] at c
     exact c.elim Or.inl (fun d=>Or.inr (Or.inr d))
    ·exact Or.inr (Or.inl c)
theorem setEls_spec (v:List Int) (key:ByteArray) (ts:List RTx) (t:RTx):∀ (es acc:List ByteArray),Rising acc → Rising (es.foldl (setEl v key ts t) acc) ∧ ∀ a,a ∈ es.foldl (setEl v key ts t) acc ↔ a ∈ acc ∨ (a ∈ es ∧ lastKind (lastOf key a t.ops)=3 ∧ goneOf v key a t ts=false)
 | [],acc,h=>⟨h,fun a=>by simp⟩
 | e :: es,acc,h=>by
  have step:Rising (setEl v key ts t acc e) ∧ ∀ a,a ∈ setEl v key ts t acc e ↔ a ∈ acc ∨ (a=e ∧ lastKind (lastOf key e t.ops)=3 ∧ goneOf v key e t ts=false):=by
   unfold setEl
   split
   ·rename_i h3
    split
    ·rename_i hg
     exact ⟨h,fun a=>by simp [hg]⟩
    ·rename_i hg
     obtain ⟨r,m⟩:=withOf_spec h e
     refine ⟨r,fun a=>?_⟩
     rw [m]
     have hg':goneOf v key e t ts=false:=by simpa using hg
     simp [h3,hg']
   ·rename_i h3
    exact ⟨h,fun a=>by simp [h3]⟩
  obtain ⟨r,m⟩:=setEls_spec v key ts t es _ step.1
  refine ⟨r,fun a=>?_⟩
  rw [List.foldl_cons,m,step.2,List.mem_cons]
  constructor
  ·rintro ((c | ⟨rfl,c2,c3⟩) | ⟨c1,c2,c3⟩)
   ·exact Or.inl c
   ·exact Or.inr ⟨Or.inl rfl,c2,c3⟩
   ·exact Or.inr ⟨Or.inr c1,c2,c3⟩
  ·rintro (c | ⟨c1 | c1,c2,c3⟩)
   ·exact Or.inl (Or.inl c)
   ·subst c1; exact Or.inl (Or.inr ⟨rfl,c2,c3⟩)
   ·exact Or.inr ⟨c1,c2,c3⟩
theorem setTxs_spec (v:List Int) (key:ByteArray) (ts:List RTx):∀ (us:List RTx) (acc:List ByteArray),Rising acc → Rising (us.foldl (setTx v key ts) acc) ∧ ∀ a,a ∈ us.foldl (setTx v key ts) acc ↔ a ∈ acc ∨ ∃ t,t ∈ us ∧ seesV v t.rep t.seq=true ∧ a ∈ elemsOf key t.ops ∧ lastKind (lastOf key a t.ops)=3 ∧ goneOf v key a t ts=false
 | [],acc,h=>⟨h,fun a=>by simp⟩
 | t :: us,acc,h=>by
  have step:Rising (setTx v key ts acc t) ∧ ∀ a,a ∈ setTx v key ts acc t ↔ a ∈ acc ∨ (seesV v t.rep t.seq=true ∧ a ∈ elemsOf key t.ops ∧ lastKind (lastOf key a t.ops)=3 ∧ goneOf v key a t ts=false):=by
   unfold setTx
   split
   ·rename_i hs
    obtain ⟨r,m⟩:=setEls_spec v key ts t (elemsOf key t.ops) acc h
    exact ⟨r,fun a=>by rw [m]; simp [hs]⟩
   ·rename_i hs
    exact ⟨h,fun a=>by simp [hs]⟩
  obtain ⟨r,m⟩:=setTxs_spec v key ts us _ step.1
  refine ⟨r,fun a=>?_⟩
  rw [List.foldl_cons,m,step.2]
  constructor
  ·rintro ((c | c) | ⟨u,hu,c⟩)
   ·exact Or.inl c
   ·exact Or.inr ⟨t,by simp,c⟩
   ·exact Or.inr ⟨u,by simp [hu],c⟩
  ·rintro (c | ⟨u,hu,c⟩)
   ·exact Or.inl (Or.inl c)
   ·rcases List.mem_cons.1 hu with e | e
    ·subst e; exact Or.inl (Or.inr c)
    ·exact Or.inr ⟨u,e,c⟩
theorem set_same {v vis:List Int} {key:ByteArray} {l ts:List RTx} (hp:l.Perm (ts.filter fun u=>seesV vis u.rep u.seq)) (hv:∀ r,v.getD r 0 ≤ vis.getD r 0):setOf v key l=setOf v key ts:=by
 obtain ⟨r1,m1⟩:=setTxs_spec v key l l [] List.Pairwise.nil
 obtain ⟨r2,m2⟩:=setTxs_spec v key ts ts [] List.Pairwise.nil
 refine rising_ext r1 r2 fun a=>?_
 refine (m1 a).trans (Iff.trans ?_ (m2 a).symm)
 constructor
 ·rintro (c | ⟨u,hu,h1,h2,h3,h4⟩)
  ·simp at c
  ·exact Or.inr ⟨u,(List.mem_filter.1 (hp.mem_iff.1 hu)).1,h1,h2,h3,by rw [← gone_same hp hv]; exact h4⟩
 ·rintro (c | ⟨u,hu,h1,h2,h3,h4⟩)
  ·simp at c
  ·exact Or.inr ⟨u,hp.mem_iff.2 (List.mem_filter.2 ⟨hu,seesV_mono hv h1⟩),h1,h2,h3,by rw [gone_same hp hv]; exact h4⟩
theorem read_same {t:RTx} {vis:List Int} {key:ByteArray} {l ts:List RTx} {n:Nat} (hp:l.Perm (ts.filter fun u=>seesV vis u.rep u.seq)) (hv:∀ r,0 ≤ t.saw.getD r 0 ∧ t.saw.getD r 0 ≤ vis.getD r 0) (hu:ts.Pairwise fun u v=>¬ (u.rep=v.rep ∧ u.seq=v.seq))
  (hfull:∀ r,r < n → ∀ s:Nat,(s:Int) + 1 ≤ vis.getD r 0 → ∃ u,u ∈ ts ∧ isDot (r:Int) ((s:Int) + 1) u=true):readAns (some t) key l n=readAns (some t) key ts n:=by
 have hv':∀ r,t.saw.getD r 0 ≤ vis.getD r 0:=fun r=>(hv r).2
 simp only [readAns,counter_same hp hv',set_same hp hv',register_same hp hv' hu n hfull (fun r=>(hv r).1) n (Nat.le_refl _)]
end Go.Proofs.YtiplgdkpnhamaaaGreatDoor
namespace Go.Proofs.YtiplgdkpnhamaaaGreatDoor
open Go.RowKit
section
variable {n:Nat} {ds:List DRep} {ts:List RTx} {i:Nat} {d d':DRep}
theorem keep_len (key:ByteArray) (ops:List ROp):∀ (l acc:List ByteArray),(l.foldl (keepEl key ops) acc).length ≤ acc.length + l.length
 | [],acc=>by simp
 | a :: l,acc=>by
  have h:(keepEl key ops acc a).length ≤ acc.length + 1:=by
   unfold keepEl; split
   ·exact withOf_len _ _
   ·omega
  have b:=keep_len key ops l (keepEl key ops acc a)
  simp only [List.foldl_cons,List.length_cons]
  omega
theorem ins_len (key:ByteArray) (ops:List ROp):∀ (l acc:List ByteArray),(l.foldl (insEl key ops) acc).length ≤ acc.length + l.length
 | [],acc=>by simp
 | a :: l,acc=>by
  have h:(insEl key ops acc a).length ≤ acc.length + 1:=by
   unfold insEl; split
   ·exact withOf_len _ _
   ·omega
  have b:=ins_len key ops l (insEl key ops acc a)
  simp only [List.foldl_cons,List.length_cons]
  omega
theorem register_len (v:List Int) (key:ByteArray) (ts:List RTx) (hv:∀ r,v.getD r 0 ≤ 1100000):∀ n,(registerOf v key ts n).length ≤ 1100000 * n
 | 0=>by simp [registerOf]
 | n + 1=>by
  rw [registerOf_succ,List.length_append]
  have a:=register_len v key ts hv n
  have b:=regRow_len v key ts n (v.getD n 0).toNat
  have c:=hv n
  omega
end
end Go.Proofs.YtiplgdkpnhamaaaGreatDoor
