/- The texts Mem, P1, P2, Q1, ZF1, joined. -/
import Derived.WalkKit
import Derived.WalkSpells
import Derived.WalkLawsBesides
import Derived.Deep.QuietTactic
import Derived.BigQuiet
namespace Go.Proofs.YtiplgdkpnhamaaaGreatDoor
open Go.RowKit
structure Touch (S:Nat → Prop) (w w':World):Prop where
 os:w'.os=w.os
 tape:w'.tape=w.tape
 output:w'.output=w.output
 size:w.heap.size ≤ w'.heap.size
 block:∀ k,k < w.heap.size → ¬ S k → w'.heap[k]? = w.heap[k]?
theorem Touch.refl (S:Nat → Prop) (w:World):Touch S w w:=⟨rfl,rfl,rfl,Nat.le_refl _,fun _ _ _=>rfl⟩
theorem Touch.mono {S T:Nat → Prop} {w w':World} (h:Touch S w w') (hs:∀ k,k < w.heap.size → S k → T k):Touch T w w':=
 ⟨h.os,h.tape,h.output,h.size,fun k hk hn=>h.block k hk (fun s=>hn (hs k hk s))⟩
theorem Touch.trans {S:Nat → Prop} {a b c:World} (h:Touch S a b) (k:Touch (fun i=>S i ∨ a.heap.size ≤ i) b c):Touch S a c:=
 ⟨k.os.trans h.os,k.tape.trans h.tape,k.output.trans h.output,Nat.le_trans h.size k.size,
  fun i hi hn=>(k.block i (Nat.lt_of_lt_of_le hi h.size) (fun s=>s.elim hn (fun s=>by omega))).trans (h.block i hi hn)⟩
theorem Touch.then {S:Nat → Prop} {a b c:World} (h:Touch S a b) (k:Touch S b c):Touch S a c:=
 h.trans (k.mono fun _ _ s=>Or.inl s)
theorem Touch.drew {S:Nat → Prop} {a w:World} (h:Touch S a w):Touch S a w.drew:=⟨h.os,h.tape,h.output,h.size,h.block⟩
theorem Touch.ofBelow {S:Nat → Prop} {w w':World} (h:Below w.heap.size w w'):Touch S w w':=
 ⟨h.os,h.tape,h.output,h.size,fun k hk _=>h.block k hk⟩
theorem Touch.below {w w':World} (h:Touch (fun _=>False) w w'):Below w.heap.size w w':=
 ⟨h.os,h.tape,h.output,h.size,fun k hk=>h.block k hk id⟩
theorem Touch.ofGrown {w w':World} {row:Option Nat} (h:w.grownBy w' row):Touch (fun k=>some k=row) w w':=
 ⟨h.os,h.tape,h.output,h.size,fun k hk hn=>h.block k hk hn⟩
theorem Touch.alloc {S:Nat → Prop} {a w:World} (h:Touch S a w) (o:Obj):Touch S a (w.alloc o):=
 h.then ⟨rfl,rfl,rfl,by simp,fun k hk _=>Below.heap_alloc _ _ _ hk⟩
theorem Touch.setCell {S:Nat → Prop} {a w:World} (h:Touch S a w) {p:Addr} (hp:S p.block ∨ a.heap.size ≤ p.block) (u:Value):Touch S a (w.setCell p u):=
 h.trans ⟨rfl,rfl,rfl,by simp [World.setCell],fun k _ hn=>Below.heap_setCell _ _ _ _ (fun e=>hn (e ▸ hp))⟩
theorem Touch.grown {S:Nat → Prop} {a w w':World} {row:Option Nat} (h:Touch S a w) (hg:w.grownBy w' row) (hr:∀ k,row=some k → S k ∨ a.heap.size ≤ k):Touch S a w':=
 h.trans ((Touch.ofGrown hg).mono fun k _ e=>hr k e.symm)
abbrev Row (w:World) (e:TypeId) (size:Nat) (v:Value) (n:Nat) (xs:List Value):Prop:=w.ownsRow 0 e size v n xs
theorem Row.move {w w':World} {e:TypeId} {size:Nat} {v:Value} {n:Nat} {xs:List Value} (h:Row w e size v n xs)
  (hb:∀ k,v.ownBlock=some k → w'.heap[k]? = w.heap[k]?):Row w' e size v n xs:=by
 refine ⟨h.1,?_⟩
 rcases h.2 with hn | ⟨g,cap,cur,rfl,h0,hg,rest⟩
 ·exact .inl hn
 ·exact .inr ⟨g,cap,cur,rfl,h0,by rw [hb g rfl]; exact hg,rest⟩
theorem Row.lt {w:World} {e:TypeId} {size:Nat} {v:Value} {n:Nat} {xs:List Value} (h:Row w e size v n xs) {k:Nat} (hk:v.ownBlock=some k):k < w.heap.size:=
 (World.ownsRow.lt h k hk).2
theorem Row.touch {S:Nat → Prop} {w w':World} {e:TypeId} {size:Nat} {v:Value} {n:Nat} {xs:List Value} (h:Row w e size v n xs) (t:Touch S w w')
  (hs:∀ k,v.ownBlock=some k → ¬ S k):Row w' e size v n xs:=
 h.move fun k hk=>t.block k (h.lt hk) (hs k hk)
theorem Row.below {w w':World} {e:TypeId} {size:Nat} {v:Value} {n:Nat} {xs:List Value} (h:Row w e size v n xs) (t:Below w.heap.size w w'):Row w' e size v n xs:=
 h.move fun k hk=>t.block k (h.lt hk)
theorem Row.shape {w:World} {e:TypeId} {size:Nat} {v:Value} {n:Nat} {xs:List Value} (h:Row w e size v n xs) :
  ∃ ao cap,v=.slice ao n cap ∧ n ≤ cap ∧ cap ≤ maxLen ∧ ∀ j,j < n * size → ∃ g,ao=some ⟨g,0,none⟩ ∧ w.cell? ⟨g,j,none⟩=xs[j]?:=by
 rcases h.2 with ⟨rfl,rfl⟩ | ⟨g,cap,cur,rfl,h0,hg,hc,hm,hs,ht⟩
 ·exact ⟨none,0,rfl,Nat.le_refl _,by simp [maxLen],fun j hj=>by simp at hj⟩
 ·refine ⟨some ⟨g,0,none⟩,cap,rfl,hc,hm,fun j hj=>⟨g,rfl,World.ownsRow.cellAt h j hj⟩⟩
theorem Row.pos {w:World} {e:TypeId} {size:Nat} {v:Value} {n:Nat} {xs:List Value} (h:Row w e size v n xs) (hn:0 < n) :
  ∃ g cap,v=.slice (some ⟨g,0,none⟩) n cap ∧ n ≤ cap ∧ cap ≤ maxLen ∧ g < w.heap.size ∧ (∀ j,j < n * size → w.cell? ⟨g,j,none⟩=xs[j]?) ∧ ∀ j,w.frozen? ⟨g,j,none⟩=false:=by
 rcases h.2 with ⟨rfl,rfl⟩ | ⟨g,cap,cur,rfl,h0,hg,hc,hm,hs,ht⟩
 ·omega
 ·exact ⟨g,cap,rfl,hc,hm,(Array.getElem?_eq_some_iff.1 hg).1,fun j hj=>World.ownsRow.cellAt h j hj,fun j=>World.ownsRow.frozenAt h j⟩
theorem flat_get {α:Type} (f:α → List Value) (s:Nat) (hf:∀ a,(f a).length=s):∀ (l:List α) (i j:Nat) (hi:i < l.length),j < s → (l.flatMap f)[i * s + j]? = (f l[i])[j]?
 | [],i,_,hi,_=>by simp at hi
 | a :: l,0,j,_,hj=>by
  rw [List.flatMap_cons,List.getElem?_append_left (by rw [hf]; omega)]
  simp
 | a :: l,i + 1,j,hi,hj=>by
  have:=flat_get f s hf l i j (by simpa using hi) hj
  rw [List.flatMap_cons,List.getElem?_append_right (by rw [hf,Nat.add_mul]; omega)]
  simpa [hf,Nat.add_mul,Nat.add_right_comm _ s j] using this
theorem flat_len {α:Type} (f:α → List Value) (s:Nat) (hf:∀ a,(f a).length=s) (l:List α):(l.flatMap f).length=l.length * s:=by
 induction l with
 | nil=>simp
 | cons a l ih=>simp [List.flatMap_cons,hf,ih,Nat.add_mul,Nat.add_comm]
theorem str_eq {a b:ByteArray}:(a.toList == b.toList)=true ↔ a=b:=by
 rw [beq_iff_eq,ByteArray.toList_eq,ByteArray.toList_eq]
 constructor
 ·intro h; cases a; cases b; simp at h; simpa using h
 ·rintro rfl; rfl
theorem str_ne {a b:ByteArray}:(a.toList == b.toList)=false ↔ ¬ a=b:=by
 rw [← str_eq]; simp
theorem ret_int {k:IntKind} {a b:Int} (h:a=b):Ending.returned (.int k a)=.returned (.int k b):=by rw [h]
theorem ret_bool {a b:Bool} (h:a=b):Ending.returned (.bool a)=.returned (.bool b):=by rw [h]
def ints (l:List Int):List Value:=l.map (Value.int .i64)
theorem ints_len (l:List Int):(ints l).length=l.length:=by simp [ints]
theorem ints_get (l:List Int) (j:Nat) (h:j < l.length):(ints l)[j]? = some (.int .i64 l[j]):=by simp [ints,h]
def strs (l:List ByteArray):List Value:=l.map Value.string
theorem strs_get (l:List ByteArray) (j:Nat) (h:j < l.length):(strs l)[j]? = some (.string l[j]):=by simp [strs,h]
theorem strs_snoc (l:List ByteArray) (s:ByteArray):strs (l ++ [s])=strs l ++ [.string s]:=by simp [strs]
theorem ownsRow_low {w:World} {b b':Nat} {e:TypeId} {size:Nat} {v:Value} {n:Nat} {xs:List Value} (h:w.ownsRow b e size v n xs) (hb:b' ≤ b):w.ownsRow b' e size v n xs:=by
 refine ⟨h.1,?_⟩
 rcases h.2 with hn | ⟨g,cap,cur,rfl,h0,rest⟩
 ·exact .inl hn
 ·exact .inr ⟨g,cap,cur,rfl,Nat.le_trans hb h0,rest⟩
theorem ownsRow_below {w w':World} {b:Nat} {e:TypeId} {size:Nat} {v:Value} {n:Nat} {xs:List Value} (h:w.ownsRow b e size v n xs) (hb:Below w.heap.size w w'):w'.ownsRow b e size v n xs:=by
 refine ⟨h.1,?_⟩
 rcases h.2 with hn | ⟨g,cap,cur,rfl,h0,hg,rest⟩
 ·exact .inl hn
 ·exact .inr ⟨g,cap,cur,rfl,h0,by rw [hb.block g (Array.getElem?_eq_some_iff.1 hg).1]; exact hg,rest⟩
end Go.Proofs.YtiplgdkpnhamaaaGreatDoor
namespace Go.Proofs.YtiplgdkpnhamaaaGreatDoor
open Go.RowKit
structure ROp where
 kind:Int
 key:ByteArray
 value:ByteArray
 amount:Int
def ROp.none:ROp:=⟨0,⟨#[]⟩,⟨#[]⟩,0⟩
def kindOf (s:ByteArray):Int:=
 if h:1 ≤ s.size ∧ s.size ≤ 8 then
  if s[0]=99 ∨ s[0]=114 ∨ s[0]=115 then (s[0].toNat:Int) else 0
 else 0
theorem kindOf_long {s:ByteArray} (h:¬ (1 ≤ s.size ∧ s.size ≤ 8)):kindOf s=0:=by unfold kindOf; rw [dif_neg h]
theorem u8_eq (c:UInt8) (n:Nat) (h:n < 256):(c=UInt8.ofNat n) ↔ ((c.toNat:Int)=n):=by
 constructor
 ·rintro rfl; simp; omega
 ·intro e; apply UInt8.toNat_inj.1; simp; omega
theorem kindOf_in {s:ByteArray} (h:1 ≤ s.size ∧ s.size ≤ 8):kindOf s=if (s[0].toNat:Int)=99 ∨ (s[0].toNat:Int)=114 ∨ (s[0].toNat:Int)=115 then (s[0].toNat:Int) else 0:=by
 unfold kindOf
 rw [dif_pos h]
 have a:=u8_eq s[0] 99 (by omega)
 have b:=u8_eq s[0] 114 (by omega)
 have c:=u8_eq s[0] 115 (by omega)
 simp only [show (UInt8.ofNat 99)=99 from rfl,show (UInt8.ofNat 114)=114 from rfl,show (UInt8.ofNat 115)=115 from rfl] at a b c
 simp only [a,b,c]; rfl
def sumOf (key:ByteArray) (ops:List ROp):Int:=ops.foldl (fun n o=>if o.kind=1 ∧ o.key=key then wrap64 (n + o.amount) else n) 0
theorem sumOf_snoc (key:ByteArray) (ops:List ROp) (o:ROp):sumOf key (ops ++ [o])=if o.kind=1 ∧ o.key=key then wrap64 (sumOf key ops + o.amount) else sumOf key ops:=by
 simp [sumOf]
def hits (key el:ByteArray) (o:ROp):Bool:=decide (o.key=key ∧ (o.kind=2 ∨ o.value=el))
def lastOf (key el:ByteArray) (ops:List ROp):Option ROp:=ops.reverse.find? (hits key el)
def elemsOf (key:ByteArray) (ops:List ROp):List ByteArray:=(ops.filter fun o=>decide (o.key=key)).map ROp.value
theorem elemsOf_snoc (key:ByteArray) (ops:List ROp) (o:ROp):elemsOf key (ops ++ [o])=elemsOf key ops ++ (if o.key=key then [o.value] else []):=by
 by_cases h:o.key=key <;> simp [elemsOf,h]
theorem elemsOf_len (key:ByteArray) (ops:List ROp):(elemsOf key ops).length ≤ ops.length:=by
 simp only [elemsOf,List.length_map]; exact List.length_filter_le _ _
structure XTx where
 isOpen:Bool
 rep:Int
 seq:Int
 sv:Value
 ov:Value
def seesV (vec:List Int) (r s:Int):Bool:=decide (s ≤ vec.getD r.toNat 0)
end Go.Proofs.YtiplgdkpnhamaaaGreatDoor
namespace Go.Proofs.YtiplgdkpnhamaaaGreatDoor
open Go.RowKit
structure RTx where
 rep:Int
 seq:Int
 saw:List Int
 ops:List ROp
def counterOf (v:List Int) (key:ByteArray) (ts:List RTx):Int:=ts.foldl (fun n t=>if seesV v t.rep t.seq then wrap64 (n + sumOf key t.ops) else n) 0
theorem counterOf_snoc (v:List Int) (key:ByteArray) (ts:List RTx) (t:RTx):counterOf v key (ts ++ [t])=if seesV v t.rep t.seq then wrap64 (counterOf v key ts + sumOf key t.ops) else counterOf v key ts:=by
 simp [counterOf]
def isDot (r s:Int) (t:RTx):Bool:=decide (t.rep=r ∧ t.seq=s)
abbrev noEl:ByteArray:=⟨#[]⟩
def overStep (v:List Int) (key:ByteArray) (t:RTx) (acc:Bool) (u:RTx):Bool:=acc || (seesV v u.rep u.seq && seesV u.saw t.rep t.seq && (lastOf key noEl u.ops).isSome)
def overOf (v:List Int) (key:ByteArray) (t:RTx) (ts:List RTx):Bool:=ts.foldl (overStep v key t) false
def regAt (v:List Int) (key:ByteArray) (ts:List RTx) (t:RTx):List ByteArray:=
 match lastOf key noEl t.ops with
 | .none=>[]
 | some o=>if overOf v key t ts then [] else [o.value]
def findTx (ts:List RTx) (r s:Int):RTx:=(ts.find? (isDot r s)).getD ⟨0,0,[],[]⟩
def regRow (v:List Int) (key:ByteArray) (ts:List RTx) (r m:Nat):List ByteArray:=(List.range m).flatMap fun (s:Nat)=>regAt v key ts (findTx ts r ((s:Int) + 1))
theorem regRow_succ (v:List Int) (key:ByteArray) (ts:List RTx) (r m:Nat):regRow v key ts r (m + 1)=regRow v key ts r m ++ regAt v key ts (findTx ts r ((m:Int) + 1)):=by
 simp [regRow,List.range_succ]
def registerOf (v:List Int) (key:ByteArray) (ts:List RTx) (n:Nat):List ByteArray:=(List.range n).flatMap fun r=>regRow v key ts r (v.getD r 0).toNat
theorem registerOf_succ (v:List Int) (key:ByteArray) (ts:List RTx) (n:Nat):registerOf v key ts (n + 1)=registerOf v key ts n ++ regRow v key ts n (v.getD n 0).toNat:=by
 simp [registerOf,List.range_succ]
theorem regAt_len (v:List Int) (key:ByteArray) (ts:List RTx) (t:RTx):(regAt v key ts t).length ≤ 1:=by
 unfold regAt; split
 ·simp
 ·split <;> simp
theorem regRow_len (v:List Int) (key:ByteArray) (ts:List RTx) (r m:Nat):(regRow v key ts r m).length ≤ m:=by
 induction m with
 | zero=>simp [regRow]
 | succ m ih=>rw [regRow_succ,List.length_append]; have:=regAt_len v key ts (findTx ts r ((m:Int) + 1)); omega
theorem findTx_at {ts:List RTx} {r s:Int} (h:∃ t,t ∈ ts ∧ isDot r s t=true):∃ i,∃ hi:i < ts.length,isDot r s ts[i]=true ∧ (∀ j (hj:j < i),isDot r s (ts[j]'(by omega))=false) ∧ findTx ts r s=ts[i]:=by
 induction ts with
 | nil=>obtain ⟨t,ht,_⟩:=h; simp at ht
 | cons a ts ih=>
  cases ha:isDot r s a
  ·obtain ⟨t,ht,hd⟩:=h
   have ht':t ∈ ts:=by
    rcases List.mem_cons.1 ht with e | e
    ·subst e; rw [ha] at hd; cases hd
    ·exact e
   obtain ⟨i,hi,h1,h2,h3⟩:=ih ⟨t,ht',hd⟩
   refine ⟨i + 1,by simpa using hi,by simpa using h1,fun j hj=>?_,?_⟩
   ·cases j with
    | zero=>simpa using ha
    | succ j=>simpa using h2 j (by omega)
   ·simp only [findTx,List.find?_cons,ha] at h3 ⊢; simpa using h3
  ·exact ⟨0,by simp,by simpa using ha,fun j hj=>by omega,by simp [findTx,ha]⟩
end Go.Proofs.YtiplgdkpnhamaaaGreatDoor
namespace Go.Proofs.YtiplgdkpnhamaaaGreatDoor
open Go.RowKit
structure Fam (I:World → Prop) where
 w:World
 ok:I w
theorem region_fam {P:Program} (I:World → Prop) {id:Nat} {Q:Exit → Act → World → Prop} {a:Act} {w:World} {l:List Oper} (hm:P.follows .mixedOrders=true) (hB:Region.lexB .any l.toArray=true) (hC:I w.drew)
  (h:wpQuiet P l.toArray (fun W=>∃ f:Fam I,W=f.w) (fun a'=>∀ W,(∃ f:Fam I,W=f.w) → Q .normal a' W) l a):(Code.region id l.toArray true).wp P Q a w:=
 wp_region_quiet (C:=fun W=>∃ f:Fam I,W=f.w) hm hB ⟨⟨w.drew,hC⟩,rfl⟩ (by simpa using h)
theorem Calls.fam {P:Program} {I:World → Prop} {g:FuncId} {args:Array Value} {v:Value} {W:World} (h:Calls P g args W fun e w'=>e=.returned v ∧ I w'):Calls P g args W fun e w''=>e=.returned v ∧ ∃ f:Fam I,w''=f.w:=
 h.mono fun _ w'' ⟨he,hi⟩=>⟨he,⟨w'',hi⟩,rfl⟩
abbrev Bel (w:World):World → Prop:=fun W=>Below w.heap.size w W
instance (w:World):Nonempty (Fam (Bel w)):=⟨⟨w,Below.refl _ _⟩⟩
theorem Bel.cell {w:World} {p:Addr} {v:Value} (h:w.cell? p=some v) (f:Fam (Bel w)):f.w.cell? p=some v:=cell_later f.ok h
theorem Bel.call {P:Program} {w:World} {g:FuncId} {args:Array Value} {v:Value} (f:Fam (Bel w)) (h:Calls P g args f.w fun e w'=>e=.returned v ∧ Below f.w.heap.size f.w w'):Calls P g args f.w fun e w''=>e=.returned v ∧ ∃ g:Fam (Bel w),w''=g.w:=
 Calls.fam (h.mono fun _ _ ⟨he,hi⟩=>⟨he,f.ok.trans (hi.mono f.ok.size)⟩)
end Go.Proofs.YtiplgdkpnhamaaaGreatDoor
namespace Go.Proofs.YtiplgdkpnhamaaaGreatDoor
def Legal (L:Nat → Int → Prop) (saw:Nat → Int → Nat → Int) (v:Nat → Int) (r:Nat):Prop:=L r (v r + 1) ∧ ∀ k,saw r (v r + 1) k ≤ v k
def bump (v:Nat → Int) (r:Nat):Nat → Int:=fun k=>if k=r then v k + 1 else v k
inductive Reach (L:Nat → Int → Prop) (saw:Nat → Int → Nat → Int) (v0:Nat → Int):(Nat → Int) → Prop
 | refl:Reach L saw v0 v0
 | step {v:Nat → Int} {r:Nat}:Reach L saw v0 v → Legal L saw v r → Reach L saw v0 (bump v r)
theorem Reach.low {L:Nat → Int → Prop} {saw:Nat → Int → Nat → Int} {v0 v:Nat → Int} (h:Reach L saw v0 v):∀ k,v0 k ≤ v k:=by
 induction h with
 | refl=>exact fun k=>Int.le_refl _
 | step _ _ ih=>intro k; have:=ih k; unfold bump; split <;> omega
theorem Reach.le {L:Nat → Int → Prop} {saw:Nat → Int → Nat → Int} {v0 v w:Nat → Int} (h:Reach L saw v0 v) (hw:∀ k,v0 k ≤ w k) (hs:∀ r,¬ Legal L saw w r):∀ k,v k ≤ w k:=by
 induction h with
 | refl=>exact hw
 | @step v r _ hl ih=>
  intro k
  unfold bump
  split
  ·rename_i c
   subst c
   have a:=ih k
   by_cases e:v k=w k
   ·exfalso
    apply hs k
    unfold Legal at *
    rw [← e]
    exact ⟨hl.1,fun q=>Int.le_trans (hl.2 q) (ih q)⟩
   ·omega
  ·exact ih k
theorem Reach.same {L:Nat → Int → Prop} {saw:Nat → Int → Nat → Int} {v0 v w:Nat → Int} (h:Reach L saw v0 v) (hv:∀ r,¬ Legal L saw v r) (k:Reach L saw v0 w) (hw:∀ r,¬ Legal L saw w r):v=w:=
 funext fun q=>Int.le_antisymm (h.le k.low hw q) (k.le h.low hv q)
inductive PassR (saw:Nat → Int → Nat → Int):(Nat → Int) → List (Nat × Int) → (Nat → Int) → Prop
 | nil {v:Nat → Int}:PassR saw v [] v
 | yes {v v':Nat → Int} {r:Nat} {s:Int} {l:List (Nat × Int)}:v r + 1=s → (∀ k,saw r s k ≤ v k) → PassR saw (bump v r) l v' → PassR saw v ((r,s) :: l) v'
 | no {v v':Nat → Int} {r:Nat} {s:Int} {l:List (Nat × Int)}:¬ (v r + 1=s ∧ ∀ k,saw r s k ≤ v k) → PassR saw v l v' → PassR saw v ((r,s) :: l) v'
def Wants (saw:Nat → Int → Nat → Int) (a b:Nat × Int):Prop:=(b.1=a.1 ∧ b.2 < a.2) ∨ b.2 ≤ saw a.1 a.2 b.1
theorem bump_le (v:Nat → Int) (r k:Nat):v k ≤ bump v r k:=by unfold bump; split <;> omega
theorem PassR.low {saw:Nat → Int → Nat → Int} {v v':Nat → Int} {l:List (Nat × Int)} (h:PassR saw v l v'):∀ k,v k ≤ v' k:=by
 induction h with
 | nil=>exact fun k=>Int.le_refl _
 | yes _ _ _ ih=>exact fun k=>Int.le_trans (bump_le _ _ k) (ih k)
 | no _ _ ih=>exact ih
theorem PassR.first {saw:Nat → Int → Nat → Int} {v v':Nat → Int} {l:List (Nat × Int)} (h:PassR saw v l v'):∀ k,v k < v' k → (k,v k + 1) ∈ l:=by
 induction h with
 | nil=>intro k hk; omega
 | @yes v v' r s l h1 _ _ ih=>
  intro k hk
  by_cases c:k=r
  ·subst c; rw [h1]; simp
  ·have e:bump v r k=v k:=by unfold bump; rw [if_neg c]
   have:=ih k (by rw [e]; exact hk)
   rw [e] at this
   exact List.mem_cons_of_mem _ this
 | no _ _ ih=>intro k hk; exact List.mem_cons_of_mem _ (ih k hk)
theorem PassR.reach {L:Nat → Int → Prop} {saw:Nat → Int → Nat → Int} {v0 v v':Nat → Int} {l:List (Nat × Int)} (h:PassR saw v l v') (hL:∀ a,a ∈ l → L a.1 a.2) (h0:Reach L saw v0 v):Reach L saw v0 v':=by
 induction h with
 | nil=>exact h0
 | @yes v v' r s l h1 h2 _ ih=>exact ih (fun a ha=>hL a (List.mem_cons_of_mem _ ha)) (h0.step ⟨by rw [h1]; exact hL (r,s) (by simp),by rw [h1]; exact h2⟩)
 | no _ _ ih=>exact ih (fun a ha=>hL a (List.mem_cons_of_mem _ ha)) h0
theorem PassR.stuck {saw:Nat → Int → Nat → Int} {v v':Nat → Int} {l:List (Nat × Int)} (h:PassR saw v l v') (hp:l.Pairwise fun a b=>¬ Wants saw a b):∀ a,a ∈ l → ¬ (v' a.1 + 1=a.2 ∧ ∀ k,saw a.1 a.2 k ≤ v' k):=by
 induction h with
 | nil=>intro a ha; simp at ha
 | @yes v v' r s l h1 h2 h3 ih=>
  rw [List.pairwise_cons] at hp
  intro a ha
  rcases List.mem_cons.1 ha with rfl | ha
  ·intro ⟨e,_⟩
   have:=h3.low r
   unfold bump at this
   rw [if_pos rfl] at this
   dsimp only at e
   omega
  ·exact ih hp.2 a ha
 | @no v v' r s l h1 h3 ih=>
  rw [List.pairwise_cons] at hp
  intro a ha
  rcases List.mem_cons.1 ha with rfl | ha
  ·intro ⟨e,h2⟩
   dsimp only at e h2
   apply h1
   have hr:v' r=v r:=by
    have a1:=h3.low r
    by_cases c:v r < v' r
    ·exact absurd (Or.inl ⟨rfl,by show v r + 1 < s; omega⟩) (hp.1 _ (h3.first r c))
    ·omega
   refine ⟨by omega,fun k=>?_⟩
   by_cases c:v k < v' k
   ·have:=hp.1 _ (h3.first k c)
    unfold Wants at this
    have a2:¬ (v k + 1 ≤ saw r s k):=fun x=>this (Or.inr x)
    omega
   ·have:=h3.low k
    have:=h2 k
    omega
  ·exact ih hp.2 a ha
end Go.Proofs.YtiplgdkpnhamaaaGreatDoor
