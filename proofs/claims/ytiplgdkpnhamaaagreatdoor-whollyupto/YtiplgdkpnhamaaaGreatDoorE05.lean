/- The texts M2, G1, L1, G2, R10, P4, L2, R8, P5, G5, joined. -/
import Derived.Test.YtiplgdkpnhamaaaGreatDoorE02
import Derived.Test.YtiplgdkpnhamaaaGreatDoorE04
import Derived.Deep.RegionLaw
import Derived.Deep.DeepCutAuto
import Derived.Maps.AppendAt
import Derived.Test.YtiplgdkpnhamaaaGreatDoorProg
import Derived.Maps.OwnSet
import Derived.BigRegion
namespace Go.Proofs.YtiplgdkpnhamaaaGreatDoor
open Go.RowKit
theorem step_append_own {P:Program} {ops:Array Oper} {o:Oper} {a:Act} {w:World} {K:Act → World → Prop} {Q:Exit → Act → World → Prop} {E:Prop}
  (hg:o.guard=none) (s x:Operand) (t:TypeId) (hop:o.op=Op.call { callee:=Callee.builtin Builtin.append,args:=#[s,x],argTypes:=#[t,t] })
  (e:TypeId) (i:TypeInfo) (z:Value) (size bytes:Nat) (ht:P.underlying t=some (.slice e)) (hi:P.info? e=some i) (hz:i.zero=some z)
  (hsize:i.size=size) (hby:i.bytes=bytes) (hzs:z.cells.size=size) (hsz:0 < size)
  (v:Value) (n:Nat) (xs:List Value) (hs:a.eval s=v) (hown:w.ownsRow 0 e size v n xs)
  (ad:Addr) (m c:Nat) (news:List Value) (hx:a.eval x=.slice (some ad) m c) (hl:news.length=m * size) (hnews:∀ j u,news[j]? = some u → w.cell? (ad.add j)=some u) (h1:∀ u ∈ news,u.oneCell'=true)
  (h63:n + m ≤ maxLen) (hbytes:(n + m) * bytes ≤ 140737488355328)
  (hK:∀ v' w',w'.ownsRow 0 e size v' (n + m) (xs ++ news) → w.grownBy w' v.ownBlock → (v'.ownBlock=v.ownBlock ∨ v'.ownBlock=some w.heap.size) → K (a.put o.dst v') w') :
  if Region.wanted o (yielded ops a.tmps)=true then Oper.wp P o a w K Q else E:=by
 have hw:Region.wanted o (yielded ops a.tmps)=true:=by simp [Region.wanted,hg]
 rw [if_pos hw]
 obtain ⟨v',w',hrun,r1,r2,-,r4⟩:=run_append_own_at (P:=P) w 0 t o.type e i z size bytes ht hi hz hsize hby hzs hsz v n xs hown ad m c news hl hnews h1 h63 hbytes (Nat.zero_le _)
 unfold Oper.wp
 simp [execOp,hop,resolve,invoke,builtin,hs,hx,hrun,Result.andThen]
 exact hK v' w' r1 r2 r4
abbrev Blk (w:World) (b:Nat) (cs:List Value) (t:TypeId):Prop:=w.heap[b]? = some (.cells cs.toArray t (0,0))
theorem Blk.cell {w:World} {b:Nat} {cs:List Value} {t:TypeId} (h:Blk w b cs t) (j:Nat):w.cell? ⟨b,j,none⟩=cs[j]?:=by
 simp [World.cell?,h]
theorem Blk.frozen {w:World} {b:Nat} {cs:List Value} {t:TypeId} (h:Blk w b cs t) (j:Nat):w.frozen? ⟨b,j,none⟩=false:=by
 simp [World.frozen?,h]
theorem Blk.lt {w:World} {b:Nat} {cs:List Value} {t:TypeId} (h:Blk w b cs t):b < w.heap.size:=(Array.getElem?_eq_some_iff.1 h).1
theorem Blk.move {w w':World} {b:Nat} {cs:List Value} {t:TypeId} (h:Blk w b cs t) (e:w'.heap[b]? = w.heap[b]?):Blk w' b cs t:=e.trans h
theorem Blk.below {w w':World} {b:Nat} {cs:List Value} {t:TypeId} (h:Blk w b cs t) (hb:Below w.heap.size w w'):Blk w' b cs t:=h.move (hb.block b h.lt)
theorem Blk.touch {S:Nat → Prop} {w w':World} {b:Nat} {cs:List Value} {t:TypeId} (h:Blk w b cs t) (ht:Touch S w w') (hs:¬ S b):Blk w' b cs t:=h.move (ht.block b h.lt hs)
theorem Blk.set {w:World} {b:Nat} {cs:List Value} {t:TypeId} (h:Blk w b cs t) (j:Nat) (v:Value):Blk (w.setCell ⟨b,j,none⟩ v) b (cs.set j v) t:=by
 have:=heap_setCell_same w b j cs.toArray t v h
 rw [Blk,this]; simp
theorem Blk.alloc {w:World} {b:Nat} {cs:List Value} {t:TypeId} (h:Blk w b cs t) (o:Obj):Blk (w.alloc o) b cs t:=h.move (Below.heap_alloc w o b h.lt)
theorem Blk.other {w:World} {b:Nat} {cs:List Value} {t:TypeId} (h:Blk w b cs t) {p:Addr} (hp:b ≠ p.block) (v:Value):Blk (w.setCell p v) b cs t:=h.move (Below.heap_setCell _ _ _ _ hp)
theorem Row.other {w:World} {e:TypeId} {size:Nat} {v:Value} {n:Nat} {xs:List Value} (h:Row w e size v n xs) {p:Addr} (hp:¬ v.ownBlock=some p.block) (u:Value):Row (w.setCell p u) e size v n xs:=
 Row.move h fun k hk=>Below.heap_setCell _ _ _ _ (fun e=>hp (by rw [hk,e]))
theorem news_at {W:World} {b:Nat} {cs:List Value} {t:TypeId} (h:Blk W b cs t):∀ j u,cs[j]? = some u → W.cell? ((⟨b,0,none⟩:Addr).add j)=some u:=by
 intro j u hu
 rw [Addr.add_lit,Nat.zero_add,h.cell j,hu]
theorem flat_set {α:Type} (f:α → List Value) (s:Nat) (hf:∀ a,(f a).length=s):∀ (l:List α) (k j:Nat) (hk:k < l.length) (v:Value) (x:α),j < s → f x=(f l[k]).set j v →
  (l.flatMap f).set (k * s + j) v=(l.set k x).flatMap f
 | [],_,_,hk,_,_,_,_=>by simp at hk
 | a :: l,0,j,_,v,x,hj,hx=>by
  rw [List.set_cons_zero,List.flatMap_cons,List.flatMap_cons,List.set_append_left _ _ (by rw [hf]; omega),hx]
  simp
 | a :: l,k + 1,j,hk,v,x,hj,hx=>by
  have ih:=flat_set f s hf l k j (by simpa using hk) v x hj (by simpa using hx)
  rw [List.set_cons_succ,List.flatMap_cons,List.flatMap_cons,List.set_append_right _ _ (by rw [hf,Nat.add_mul]; omega),← ih,hf]
  congr 2
  rw [Nat.add_mul]; omega
end Go.Proofs.YtiplgdkpnhamaaaGreatDoor
namespace Go.Proofs.YtiplgdkpnhamaaaGreatDoor
open Go.RowKit
abbrev Tag:=Nat × Nat × Nat
def upd (o:Nat → Tag) (b:Nat) (t:Tag):Nat → Tag:=fun q=>if q=b then t else o q
theorem upd_same (o:Nat → Tag) (b:Nat) (t:Tag):upd o b t b=t:=by simp [upd]
theorem upd_other {o:Nat → Tag} {b q:Nat} {t:Tag} (h:q ≠ b):upd o b t q=o q:=by simp [upd,h]
structure Pc (w:World) (o:Nat → Tag) (t:Tag) (e:TypeId) (size:Nat) (v:Value) (n:Nat) (xs:List Value):Prop where
 row:Row w e size v n xs
 tag:∀ q,v.ownBlock=some q → o q=t
structure Bl (w:World) (o:Nat → Tag) (t:Tag) (b:Nat) (cs:List Value) (ty:TypeId):Prop where
 blk:Blk w b cs ty
 tag:o b=t
structure TouchT (A:Tag → Prop) (w:World) (o:Nat → Tag) (w':World) (o':Nat → Tag):Prop where
 touch:Touch (fun q=>A (o q)) w w'
 same:∀ q,q < w.heap.size → o' q=o q
theorem TouchT.refl (A:Tag → Prop) (w:World) (o:Nat → Tag):TouchT A w o w o:=⟨Touch.refl _ _,fun _ _=>rfl⟩
theorem TouchT.trans {A:Tag → Prop} {w w1 w2:World} {o o1 o2:Nat → Tag} (h:TouchT A w o w1 o1) (k:TouchT A w1 o1 w2 o2):TouchT A w o w2 o2:=by
 refine ⟨h.touch.trans (k.touch.mono fun q hq ha=>?_),fun q hq=>(k.same q (Nat.lt_of_lt_of_le hq h.touch.size)).trans (h.same q hq)⟩
 by_cases hw:q < w.heap.size
 ·rw [h.same q hw] at ha; exact Or.inl ha
 ·exact Or.inr (by omega)
theorem TouchT.mono {A B:Tag → Prop} {w w1:World} {o o1:Nat → Tag} (h:TouchT A w o w1 o1) (hs:∀ t,A t → B t):TouchT B w o w1 o1:=⟨h.touch.mono fun _ _ ha=>hs _ ha,h.same⟩
theorem TouchT.set {A:Tag → Prop} {w w1:World} {o o1:Nat → Tag} {p:Addr} (h:TouchT A w o w1 o1) (hp:A (o1 p.block)) (u:Value):TouchT A w o (w1.setCell p u) o1:=by
 refine ⟨h.touch.setCell ?_ u,h.same⟩
 by_cases hw:p.block < w.heap.size
 ·rw [h.same _ hw] at hp; exact Or.inl hp
 ·exact Or.inr (by omega)
theorem TouchT.grew {A:Tag → Prop} {w w1 w2:World} {o o1:Nat → Tag} {row:Option Nat} {t:Tag} (h:TouchT A w o w1 o1) (hg:w1.grownBy w2 row) (hr:∀ q,row=some q → o1 q=t) (ht:A t):TouchT A w o w2 (upd o1 w1.heap.size t):=by
 refine ⟨h.touch.grown hg fun q hq=>?_,fun q hq=>?_⟩
 ·by_cases hw:q < w.heap.size
  ·left
   have e:=hr q hq
   rw [h.same q hw] at e
   rw [e]; exact ht
  ·exact Or.inr (by omega)
 ·rw [upd_other (by have:=h.touch.size; omega)]; exact h.same q hq
theorem TouchT.below {A:Tag → Prop} {w w1 w2:World} {o o1:Nat → Tag} (h:TouchT A w o w1 o1) (hb:Below w1.heap.size w1 w2):TouchT A w o w2 o1:=
 ⟨h.touch.trans (Touch.ofBelow hb),h.same⟩
def own2 (o:Nat → Tag) (s:Nat) (f:Nat → Tag):Nat → Tag:=fun q=>if q < s then o q else f q
theorem own2_low {o f:Nat → Tag} {s q:Nat} (h:q < s):own2 o s f q=o q:=by simp [own2,h]
theorem own2_high {o f:Nat → Tag} {s q:Nat} (h:s ≤ q):own2 o s f q=f q:=by simp [own2,show ¬ q < s by omega]
theorem TouchT.belowNew {A:Tag → Prop} {w w1 w2:World} {o o1:Nat → Tag} (h:TouchT A w o w1 o1) (hb:Below w1.heap.size w1 w2) (f:Nat → Tag):TouchT A w o w2 (own2 o1 w1.heap.size f):=
 ⟨h.touch.trans (Touch.ofBelow hb),fun q hq=>by rw [own2_low (by have:=h.touch.size; omega)]; exact h.same q hq⟩
variable {w w':World} {o:Nat → Tag} {t t':Tag} {e e':TypeId} {size size' n n' b b':Nat} {v v' u:Value} {xs xs' cs:List Value} {ty:TypeId}
theorem Pc.lt (h:Pc w o t e size v n xs) {q:Nat} (hq:v.ownBlock=some q):q < w.heap.size:=h.row.lt hq
theorem Pc.move {o':Nat → Tag} (h:Pc w o t e size v n xs) (hb:∀ q,q < w.heap.size → o q=t → w'.heap[q]? = w.heap[q]?) (ho:∀ q,q < w.heap.size → o' q=o q):Pc w' o' t e size v n xs:=
 ⟨h.row.move fun k hk=>hb k (h.lt hk) (h.tag k hk),fun q hq=>by rw [ho q (h.lt hq)]; exact h.tag q hq⟩
theorem Bl.move {o':Nat → Tag} (h:Bl w o t b cs ty) (hb:∀ q,q < w.heap.size → o q=t → w'.heap[q]? = w.heap[q]?) (ho:∀ q,q < w.heap.size → o' q=o q):Bl w' o' t b cs ty:=
 ⟨h.blk.move (hb b h.blk.lt h.tag),by rw [ho b h.blk.lt]; exact h.tag⟩
theorem Pc.touch {A:Tag → Prop} {o':Nat → Tag} (h:Pc w o t e size v n xs) (k:TouchT A w o w' o') (ht:¬ A t):Pc w' o' t e size v n xs:=
 h.move (fun q hq e=>k.touch.block q hq (by rw [e]; exact ht)) k.same
theorem Bl.touch {A:Tag → Prop} {o':Nat → Tag} (h:Bl w o t b cs ty) (k:TouchT A w o w' o') (ht:¬ A t):Bl w' o' t b cs ty:=
 h.move (fun q hq e=>k.touch.block q hq (by rw [e]; exact ht)) k.same
theorem Pc.grew {row:Option Nat} (h:Pc w o t e size v n xs) (hg:w.grownBy w' row) (hr:∀ q,row=some q → o q=t') (hne:t ≠ t'):Pc w' (upd o w.heap.size t') t e size v n xs:=
 h.move (fun q hq e=>hg.block q hq (fun c=>hne (by rw [← e,hr q c.symm]))) (fun q hq=>upd_other (by omega))
theorem Bl.grew {row:Option Nat} (h:Bl w o t b cs ty) (hg:w.grownBy w' row) (hr:∀ q,row=some q → o q=t') (hne:t ≠ t'):Bl w' (upd o w.heap.size t') t b cs ty:=
 h.move (fun q hq e=>hg.block q hq (fun c=>hne (by rw [← e,hr q c.symm]))) (fun q hq=>upd_other (by omega))
theorem Pc.app (h:Pc w o t e size v n xs) (hrow:w'.ownsRow 0 e size v' n' xs') (hat:v'.ownBlock=v.ownBlock ∨ v'.ownBlock=some w.heap.size):Pc w' (upd o w.heap.size t) t e size v' n' xs':=by
 refine ⟨hrow,fun q hq=>?_⟩
 rcases hat with a | a
 ·have hq':v.ownBlock=some q:=by rw [← a]; exact hq
  rw [upd_other (by have:=h.lt hq'; omega)]; exact h.tag q hq'
 ·rw [a] at hq; cases hq; exact upd_same _ _ _
theorem Pc.set (h:Pc w o t e size v n xs) {p:Addr} (hp:o p.block=t') (hne:t ≠ t') (x:Value):Pc (w.setCell p x) o t e size v n xs:=
 ⟨h.row.other (fun c=>hne (by rw [← h.tag _ c,hp])) x,h.tag⟩
theorem Bl.set (h:Bl w o t b cs ty) (j:Nat) (x:Value):Bl (w.setCell ⟨b,j,none⟩ x) o t b (cs.set j x) ty:=⟨h.blk.set j x,h.tag⟩
theorem Bl.alloc (h:Bl w o t b cs ty) (ob:Obj):Bl (w.alloc ob) o t b cs ty:=⟨h.blk.alloc ob,h.tag⟩
theorem Bl.below (h:Bl w o t b cs ty) (hb:Below w.heap.size w w'):Bl w' o t b cs ty:=⟨h.blk.below hb,h.tag⟩
theorem Pc.new {s:Nat} {f:Nat → Tag} (h:w.ownsRow s e size v n xs) (hf:∀ q,v.ownBlock=some q → f q=t):Pc w (own2 o s f) t e size v n xs:=
 ⟨ownsRow_low h (Nat.zero_le _),fun q hq=>by rw [own2_high (h.lt q hq).1]; exact hf q hq⟩
end Go.Proofs.YtiplgdkpnhamaaaGreatDoor
namespace Go.Proofs.YtiplgdkpnhamaaaGreatDoor
open Go.RowKit
theorem news1 (w:World) (cs:List Value) (t:TypeId):∀ j u,cs[j]? = some u → (w.alloc (.cells cs.toArray t)).drew.cell? ((⟨w.heap.size,0,none⟩:Addr).add j)=some u:=by
 have h:Blk (w.alloc (.cells cs.toArray t)).drew w.heap.size cs t:=heap_alloc_new w (.cells cs.toArray t)
 exact news_at h
end Go.Proofs.YtiplgdkpnhamaaaGreatDoor
namespace Go.Proofs.YtiplgdkpnhamaaaGreatDoor
open Go.RowKit
open Go.Maps (Keyed)
def rawElem (v:Value):Option (DataW Value × List MemPlace):=some (.held v,[])
structure MapIn {α β:Type} (w:World) (k:TypeId) (b n:Nat) (kv:α → Value) (ev:β → Value) (m:α → Option β):Prop where
 ex:∃ D,w.ownsMap Tryz.prog k rawElem b n D ∧ (∀ a kl,keyOf Tryz.prog k (kv a)=some kl → Maps.has D kl=(m a).isSome ∧ ∀ x,m a=some x → ∀ z,D.atKey kl z=.held (ev x)) ∧ ∀ kl,Maps.has D kl=true → ∃ a x,keyOf Tryz.prog k (kv a)=some kl ∧ m a=some x
section
variable {α β:Type} {w w':World} {k t e:TypeId} {b n:Nat} {kv:α → Value} {ev:β → Value} {m:α → Option β}
theorem MapIn.lt (h:MapIn w k b n kv ev m):b < w.heap.size:=by obtain ⟨D,hD,-⟩:=h.ex; exact hD.lt
theorem MapIn.move (h:MapIn w k b n kv ev m) (hb:w'.heap[b]? = w.heap[b]?):MapIn w' k b n kv ev m:=by
 obtain ⟨D,⟨es,clock,h1,h2⟩,r⟩:=h.ex
 exact ⟨D,⟨es,clock,hb.trans h1,h2⟩,r⟩
theorem MapIn.made (w:World) (k:TypeId) (kv:α → Value) (ev:β → Value):MapIn (w.alloc (.map #[] 0)) k w.heap.size 0 kv ev (fun _=>none):=
 ⟨_,World.ownsMap_made w Tryz.prog k rawElem,fun a kl _=>⟨rfl,fun x hx=>by cases hx⟩,fun kl hk=>by simp [Maps.has] at hk⟩
theorem MapIn.lookup (h:MapIn w k b n kv ev m) (K:Keyed Tryz.prog k) (ht:Tryz.prog.underlying t=some (.map k e)) {z:Value} (hz:(zeroValue e).run Tryz.prog w=.ok z w) {a:α} {kl:Lit} (hkey:keyOf Tryz.prog k (kv a)=some kl) :
  (Instr.lookup t (.map (some b)) (kv a) false).run Tryz.prog w=.ok ((m a).elim z ev) w:=by
 obtain ⟨D,hD,hat,-⟩:=h.ex
 obtain ⟨v,ps,hrun,hv⟩:=hD.lookup K ht hz (zd:=.held z) (zp:=[]) rfl hkey
 obtain ⟨h1,h2⟩:=hat a kl hkey
 have e1:DataW.held v=D.atKey kl (.held z):=congrArg Prod.fst (Option.some.inj hv)
 rw [hrun]
 cases hm:m a with
 | none=>
  rw [hm] at h1
  rw [Maps.atKey_of_not_has h1] at e1
  cases e1; rfl
 | some x=>
  rw [h2 x hm] at e1
  cases e1; rfl
theorem MapIn.lookup_ok (h:MapIn w k b n kv ev m) (K:Keyed Tryz.prog k) (ht:Tryz.prog.underlying t=some (.map k e)) {z:Value} (hz:(zeroValue e).run Tryz.prog w=.ok z w) {a:α} {kl:Lit} (hkey:keyOf Tryz.prog k (kv a)=some kl) :
  (Instr.lookup t (.map (some b)) (kv a) true).run Tryz.prog w=.ok (.tuple #[(m a).elim z ev,.bool (m a).isSome]) w:=by
 obtain ⟨D,hD,hat,-⟩:=h.ex
 obtain ⟨v,ps,hrun,hv⟩:=hD.look_ok K ht hz (zd:=.held z) (zp:=[]) rfl hkey
 obtain ⟨h1,h2⟩:=hat a kl hkey
 have e1:DataW.held v=D.atKey kl (.held z):=congrArg Prod.fst (Option.some.inj hv)
 rw [hrun,h1]
 cases hm:m a with
 | none=>
  rw [hm] at h1
  rw [Maps.atKey_of_not_has h1] at e1
  cases e1; rfl
 | some x=>
  rw [h2 x hm] at e1
  cases e1; rfl
theorem MapIn.store [DecidableEq α] (h:MapIn w k b n kv ev m) (K:Keyed Tryz.prog k) (ht:Tryz.prog.underlying t=some (.map k e)) (hinj:∀ a a',kv a=kv a' → a=a') (hn:n < maxLen) {a:α} {kl:Lit} (hkey:keyOf Tryz.prog k (kv a)=some kl) (x:β) :
  ∃ w',(Instr.mapUpdate t (.map (some b)) (kv a) (ev x)).run Tryz.prog w=.ok () w' ∧ MapIn w' k b (n + 1) kv ev (fun a'=>if a'=a then some x else m a') ∧ w.grownBy w' (some b):=by
 obtain ⟨D,hD,hat,hall⟩:=h.ex
 obtain ⟨w',hrun,hD',hg⟩:=hD.update K ht hn (d:=.held (ev x)) (ps:=[]) hkey rfl
 refine ⟨w',hrun,⟨_,hD',fun a' kl' hk'=>?_,fun kl' hh=>?_⟩,hg⟩
 ·by_cases c:a'=a
  ·subst c
   rw [hkey] at hk'
   cases hk'
   rw [if_pos rfl]
   refine ⟨Maps.has_put_same hD.isMap (K.key hkey) _,fun y hy z=>?_⟩
   cases hy
   exact Maps.atKey_put_same hD.isMap (K.key hkey) _ _
  ·have hne:kl' ≠ kl:=fun e=>c (hinj _ _ (K.inj hk' (e ▸ hkey)))
   rw [if_neg c,Maps.has_put_other hne]
   obtain ⟨h1,h2⟩:=hat a' kl' hk'
   refine ⟨h1,fun y hy z=>?_⟩
   rw [Maps.atKey_put_other hne]
   exact h2 y hy z
 ·by_cases c:kl'=kl
  ·subst c; exact ⟨a,x,hkey,by rw [if_pos rfl]⟩
  ·rw [Maps.has_put_other c] at hh
   obtain ⟨a',y,ha',hy⟩:=hall kl' hh
   refine ⟨a',y,ha',?_⟩
   rw [if_neg (fun e=>c (by rw [e,hkey] at ha'; exact (Option.some.inj ha').symm))]
   exact hy
theorem MapIn.drop [DecidableEq α] (h:MapIn w k b n kv ev m) (K:Keyed Tryz.prog k) (ht:Tryz.prog.underlying t=some (.map k e)) (hinj:∀ a a',kv a=kv a' → a=a') {a:α} {kl:Lit} (hkey:keyOf Tryz.prog k (kv a)=some kl) (ty:TypeId) :
  ∃ w',(Builtin.delete_ #[t,k] ty #[.map (some b),kv a]).run Tryz.prog w=.ok (.tuple #[]) w' ∧ MapIn w' k b n kv ev (fun a'=>if a'=a then none else m a') ∧ w.grownBy w' (some b):=by
 obtain ⟨D,hD,hat,hall⟩:=h.ex
 obtain ⟨w',hrun,hD',hg⟩:=hD.drop K ht hkey ty
 refine ⟨w',hrun,⟨_,hD',fun a' kl' hk'=>?_,fun kl' hh=>?_⟩,hg.grown⟩
 ·by_cases c:a'=a
  ·subst c
   rw [hkey] at hk'
   cases hk'
   rw [if_pos rfl]
   exact ⟨Maps.has_del_same,fun y hy=>by cases hy⟩
  ·have hne:kl' ≠ kl:=fun e=>c (hinj _ _ (K.inj hk' (e ▸ hkey)))
   rw [if_neg c,Maps.has_del_other hne]
   obtain ⟨h1,h2⟩:=hat a' kl' hk'
   refine ⟨h1,fun y hy z=>?_⟩
   rw [Maps.atKey_del_other hne]
   exact h2 y hy z
 ·by_cases c:kl'=kl
  ·subst c; rw [Maps.has_del_same] at hh; cases hh
  ·rw [Maps.has_del_other c] at hh
   obtain ⟨a',y,ha',hy⟩:=hall kl' hh
   refine ⟨a',y,ha',?_⟩
   rw [if_neg (fun e=>c (by rw [e,hkey] at ha'; exact (Option.some.inj ha').symm))]
   exact hy
end
end Go.Proofs.YtiplgdkpnhamaaaGreatDoor
namespace Go.Proofs.YtiplgdkpnhamaaaGreatDoor
open Go.RowKit
section
variable {A:Tag → Prop} {w0 wr:World} {o0 o:Nat → Tag} {tg ta tb tv tx:Tag} {gb b n idn:Nat} {rsv av vv v kv gv:Value} {vis:List Int} {axs xs:List XTx}
end
end Go.Proofs.YtiplgdkpnhamaaaGreatDoor
namespace Go.Proofs.YtiplgdkpnhamaaaGreatDoor
open Go.RowKit
end Go.Proofs.YtiplgdkpnhamaaaGreatDoor
namespace Go.Proofs.YtiplgdkpnhamaaaGreatDoor
open Go.RowKit
end Go.Proofs.YtiplgdkpnhamaaaGreatDoor
namespace Go.Proofs.YtiplgdkpnhamaaaGreatDoor
open Go.RowKit
end Go.Proofs.YtiplgdkpnhamaaaGreatDoor
namespace Go.Proofs.YtiplgdkpnhamaaaGreatDoor
open Go.RowKit
end Go.Proofs.YtiplgdkpnhamaaaGreatDoor
namespace Go.Proofs.YtiplgdkpnhamaaaGreatDoor
open Go.RowKit
open Go.Maps (Keyed)
open Go.ChangeMaps Go.MapKept
open Go.WideElems (Fit)
theorem modify_same {α:Type} (xs:Array α) (j:Nat) (f:α → α) (x:α) (hx:xs[j]? = some x) (hf:f x=x):xs.modify j f=xs:=by
 apply Array.ext_getElem?
 intro i
 rw [Array.getElem?_modify]
 by_cases c:j=i
 ·subst c; rw [if_pos rfl,hx]; simp [hf]
 ·rw [if_neg c]
theorem find_born {es:Array MapEntry} {j:Nat} {e0:MapEntry} (hj:es[j]? = some e0) (hn:(es.toList.map (·.born)).Nodup):es.findIdx? (fun e=>(e.born:Int) == (e0.born:Int))=some j:=by
 obtain ⟨hl,he⟩:=Array.getElem?_eq_some_iff.1 hj
 rw [Array.findIdx?_eq_some_iff_getElem]
 refine ⟨hl,by simp [he],fun i hi=>?_⟩
 simp only [Bool.not_eq_true,beq_eq_false_iff_ne,ne_eq]
 intro c
 have hil:i < es.size:=by omega
 have hp:=List.pairwise_iff_getElem.1 hn i j (by simpa using hil) (by simpa using hl) hi
 simp only [List.getElem_map,Array.getElem_toList,he] at hp
 omega
theorem find_last {es:Array MapEntry} {clock:Nat} {x:MapEntry} (hb:∀ y ∈ es.toList,y.born < clock) (hx:x.born=clock):(es.push x).findIdx? (fun e=>(e.born:Int) == (clock:Int))=some es.size:=by
 rw [Array.findIdx?_eq_some_iff_getElem]
 refine ⟨by simp,by simp [hx],fun i hi=>?_⟩
 simp only [Bool.not_eq_true,beq_eq_false_iff_ne,ne_eq,Array.getElem_push_lt hi]
 have:=hb es[i] (by simp)
 omega
theorem modify_last (es:Array MapEntry) (x:MapEntry) (f:MapEntry → MapEntry):(es.push x).modify es.size f=es.push (f x):=by
 apply Array.ext_getElem?
 intro i
 rw [Array.getElem?_modify,Array.getElem?_push,Array.getElem?_push]
 by_cases c:es.size=i
 ·subst c; simp
 ·rw [if_neg c]; rw [if_neg (fun e=>c e.symm),if_neg (fun e=>c e.symm)]
section
variable {α β:Type} {w:World} {k t e:TypeId} {b n:Nat} {kv:α → Value} {ev:β → Value} {m:α → Option β}
theorem setBlock_grown {w:World} {b:Nat} {es:Array MapEntry} {clock:Nat} {o:Obj} (hb:w.heap[b]? = some (.map es clock)):w.grownBy (setBlock w b o) (some b):=
 ⟨rfl,rfl,rfl,by simp [setBlock],fun i _ hi=>heap_setBlock_other hb _ (fun e=>hi (by rw [e]))⟩
theorem MapIn.entry [DecidableEq α] (h:MapIn w k b n kv ev m) (K:Keyed Tryz.prog k) (ht:Tryz.prog.underlying t=some (.map k e)) (hinj:∀ a a',kv a=kv a' → a=a') {z:Value} (hz:(zeroValue e).run Tryz.prog w=.ok z w) (hn:n < maxLen) {a:α} {kl:Lit} (hkey:keyOf Tryz.prog k (kv a)=some kl) :
  ∃ (w1:World) (st:Nat),(Instr.mapEntry t (.map (some b)) (kv a)).run Tryz.prog w=.ok (.tuple #[(m a).elim z ev,.int .i64 st]) w1 ∧ w.grownBy w1 (some b) ∧
   ∀ (W:World),W.heap[b]? = w1.heap[b]? → ∀ x:β,∃ W2,(Instr.entryStore t (.map (some b)) (.int .i64 st) (ev x)).run Tryz.prog W=.ok () W2 ∧ MapIn W2 k b (n + 1) kv ev (fun a'=>if a'=a then some x else m a') ∧ W.grownBy W2 (some b):=by
 have hlook:=h.lookup K ht hz hkey
 have hst:=fun x=>h.store K ht hinj hn hkey x
 obtain ⟨D,⟨es,clock,hb,F,hs,hD⟩,-⟩:=h.ex
 rcases K.find w hkey es.toList F.keys with ⟨h1,h2⟩ | ⟨j,e0,h1,h2,h3⟩
 ·have hv:(m a).elim z ev=z:=by
   have:(Instr.lookup t (.map (some b)) (kv a) false).run Tryz.prog w=.ok z w:=by
    simp [Instr.lookup,run_underlying ht,MapKept.run_getObj_map hb,K.check w _ hkey,h1,hz,Result.andThen]
   rw [hlook] at this
   exact (Result.ok.inj this).1
  refine ⟨setBlock w b (.map (es.push ⟨kv a,z,clock⟩) (clock + 1)),clock,?_,setBlock_grown hb,fun W hW x=>?_⟩
  ·rw [hv]
   simp [Instr.mapEntry,run_underlying ht,MapKept.run_getObj_map hb,K.check w false hkey,h1,hz,MapKept.run_setObj_map _ hb,Result.andThen,setBlock,goInt]
  ·rw [heap_setBlock_same hb] at hW
   obtain ⟨w2,hrun,hM,hg⟩:=hst x
   have e2:w2=setBlock w b (.map (es.push ⟨kv a,ev x,clock⟩) (clock + 1)):=by
    have:(Instr.mapUpdate t (.map (some b)) (kv a) (ev x)).run Tryz.prog w=.ok () (setBlock w b (.map (es.push ⟨kv a,ev x,clock⟩) (clock + 1))):=by
     simp [Instr.mapUpdate,run_underlying ht,MapKept.run_getObj_map hb,K.check w false hkey,h1,MapKept.run_setObj_map _ hb,Result.andThen,setBlock]
    rw [hrun] at this
    exact (Result.ok.inj this).2
   refine ⟨setBlock W b (.map (es.push ⟨kv a,ev x,clock⟩) (clock + 1)),?_,hM.move ?_,setBlock_grown hW⟩
   ·have hfi:=find_last (es:=es) (clock:=clock) (x:=⟨kv a,z,clock⟩) F.stamped.1 rfl
    simp [Instr.entryStore,MapKept.run_getObj_map hW,asInt,asIntOf,Result.andThen,hfi,modify_last,MapKept.run_setObj_map _ hW,setBlock]
   ·rw [e2,heap_setBlock_same hW,heap_setBlock_same hb]
 ·have hj:es[j]? = some e0:=by simpa using h2
  have hv:(m a).elim z ev=e0.val:=by
   have:(Instr.lookup t (.map (some b)) (kv a) false).run Tryz.prog w=.ok e0.val w:=by
    simp [Instr.lookup,run_underlying ht,MapKept.run_getObj_map hb,K.check w _ hkey,h1,Result.andThen]
   rw [hlook] at this
   exact (Result.ok.inj this).1
  have hsame:es.modify j (fun e=>{ e with key:=kv a })=es:=modify_same es j _ e0 hj (by rw [← h3])
  refine ⟨setBlock w b (.map es clock),e0.born,?_,setBlock_grown hb,fun W hW x=>?_⟩
  ·rw [hv]
   simp [Instr.mapEntry,run_underlying ht,MapKept.run_getObj_map hb,K.check w false hkey,h1,hj,h3,K.stays w hkey,hsame,MapKept.run_setObj_map _ hb,Result.andThen,setBlock,goInt]
  ·rw [heap_setBlock_same hb] at hW
   obtain ⟨w2,hrun,hM,hg⟩:=hst x
   have e2:w2=setBlock w b (.map (es.modify j fun e=>{ e with key:=kv a,val:=ev x }) clock):=by
    have:(Instr.mapUpdate t (.map (some b)) (kv a) (ev x)).run Tryz.prog w=.ok () (setBlock w b (.map (es.modify j fun e=>{ e with key:=kv a,val:=ev x }) clock)):=by
     simp [Instr.mapUpdate,run_underlying ht,MapKept.run_getObj_map hb,K.check w false hkey,h1,hj,h3,K.stays w hkey,MapKept.run_setObj_map _ hb,Result.andThen,setBlock]
    rw [hrun] at this
    exact (Result.ok.inj this).2
   have e3:(es.modify j fun e=>{ e with key:=kv a,val:=ev x })=es.modify j fun e=>{ e with val:=ev x }:=by
    apply Array.ext_getElem?
    intro i
    rw [Array.getElem?_modify,Array.getElem?_modify]
    by_cases c:j=i
    ·subst c; rw [if_pos rfl,if_pos rfl,hj]; simp [h3]
    ·rw [if_neg c,if_neg c]
   refine ⟨setBlock W b (.map (es.modify j fun e=>{ e with val:=ev x }) clock),?_,hM.move ?_,setBlock_grown hW⟩
   ·have hfi:=find_born hj F.stamped.2.1
    simp [Instr.entryStore,MapKept.run_getObj_map hW,asInt,asIntOf,Result.andThen,hfi,MapKept.run_setObj_map _ hW,setBlock]
   ·rw [e2,e3,heap_setBlock_same hW,heap_setBlock_same hb]
end
end Go.Proofs.YtiplgdkpnhamaaaGreatDoor
