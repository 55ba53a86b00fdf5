/- The texts M2, G1, L1, P4, R8, P5, G2, joined. -/
import Derived.Test.YtiplgdkpnhamaaaGreatDoorW02
import Derived.Test.YtiplgdkpnhamaaaGreatDoorW04
import Derived.Deep.RegionLaw
import Derived.Deep.DeepCutAuto
import Derived.Maps.AppendAt
import Derived.Test.YtiplgdkpnhamaaaGreatDoorProg
import Derived.Maps.OwnSet

/- A struct's block; append inside a region that draws its order. -/
namespace Go.Proofs.YtiplgdkpnhamaaaGreatDoor
open Go.RowKit

theorem step_append_own {P : Program} {ops : Array Oper} {o : Oper} {a : Act} {w : World} {K : Act → World → Prop} {Q : Exit → Act → World → Prop} {E : Prop}
    (hg : o.guard = none) (s x : Operand) (t : TypeId) (hop : o.op = Op.call { callee := Callee.builtin Builtin.append, args := #[s, x], argTypes := #[t, t] })
    (e : TypeId) (i : TypeInfo) (z : Value) (size bytes : Nat) (ht : P.underlying t = some (.slice e)) (hi : P.info? e = some i) (hz : i.zero = some z)
    (hsize : i.size = size) (hby : i.bytes = bytes) (hzs : z.cells.size = size) (hsz : 0 < size)
    (v : Value) (n : Nat) (xs : List Value) (hs : a.eval s = v) (hown : w.ownsRow 0 e size v n xs)
    (ad : Addr) (m c : Nat) (news : List Value) (hx : a.eval x = .slice (some ad) m c) (hl : news.length = m * size) (hnews : ∀ j u, news[j]? = some u → w.cell? (ad.add j) = some u) (h1 : ∀ u ∈ news, u.oneCell' = true)
    (h63 : n + m ≤ maxLen) (hbytes : (n + m) * bytes ≤ 140737488355328)
    (hK : ∀ v' w', w'.ownsRow 0 e size v' (n + m) (xs ++ news) → w.grownBy w' v.ownBlock → (v'.ownBlock = v.ownBlock ∨ v'.ownBlock = some w.heap.size) → K (a.put o.dst v') w') :
    if Region.wanted o (yielded ops a.tmps) = true then Oper.wp P o a w K Q else E := by
  have hw : Region.wanted o (yielded ops a.tmps) = true := by simp [Region.wanted, hg]
  rw [if_pos hw]
  obtain ⟨v', w', hrun, r1, r2, -, r4⟩ := run_append_own_at (P := P) w 0 t o.type e i z size bytes ht hi hz hsize hby hzs hsz v n xs hown ad m c news hl hnews h1 h63 hbytes (Nat.zero_le _)
  unfold Oper.wp
  simp [execOp, hop, resolve, invoke, builtin, hs, hx, hrun, Result.andThen]
  exact hK v' w' r1 r2 r4

/-- A struct that lies in a block of its own. -/
abbrev Blk (w : World) (b : Nat) (cs : List Value) (t : TypeId) : Prop := w.heap[b]? = some (.cells cs.toArray t (0, 0))
theorem Blk.cell {w : World} {b : Nat} {cs : List Value} {t : TypeId} (h : Blk w b cs t) (j : Nat) : w.cell? ⟨b, j, none⟩ = cs[j]? := by
  simp [World.cell?, h]
theorem Blk.frozen {w : World} {b : Nat} {cs : List Value} {t : TypeId} (h : Blk w b cs t) (j : Nat) : w.frozen? ⟨b, j, none⟩ = false := by
  simp [World.frozen?, h]
theorem Blk.lt {w : World} {b : Nat} {cs : List Value} {t : TypeId} (h : Blk w b cs t) : b < w.heap.size := (Array.getElem?_eq_some_iff.1 h).1
theorem Blk.move {w w' : World} {b : Nat} {cs : List Value} {t : TypeId} (h : Blk w b cs t) (e : w'.heap[b]? = w.heap[b]?) : Blk w' b cs t := e.trans h
theorem Blk.below {w w' : World} {b : Nat} {cs : List Value} {t : TypeId} (h : Blk w b cs t) (hb : Below w.heap.size w w') : Blk w' b cs t := h.move (hb.block b h.lt)
theorem Blk.touch {S : Nat → Prop} {w w' : World} {b : Nat} {cs : List Value} {t : TypeId} (h : Blk w b cs t) (ht : Touch S w w') (hs : ¬ S b) : Blk w' b cs t := h.move (ht.block b h.lt hs)
theorem Blk.set {w : World} {b : Nat} {cs : List Value} {t : TypeId} (h : Blk w b cs t) (j : Nat) (v : Value) : Blk (w.setCell ⟨b, j, none⟩ v) b (cs.set j v) t := by
  have := heap_setCell_same w b j cs.toArray t v h
  rw [Blk, this]; simp
theorem Blk.alloc {w : World} {b : Nat} {cs : List Value} {t : TypeId} (h : Blk w b cs t) (o : Obj) : Blk (w.alloc o) b cs t := h.move (Below.heap_alloc w o b h.lt)
theorem Blk.other {w : World} {b : Nat} {cs : List Value} {t : TypeId} (h : Blk w b cs t) {p : Addr} (hp : b ≠ p.block) (v : Value) : Blk (w.setCell p v) b cs t := h.move (Below.heap_setCell _ _ _ _ hp)
theorem Row.other {w : World} {e : TypeId} {size : Nat} {v : Value} {n : Nat} {xs : List Value} (h : Row w e size v n xs) {p : Addr} (hp : ¬ v.ownBlock = some p.block) (u : Value) : Row (w.setCell p u) e size v n xs :=
  Row.move h fun k hk => Below.heap_setCell _ _ _ _ (fun e => hp (by rw [hk, e]))

theorem news_at {W : World} {b : Nat} {cs : List Value} {t : TypeId} (h : Blk W b cs t) : ∀ j u, cs[j]? = some u → W.cell? ((⟨b, 0, none⟩ : Addr).add j) = some u := by
  intro j u hu
  rw [Addr.add_lit, Nat.zero_add, h.cell j, hu]
theorem news2 (w : World) (o : Obj) (cs : List Value) (t : TypeId) : ∀ j u, cs[j]? = some u → ((w.alloc o).alloc (.cells cs.toArray t)).drew.cell? ((⟨w.heap.size + 1, 0, none⟩ : Addr).add j) = some u := by
  have h : Blk ((w.alloc o).alloc (.cells cs.toArray t)).drew (w.heap.size + 1) cs t := by
    have e : w.heap.size + 1 = (w.alloc o).heap.size := by simp
    rw [e]
    exact heap_alloc_new (w.alloc o) (.cells cs.toArray t)
  exact news_at h
theorem grown_cell {W w' : World} {row : Option Nat} (hg : W.grownBy w' row) {b j : Nat} {u : Value} (h : W.cell? ⟨b, j, none⟩ = some u) (hf : W.frozen? ⟨b, j, none⟩ = false) (hne : ¬ row = some b) :
    w'.cell? ⟨b, j, none⟩ = some u ∧ w'.frozen? ⟨b, j, none⟩ = false := by
  have hb := hg.block b (World.block_lt_of_cell? W _ h) (fun e => hne e.symm)
  exact ⟨(World.cell?_of_block hb).trans h, (World.frozen?_of_block hb).trans hf⟩

/-- A thing put at a place of a list, or behind it. -/
def putAt {α : Type} (l : List α) (k : Nat) (x : α) : List α := if k < l.length then l.set k x else l ++ [x]
def freeAt (xs : List XTx) : Nat := xs.findIdx fun x => !x.isOpen
theorem freeAt_eq {xs : List XTx} {k : Nat} (hk : k ≤ xs.length) (h : ∀ j (hj : j < xs.length), j < k → xs[j].isOpen = true) (h2 : ∀ (hk : k < xs.length), xs[k].isOpen = false) : freeAt xs = k := by
  unfold freeAt
  by_cases hl : k < xs.length
  · rw [List.findIdx_eq hl]
    exact ⟨by simp [h2 hl], fun j hj => by simp [h j (by omega) hj]⟩
  · have : k = xs.length := by omega
    subst this
    rw [List.findIdx_eq_length]
    intro x hx
    obtain ⟨j, hj, rfl⟩ := List.mem_iff_getElem.1 hx
    simp [h j hj hj]
theorem flat_snoc {α : Type} (f : α → List Value) (l : List α) (a : α) : (l ++ [a]).flatMap f = l.flatMap f ++ f a := by simp
theorem flat_set {α : Type} (f : α → List Value) (s : Nat) (hf : ∀ a, (f a).length = s) : ∀ (l : List α) (k j : Nat) (hk : k < l.length) (v : Value) (x : α), j < s → f x = (f l[k]).set j v →
    (l.flatMap f).set (k * s + j) v = (l.set k x).flatMap f
  | [], _, _, hk, _, _, _, _ => by simp at hk
  | a :: l, 0, j, _, v, x, hj, hx => by
    rw [List.set_cons_zero, List.flatMap_cons, List.flatMap_cons, List.set_append_left _ _ (by rw [hf]; omega), hx]
    simp
  | a :: l, k + 1, j, hk, v, x, hj, hx => by
    have ih := flat_set f s hf l k j (by simpa using hk) v x hj (by simpa using hx)
    rw [List.set_cons_succ, List.flatMap_cons, List.flatMap_cons, List.set_append_right _ _ (by rw [hf, Nat.add_mul]; omega), ← ih, hf]
    congr 2
    rw [Nat.add_mul]; omega

end Go.Proofs.YtiplgdkpnhamaaaGreatDoor

/- Whose a block is: a ghost map from blocks to owners, so that blocks of different owners differ. -/
namespace Go.Proofs.YtiplgdkpnhamaaaGreatDoor
open Go.RowKit

abbrev Tag := Nat × Nat × Nat
def upd (o : Nat → Tag) (b : Nat) (t : Tag) : Nat → Tag := fun q => if q = b then t else o q
theorem upd_same (o : Nat → Tag) (b : Nat) (t : Tag) : upd o b t b = t := by simp [upd]
theorem upd_other {o : Nat → Tag} {b q : Nat} {t : Tag} (h : q ≠ b) : upd o b t q = o q := by simp [upd, h]

/-- A list whose array, if it has one, is a block of that owner. -/
structure Pc (w : World) (o : Nat → Tag) (t : Tag) (e : TypeId) (size : Nat) (v : Value) (n : Nat) (xs : List Value) : Prop where
  row : Row w e size v n xs
  tag : ∀ q, v.ownBlock = some q → o q = t
/-- A struct that lies in a block of that owner. -/
structure Bl (w : World) (o : Nat → Tag) (t : Tag) (b : Nat) (cs : List Value) (ty : TypeId) : Prop where
  blk : Blk w b cs ty
  tag : o b = t
/-- Of what was there, only blocks of owners of A have turned; and whose a block is has not. -/
structure TouchT (A : Tag → Prop) (w : World) (o : Nat → Tag) (w' : World) (o' : Nat → Tag) : Prop where
  touch : Touch (fun q => A (o q)) w w'
  same : ∀ q, q < w.heap.size → o' q = o q

theorem TouchT.refl (A : Tag → Prop) (w : World) (o : Nat → Tag) : TouchT A w o w o := ⟨Touch.refl _ _, fun _ _ => rfl⟩
theorem TouchT.trans {A : Tag → Prop} {w w1 w2 : World} {o o1 o2 : Nat → Tag} (h : TouchT A w o w1 o1) (k : TouchT A w1 o1 w2 o2) : TouchT A w o w2 o2 := by
  refine ⟨h.touch.trans (k.touch.mono fun q hq ha => ?_), fun q hq => (k.same q (Nat.lt_of_lt_of_le hq h.touch.size)).trans (h.same q hq)⟩
  by_cases hw : q < w.heap.size
  · rw [h.same q hw] at ha; exact Or.inl ha
  · exact Or.inr (by omega)
theorem TouchT.mono {A B : Tag → Prop} {w w1 : World} {o o1 : Nat → Tag} (h : TouchT A w o w1 o1) (hs : ∀ t, A t → B t) : TouchT B w o w1 o1 := ⟨h.touch.mono fun _ _ ha => hs _ ha, h.same⟩
theorem TouchT.size {A : Tag → Prop} {w w1 : World} {o o1 : Nat → Tag} (h : TouchT A w o w1 o1) : w.heap.size ≤ w1.heap.size := h.touch.size
theorem TouchT.drew {A : Tag → Prop} {w w1 : World} {o o1 : Nat → Tag} (h : TouchT A w o w1 o1) : TouchT A w o w1.drew o1 := ⟨h.touch.drew, h.same⟩
theorem TouchT.alloc {A : Tag → Prop} {w w1 : World} {o o1 : Nat → Tag} (h : TouchT A w o w1 o1) (b : Obj) : TouchT A w o (w1.alloc b) o1 := ⟨h.touch.alloc b, h.same⟩
theorem TouchT.set {A : Tag → Prop} {w w1 : World} {o o1 : Nat → Tag} {p : Addr} (h : TouchT A w o w1 o1) (hp : A (o1 p.block)) (u : Value) : TouchT A w o (w1.setCell p u) o1 := by
  refine ⟨h.touch.setCell ?_ u, h.same⟩
  by_cases hw : p.block < w.heap.size
  · rw [h.same _ hw] at hp; exact Or.inl hp
  · exact Or.inr (by omega)
theorem TouchT.grew {A : Tag → Prop} {w w1 w2 : World} {o o1 : Nat → Tag} {row : Option Nat} {t : Tag} (h : TouchT A w o w1 o1) (hg : w1.grownBy w2 row) (hr : ∀ q, row = some q → o1 q = t) (ht : A t) : TouchT A w o w2 (upd o1 w1.heap.size t) := by
  refine ⟨h.touch.grown hg fun q hq => ?_, fun q hq => ?_⟩
  · by_cases hw : q < w.heap.size
    · left
      have e := hr q hq
      rw [h.same q hw] at e
      rw [e]; exact ht
    · exact Or.inr (by omega)
  · rw [upd_other (by have := h.touch.size; omega)]; exact h.same q hq
theorem TouchT.below {A : Tag → Prop} {w w1 w2 : World} {o o1 : Nat → Tag} (h : TouchT A w o w1 o1) (hb : Below w1.heap.size w1 w2) : TouchT A w o w2 o1 :=
  ⟨h.touch.trans (Touch.ofBelow hb), h.same⟩
/-- New blocks get the owners that are wanted. -/
def own2 (o : Nat → Tag) (s : Nat) (f : Nat → Tag) : Nat → Tag := fun q => if q < s then o q else f q
theorem own2_low {o f : Nat → Tag} {s q : Nat} (h : q < s) : own2 o s f q = o q := by simp [own2, h]
theorem own2_high {o f : Nat → Tag} {s q : Nat} (h : s ≤ q) : own2 o s f q = f q := by simp [own2, show ¬ q < s by omega]
theorem TouchT.belowNew {A : Tag → Prop} {w w1 w2 : World} {o o1 : Nat → Tag} (h : TouchT A w o w1 o1) (hb : Below w1.heap.size w1 w2) (f : Nat → Tag) : TouchT A w o w2 (own2 o1 w1.heap.size f) :=
  ⟨h.touch.trans (Touch.ofBelow hb), fun q hq => by rw [own2_low (by have := h.touch.size; omega)]; exact h.same q hq⟩
theorem TouchT.later {A : Tag → Prop} {w w1 w2 : World} {o o1 : Nat → Tag} {S : Nat → Prop} (h : TouchT A w o w1 o1) (ht : Touch S w1 w2) (hs : ∀ q, q < w1.heap.size → S q → A (o1 q)) (f : Nat → Tag) : TouchT A w o w2 (own2 o1 w1.heap.size f) := by
  refine ⟨h.touch.trans (ht.mono fun q hq s => ?_), fun q hq => by rw [own2_low (by have := h.touch.size; omega)]; exact h.same q hq⟩
  by_cases hw : q < w.heap.size
  · have a := hs q hq s
    rw [h.same q hw] at a
    exact Or.inl a
  · exact Or.inr (by omega)

variable {w w' : World} {o : Nat → Tag} {t t' : Tag} {e e' : TypeId} {size size' n n' b b' : Nat} {v v' u : Value} {xs xs' cs : List Value} {ty : TypeId}
theorem Pc.lt (h : Pc w o t e size v n xs) {q : Nat} (hq : v.ownBlock = some q) : q < w.heap.size := h.row.lt hq
theorem Pc.move {o' : Nat → Tag} (h : Pc w o t e size v n xs) (hb : ∀ q, q < w.heap.size → o q = t → w'.heap[q]? = w.heap[q]?) (ho : ∀ q, q < w.heap.size → o' q = o q) : Pc w' o' t e size v n xs :=
  ⟨h.row.move fun k hk => hb k (h.lt hk) (h.tag k hk), fun q hq => by rw [ho q (h.lt hq)]; exact h.tag q hq⟩
theorem Bl.move {o' : Nat → Tag} (h : Bl w o t b cs ty) (hb : ∀ q, q < w.heap.size → o q = t → w'.heap[q]? = w.heap[q]?) (ho : ∀ q, q < w.heap.size → o' q = o q) : Bl w' o' t b cs ty :=
  ⟨h.blk.move (hb b h.blk.lt h.tag), by rw [ho b h.blk.lt]; exact h.tag⟩
theorem Pc.touch {A : Tag → Prop} {o' : Nat → Tag} (h : Pc w o t e size v n xs) (k : TouchT A w o w' o') (ht : ¬ A t) : Pc w' o' t e size v n xs :=
  h.move (fun q hq e => k.touch.block q hq (by rw [e]; exact ht)) k.same
theorem Bl.touch {A : Tag → Prop} {o' : Nat → Tag} (h : Bl w o t b cs ty) (k : TouchT A w o w' o') (ht : ¬ A t) : Bl w' o' t b cs ty :=
  h.move (fun q hq e => k.touch.block q hq (by rw [e]; exact ht)) k.same
theorem Pc.grew {row : Option Nat} (h : Pc w o t e size v n xs) (hg : w.grownBy w' row) (hr : ∀ q, row = some q → o q = t') (hne : t ≠ t') : Pc w' (upd o w.heap.size t') t e size v n xs :=
  h.move (fun q hq e => hg.block q hq (fun c => hne (by rw [← e, hr q c.symm]))) (fun q hq => upd_other (by omega))
theorem Bl.grew {row : Option Nat} (h : Bl w o t b cs ty) (hg : w.grownBy w' row) (hr : ∀ q, row = some q → o q = t') (hne : t ≠ t') : Bl w' (upd o w.heap.size t') t b cs ty :=
  h.move (fun q hq e => hg.block q hq (fun c => hne (by rw [← e, hr q c.symm]))) (fun q hq => upd_other (by omega))
theorem Pc.app (h : Pc w o t e size v n xs) (hrow : w'.ownsRow 0 e size v' n' xs') (hat : v'.ownBlock = v.ownBlock ∨ v'.ownBlock = some w.heap.size) : Pc w' (upd o w.heap.size t) t e size v' n' xs' := by
  refine ⟨hrow, fun q hq => ?_⟩
  rcases hat with a | a
  · have hq' : v.ownBlock = some q := by rw [← a]; exact hq
    rw [upd_other (by have := h.lt hq'; omega)]; exact h.tag q hq'
  · rw [a] at hq; cases hq; exact upd_same _ _ _
theorem Pc.set (h : Pc w o t e size v n xs) {p : Addr} (hp : o p.block = t') (hne : t ≠ t') (x : Value) : Pc (w.setCell p x) o t e size v n xs :=
  ⟨h.row.other (fun c => hne (by rw [← h.tag _ c, hp])) x, h.tag⟩
theorem Bl.other (h : Bl w o t b cs ty) {p : Addr} (hp : o p.block = t') (hne : t ≠ t') (x : Value) : Bl (w.setCell p x) o t b cs ty :=
  ⟨h.blk.other (fun c => hne (by rw [← h.tag, c, hp])) x, h.tag⟩
theorem Bl.set (h : Bl w o t b cs ty) (j : Nat) (x : Value) : Bl (w.setCell ⟨b, j, none⟩ x) o t b (cs.set j x) ty := ⟨h.blk.set j x, h.tag⟩
theorem Pc.alloc (h : Pc w o t e size v n xs) (ob : Obj) : Pc (w.alloc ob) o t e size v n xs := ⟨World.ownsRow.alloc h.row ob, h.tag⟩
theorem Bl.alloc (h : Bl w o t b cs ty) (ob : Obj) : Bl (w.alloc ob) o t b cs ty := ⟨h.blk.alloc ob, h.tag⟩
theorem Pc.drew (h : Pc w o t e size v n xs) : Pc w.drew o t e size v n xs := ⟨h.row, h.tag⟩
theorem Bl.drew (h : Bl w o t b cs ty) : Bl w.drew o t b cs ty := ⟨h.blk, h.tag⟩
theorem Pc.below (h : Pc w o t e size v n xs) (hb : Below w.heap.size w w') : Pc w' o t e size v n xs := ⟨h.row.below hb, h.tag⟩
theorem Bl.below (h : Bl w o t b cs ty) (hb : Below w.heap.size w w') : Bl w' o t b cs ty := ⟨h.blk.below hb, h.tag⟩
/-- A new list gets an owner. -/
theorem Pc.new {s : Nat} {f : Nat → Tag} (h : w.ownsRow s e size v n xs) (hf : ∀ q, v.ownBlock = some q → f q = t) : Pc w (own2 o s f) t e size v n xs :=
  ⟨ownsRow_low h (Nat.zero_le _), fun q hq => by rw [own2_high (h.lt q hq).1]; exact hf q hq⟩

end Go.Proofs.YtiplgdkpnhamaaaGreatDoor

/- The law's takes: a list of texts is written over by its owner, and kept: what it leaves alone. -/
namespace Go.Proofs.YtiplgdkpnhamaaaGreatDoor
open Go.RowKit

theorem Tryz.infoStrs : (Tryz.prog.info? 41).map (fun i => (i.zero, i.size, i.bytes)) = some (some (.slice none 0 0), 1, 24) := by kernel_rfl

/-- The law's group in memory, as far as takes and counts look at it. -/
structure TakeSt (w0 : World) (o0 : Nat → Tag) (A : Tag → Prop) (wr : World) (o : Nat → Tag) (wb : Nat) (tb tt tm tl : Tag) (rs g way tv mv nv kv : Value) (cnt : Int) (m : Nat) (l : Value) (n : Nat) : Prop where
  blk : Bl wr o tb wb [rs, g, way, tv, mv, nv, kv, .int .i64 cnt] 94
  texts : ∃ ts, ts.length ≤ m ∧ Pc wr o tt 41 1 tv ts.length ts
  marks : ∃ ms, ms.length ≤ m ∧ Pc wr o tm 3 1 mv ms.length ms
  list : ∃ xs, Pc wr o tl 9 1 l n xs
  touch : TouchT A w0 o0 wr o

theorem TakeSt.stored {w0 wr : World} {o0 o : Nat → Tag} {A : Tag → Prop} {wb : Nat} {tb tt tm tl : Tag} {rs g way tv mv nv kv : Value} {cnt : Int} {m n gl cap j : Nat}
    (h : TakeSt w0 o0 A wr o wb tb tt tm tl rs g way tv mv nv kv cnt m (.slice (some ⟨gl, 0, none⟩) n cap) n) (d : tb ≠ tl ∧ tt ≠ tl ∧ tm ≠ tl) (ha : A tl) (x : Value) :
    TakeSt w0 o0 A (wr.setCell ⟨gl, j, none⟩ x) o wb tb tt tm tl rs g way tv mv nv kv cnt m (.slice (some ⟨gl, 0, none⟩) n cap) n := by
  obtain ⟨hb, ⟨ts, htn, ht⟩, ⟨ms, hmn, hm⟩, ⟨xs, hx⟩, hto⟩ := h
  have e : o (⟨gl, j, none⟩ : Addr).block = tl := hx.tag gl rfl
  exact ⟨hb.other e d.1 x, ⟨ts, htn, ht.set e d.2.1 x⟩, ⟨ms, hmn, hm.set e d.2.2 x⟩, ⟨_, ⟨(World.ownsRow.stored hx.row j x).1, hx.tag⟩⟩, hto.set (by rw [e]; exact ha) x⟩

/-- One more in the list of lists. -/
theorem TakeSt.kept {w0 wr w1 : World} {o0 o : Nat → Tag} {A : Tag → Prop} {wb : Nat} {tb tt tm tl : Tag} {rs g way tv mv nv kv v1 : Value} {cnt : Int} {m n : Nat} {l : Value} {ob : Obj} {ts news : List Value}
    (hB : Bl wr o tb wb [rs, g, way, tv, mv, nv, kv, .int .i64 cnt] 94) (hT : Pc wr o tt 41 1 tv ts.length ts) (hM : ∃ ms, ms.length ≤ m ∧ Pc wr o tm 3 1 mv ms.length ms)
    (hL : ∃ xs, Pc wr o tl 9 1 l n xs) (hto : TouchT A w0 o0 wr o) (htn : ts.length ≤ m) (hn1 : news.length = 1)
    (d : tb ≠ tt ∧ tm ≠ tt ∧ tl ≠ tt ∧ tt ≠ tb ∧ tm ≠ tb ∧ tl ≠ tb) (ha : A tt ∧ A tb)
    (hown : w1.ownsRow 0 41 1 v1 (ts.length + 1) (ts ++ news)) (hg : (wr.alloc ob).grownBy w1 tv.ownBlock) (hat : v1.ownBlock = tv.ownBlock ∨ v1.ownBlock = some (wr.alloc ob).heap.size) :
    TakeSt w0 o0 A (w1.setCell ⟨wb, 3, none⟩ v1) (upd o (wr.alloc ob).heap.size tt) wb tb tt tm tl rs g way v1 mv nv kv cnt (m + 1) l n := by
  obtain ⟨ms, hmn, hM⟩ := hM
  obtain ⟨xs, hL⟩ := hL
  have hB1 := (hB.alloc ob).grew hg hT.tag d.1
  have hT1 := (hT.alloc ob).app hown hat
  have hM1 := (hM.alloc ob).grew hg hT.tag d.2.1
  have hL1 := (hL.alloc ob).grew hg hT.tag d.2.2.1
  have e : upd o (wr.alloc ob).heap.size tt (⟨wb, 3, none⟩ : Addr).block = tb := hB1.tag
  refine ⟨hB1.set 3 v1, ⟨ts ++ news, by simp [hn1]; omega, ?_⟩, ⟨ms, by omega, hM1.set e d.2.2.2.2.1 v1⟩, ⟨xs, hL1.set e d.2.2.2.2.2 v1⟩, ((hto.alloc ob).grew hg hT.tag ha.1).set (by rw [e]; exact ha.2) v1⟩
  rw [List.length_append, hn1]
  exact hT1.set e d.2.2.2.1 v1
/-- One more in the list of marks. -/
theorem TakeSt.marked {w0 wr w1 : World} {o0 o : Nat → Tag} {A : Tag → Prop} {wb : Nat} {tb tt tm tl : Tag} {rs g way tv mv nv kv v1 : Value} {cnt : Int} {m n : Nat} {l : Value} {ob : Obj} {ms news : List Value}
    (hB : Bl wr o tb wb [rs, g, way, tv, mv, nv, kv, .int .i64 cnt] 94) (hT : ∃ ts, ts.length ≤ m ∧ Pc wr o tt 41 1 tv ts.length ts) (hM : Pc wr o tm 3 1 mv ms.length ms)
    (hL : ∃ xs, Pc wr o tl 9 1 l n xs) (hto : TouchT A w0 o0 wr o) (hmn : ms.length ≤ m) (hn1 : news.length = 1)
    (d : tb ≠ tm ∧ tt ≠ tm ∧ tl ≠ tm ∧ tm ≠ tb ∧ tt ≠ tb ∧ tl ≠ tb) (ha : A tm ∧ A tb)
    (hown : w1.ownsRow 0 3 1 v1 (ms.length + 1) (ms ++ news)) (hg : (wr.alloc ob).grownBy w1 mv.ownBlock) (hat : v1.ownBlock = mv.ownBlock ∨ v1.ownBlock = some (wr.alloc ob).heap.size) :
    TakeSt w0 o0 A (w1.setCell ⟨wb, 4, none⟩ v1) (upd o (wr.alloc ob).heap.size tm) wb tb tt tm tl rs g way tv v1 nv kv cnt (m + 1) l n := by
  obtain ⟨ts, htn, hT⟩ := hT
  obtain ⟨xs, hL⟩ := hL
  have hB1 := (hB.alloc ob).grew hg hM.tag d.1
  have hM1 := (hM.alloc ob).app hown hat
  have hT1 := (hT.alloc ob).grew hg hM.tag d.2.1
  have hL1 := (hL.alloc ob).grew hg hM.tag d.2.2.1
  have e : upd o (wr.alloc ob).heap.size tm (⟨wb, 4, none⟩ : Addr).block = tb := hB1.tag
  refine ⟨hB1.set 4 v1, ⟨ts, by omega, hT1.set e d.2.2.2.2.1 v1⟩, ⟨ms ++ news, by simp [hn1]; omega, ?_⟩, ⟨xs, hL1.set e d.2.2.2.2.2 v1⟩, ((hto.alloc ob).grew hg hM.tag ha.1).set (by rw [e]; exact ha.2) v1⟩
  rw [List.length_append, hn1]
  exact hM1.set e d.2.2.2.1 v1
/-- The list grows. -/
theorem TakeSt.longer {w0 wr w1 : World} {o0 o : Nat → Tag} {A : Tag → Prop} {wb : Nat} {tb tt tm tl : Tag} {rs g way tv mv nv kv v1 : Value} {cnt : Int} {m n : Nat} {l : Value} {ob : Obj} {xs ys : List Value}
    (hB : Bl wr o tb wb [rs, g, way, tv, mv, nv, kv, .int .i64 cnt] 94) (hT : ∃ ts, ts.length ≤ m ∧ Pc wr o tt 41 1 tv ts.length ts) (hM : ∃ ms, ms.length ≤ m ∧ Pc wr o tm 3 1 mv ms.length ms)
    (hL : Pc wr o tl 9 1 l n xs) (hto : TouchT A w0 o0 wr o)
    (d : tb ≠ tl ∧ tt ≠ tl ∧ tm ≠ tl) (ha : A tl)
    (hown : w1.ownsRow 0 9 1 v1 (n + 1) ys) (hg : (wr.alloc ob).grownBy w1 l.ownBlock) (hat : v1.ownBlock = l.ownBlock ∨ v1.ownBlock = some (wr.alloc ob).heap.size) :
    TakeSt w0 o0 A w1 (upd o (wr.alloc ob).heap.size tl) wb tb tt tm tl rs g way tv mv nv kv cnt m v1 (n + 1) := by
  obtain ⟨ts, htn, hT⟩ := hT
  obtain ⟨ms, hmn, hM⟩ := hM
  exact ⟨(hB.alloc ob).grew hg hL.tag d.1, ⟨ts, htn, (hT.alloc ob).grew hg hL.tag d.2.1⟩, ⟨ms, hmn, (hM.alloc ob).grew hg hL.tag d.2.2⟩, ⟨ys, (hL.alloc ob).app hown hat⟩, (hto.alloc ob).grew hg hL.tag ha⟩
theorem TakeSt.bound {w0 wr : World} {o0 o : Nat → Tag} {A : Tag → Prop} {wb : Nat} {tb tt tm tl : Tag} {rs g way tv mv nv kv : Value} {cnt : Int} {m m' n : Nat} {l : Value}
    (h : TakeSt w0 o0 A wr o wb tb tt tm tl rs g way tv mv nv kv cnt m l n) (hm : m ≤ m') : TakeSt w0 o0 A wr o wb tb tt tm tl rs g way tv mv nv kv cnt m' l n := by
  obtain ⟨hb, ⟨ts, htn, ht⟩, ⟨ms, hmn, hm'⟩, hx, hto⟩ := h
  exact ⟨hb, ⟨ts, by omega, ht⟩, ⟨ms, by omega, hm'⟩, hx, hto⟩
theorem news1 (w : World) (cs : List Value) (t : TypeId) : ∀ j u, cs[j]? = some u → (w.alloc (.cells cs.toArray t)).drew.cell? ((⟨w.heap.size, 0, none⟩ : Addr).add j) = some u := by
  have h : Blk (w.alloc (.cells cs.toArray t)).drew w.heap.size cs t := heap_alloc_new w (.cells cs.toArray t)
  exact news_at h

set_option maxRecDepth 100000 in
set_option maxHeartbeats 4000000 in
theorem takes_any (w : World) (o : Nat → Tag) (wb : Nat) (tb tt tm tl : Tag) (rs g way tv mv nv kv : Value) (cnt : Int) (m : Nat) (l : Value) (n : Nat)
    (d : tb ≠ tt ∧ tb ≠ tm ∧ tb ≠ tl ∧ tt ≠ tm ∧ tt ≠ tl ∧ tm ≠ tl) (hcnt : 0 ≤ cnt ∧ cnt ≤ 3000000000) (hm : m ≤ 1000000000) (hn : n ≤ 1000000000)
    (hst : TakeSt w o (fun t => t = tb ∨ t = tt ∨ t = tm ∨ t = tl) w o wb tb tt tm tl rs g way tv mv nv kv cnt m l n) :
    Calls Tryz.prog 90 #[.pointer (some ⟨wb, 0, none⟩), l] w fun e w' => e = .returned (.tuple #[]) ∧ ∃ o' tv' mv' l', TakeSt w o (fun t => t = tb ∨ t = tt ∨ t = tm ∨ t = tl) w' o' wb tb tt tm tl rs g way tv' mv' nv kv (cnt + 1) (m + 130) l' (n + 65) := by
  obtain ⟨d1, d2, d3, d4, d5, d6⟩ := d
  obtain ⟨i0, hi, hz0, hz1, hz2⟩ := info_parts Tryz.infoStr
  obtain ⟨i1, hi1, hy0, hy1, hy2⟩ := info_parts Tryz.infoStrs
  obtain ⟨i2, hi2, hx0, hx1, hx2⟩ := info_parts Tryz.infoInt
  have HD : Hid ((tb ≠ tl ∧ tt ≠ tl ∧ tm ≠ tl) ∧ (tb ≠ tt ∧ tm ≠ tt ∧ tl ≠ tt ∧ tt ≠ tb ∧ tm ≠ tb ∧ tl ≠ tb) ∧ (tb ≠ tm ∧ tt ≠ tm ∧ tl ≠ tm ∧ tm ≠ tb ∧ tt ≠ tb ∧ tl ≠ tb)) :=
    ⟨⟨d3, d5, d6⟩, ⟨d1, d4.symm, d5.symm, d1.symm, d2.symm, d3.symm⟩, ⟨d2, d4, d6.symm, d2.symm, d1.symm, d3.symm⟩⟩
  clear d1 d2 d3 d4 d5 d6
  have c7 : w.cell? ⟨wb, 7, none⟩ = some (.int .i64 cnt) := hst.blk.blk.cell 7
  have f7 : w.frozen? ⟨wb, 7, none⟩ = false := hst.blk.blk.frozen 7
  have hwl := hst.blk.blk.lt
  have HS1 : Hid (TakeSt w o (fun t => t = tb ∨ t = tt ∨ t = tm ∨ t = tl) (w.setCell ⟨wb, 7, none⟩ (.int .i64 (cnt + 1))) o wb tb tt tm tl rs g way tv mv nv kv (cnt + 1) m l n) := by
    obtain ⟨hb, ⟨ts, htn, ht⟩, ⟨ms, hmn, hm'⟩, ⟨xs, hx⟩, hto⟩ := hst
    have e : o (⟨wb, 7, none⟩ : Addr).block = tb := hb.tag
    exact ⟨hb.set 7 _, ⟨ts, htn, ht.set e HD.out.2.1.2.2.2.1 _⟩, ⟨ms, hmn, hm'.set e HD.out.2.1.2.2.2.2.1 _⟩, ⟨xs, hx.set e HD.out.2.1.2.2.2.2.2 _⟩, hto.set (Or.inl hb.tag) _⟩
  obtain ⟨lo, lcap, rfl, -, -, -⟩ := (hst.list.choose_spec).row.shape
  clear hst
  go_enter Tryz.func90, Tryz.ntmps90
  go_wp2_with fail
  refine (word_any (cnt + 1) _ (by omega) (by omega)).mono ?_
  rintro e w1 ⟨rfl, hB1⟩
  have HS2 : Hid (TakeSt w o (fun t => t = tb ∨ t = tt ∨ t = tm ∨ t = tl) w1 o wb tb tt tm tl rs g way tv mv nv kv (cnt + 1) m (.slice lo n lcap) n) := by
    obtain ⟨hb, ⟨ts, htn, ht⟩, ⟨ms, hmn, hm'⟩, ⟨xs, hx⟩, hto⟩ := HS1.out
    exact ⟨hb.below hB1, ⟨ts, htn, ht.below hB1⟩, ⟨ms, hmn, hm'.below hB1⟩, ⟨xs, hx.below hB1⟩, hto.below hB1⟩
  clear HS1 hB1 c7 f7
  generalize wordOf (cnt + 1) = x at *
  go_wp2_with fail
  go_loopw [5] (fun i wr => ∃ k : Nat, k ≤ n ∧ i = .int .i64 k ∧ TakeSt w o (fun t => t = tb ∨ t = tt ∨ t = tm ∨ t = tl) wr o wb tb tt tm tl rs g way tv mv nv kv (cnt + 1) m (.slice lo n lcap) n) (fun i _ => n - (intOf i).toNat)
  case atStart => exact ⟨0, Nat.zero_le _, rfl, HS2.out⟩
  case round =>
    obtain ⟨k, hk, rfl, hst⟩ := hrel
    by_cases hlk : k < n
    · obtain ⟨xs, hX⟩ := hst.list
      obtain ⟨gl, cap, e, -, -, hgl, hc, hf⟩ := hX.row.pos (by omega)
      obtain ⟨e', -, e''⟩ := Value.slice.inj e
      subst e' e''
      clear e
      have hck : ∃ y, wr.cell? ⟨gl, k, none⟩ = some y := by
        have hx1 : xs.length = n * 1 := hX.row.1
        exact ⟨xs[k]'(by omega), by rw [hc k (by omega)]; simp [show k < xs.length by omega]⟩
      obtain ⟨y, hck⟩ := hck
      have hfk := hf k
      have HST := hide (hst.stored (j := k) HD.out.1 (Or.inr (Or.inr (Or.inr rfl))) (.string x))
      clear hc hf hX hst
      go_wp2_with fail
      exact ⟨⟨k + 1, by omega, by go_num, HST.out⟩, by simp [intOf]; omega⟩
    · have HST := hide hst
      clear hst
      go_wp2_with fail
      go_loopw [1, 6] (fun l i wr => ∃ (k : Nat) (o' : Nat → Tag) (tv' mv' : Value), k ≤ 65 ∧ i = .int .i64 k ∧ TakeSt w o (fun t => t = tb ∨ t = tt ∨ t = tm ∨ t = tl) wr o' wb tb tt tm tl rs g way tv' mv' nv kv (cnt + 1) (m + 2 * k) l (n + k)) (fun _ i _ => 65 - (intOf i).toNat)
      case atStart => exact ⟨0, o, tv, mv, by omega, rfl, HST.out⟩
      case round =>
        obtain ⟨k, o', tv', mv', hk, rfl, hst⟩ := hrel
        by_cases hlk : k < 65
        · obtain ⟨hB, ⟨ts, htn, hT⟩, hM, ⟨xs, hX⟩, hTo⟩ := hst
          obtain ⟨to', tcap, rfl, -, -, -⟩ := hT.row.shape
          obtain ⟨lo', lcap', rfl, -, -, -⟩ := hX.row.shape
          have c3 : wr.cell? ⟨wb, 3, none⟩ = some (.slice to' ts.length tcap) := hB.blk.cell 3
          have hwl' := hB.blk.lt
          have HB := hide hB
          have HT := hide hT
          have HM := hide hM
          have HX := hide hX
          have HTo := hide hTo
          by_cases hkeep : k < 3 ∨ k = 64
          · clear hB hT hM hX hTo
            rcases hkeep with h3 | rfl
            all_goals go_wp2_with (at_builtin; refine wpList_append_own_at _ rfl _ _ 91 rfl 0 41 i1 (.slice none 0 0) 1 24 Tryz.underlying91 hi1 hy0 hy1 hy2 rfl (by decide) _ _ _ rfl (World.ownsRow.alloc HT.out.row _) ⟨wr.heap.size, 0, none⟩ 1 1 [.slice lo' _ lcap'] rfl rfl (cell_one_new _ _ _) (by intro u hu; simp at hu; subst hu; rfl) (by unfold maxLen; omega) (by omega) (Nat.zero_le _) ?_; intro v1 w1 hown1 hgrow1 hnil1 hat1; obtain ⟨g1, cap1, rfl, -, -, -, -, -⟩ := Row.pos hown1 (by omega); have hB1 := (HB.out.alloc _).grew hgrow1 HT.out.tag HD.out.2.1.1; have q3 := hB1.blk.cell 3; have p3 := hB1.blk.frozen 3; have hl1 := hB1.blk.lt; clear hB1)
            all_goals have HK := hide (TakeSt.kept HB.out HT.out HM.out ⟨xs, HX.out⟩ HTo.out htn rfl HD.out.2.1 ⟨Or.inr (Or.inl rfl), Or.inl rfl⟩ hown1 hgrow1 hat1)
            all_goals clear hown1 hgrow1 hat1 hnil1 q3 p3 hl1 c3 hwl' HB HT HM HX HTo htn
            all_goals generalize World.setCell _ _ _ = W2 at *
            all_goals generalize upd o' _ tt = o2 at *
            all_goals obtain ⟨hB, hT, ⟨ms, hmn, hM⟩, hX, hTo⟩ := HK.out
            all_goals clear HK
            all_goals obtain ⟨mo, mcap, rfl, -, -, -⟩ := hM.row.shape
            all_goals have c4 : W2.cell? ⟨wb, 4, none⟩ = some (.slice mo ms.length mcap) := hB.blk.cell 4
            all_goals have c7 : W2.cell? ⟨wb, 7, none⟩ = some (.int .i64 (cnt + 1)) := hB.blk.cell 7
            all_goals have f4 : W2.frozen? ⟨wb, 4, none⟩ = false := hB.blk.frozen 4
            all_goals have hl2 := hB.blk.lt
            all_goals have HB := hide hB
            all_goals have HT := hide hT
            all_goals have HM := hide hM
            all_goals have HX := hide hX
            all_goals have HTo := hide hTo
            all_goals clear hB hT hM hX hTo
            all_goals go_region_law (refine step_append_own rfl _ _ 44 rfl 3 i2 (.int .i64 0) 1 8 Tryz.underlying44 hi2 hx0 hx1 hx2 rfl (by decide) (.slice mo ms.length mcap) ms.length ms (by simp [Act.eval]) (by exact World.ownsRow.alloc HM.out.row _) ⟨W2.heap.size, 0, none⟩ 1 1 [.int .i64 (cnt + 1)] (by simp [Act.eval]) rfl (by exact news1 _ _ _) (by intro u hu; simp at hu; subst hu; rfl) (by unfold maxLen; omega) (by omega) ?_; intro v2 w2 hown2 hgrow2 hat2; obtain ⟨g2, cap2, rfl, -, -, -, -, -⟩ := Row.pos hown2 (by omega); have hg2 : (W2.alloc (.cells #[.int .i64 (cnt + 1)] 3)).grownBy w2 (Value.slice mo ms.length mcap).ownBlock := ⟨hgrow2.os, hgrow2.tape, hgrow2.output, hgrow2.size, hgrow2.block⟩; have hB1 := (HB.out.alloc _).grew hg2 HM.out.tag HD.out.2.2.1; have q4 := hB1.blk.cell 4; have p4 := hB1.blk.frozen 4; have hl1 := hB1.blk.lt; clear hB1 hgrow2)
            all_goals have HK := hide (TakeSt.marked HB.out HT.out HM.out HX.out HTo.out hmn rfl HD.out.2.2 ⟨Or.inr (Or.inr (Or.inl rfl)), Or.inl rfl⟩ hown2 hg2 hat2)
            all_goals clear hown2 hg2 hat2 q4 p4 hl1 c4 c7 f4 hl2 HB HT HM HX HTo hmn
            all_goals generalize World.setCell _ _ _ = W3 at *
            all_goals generalize upd o2 _ tm = o3 at *
            all_goals obtain ⟨hB, hT, hM, ⟨ys, hX⟩, hTo⟩ := HK.out
            all_goals clear HK
            all_goals have HB := hide hB
            all_goals have HT := hide hT
            all_goals have HM := hide hM
            all_goals have HX := hide hX
            all_goals have HTo := hide hTo
            all_goals clear hB hT hM hX hTo
            all_goals go_wp2_with (at_builtin; refine wpList_append_own_at _ rfl _ _ 41 rfl 0 9 i0 (.string ⟨#[]⟩) 1 16 Tryz.underlying41 hi hz0 hz1 hz2 rfl (by decide) _ _ _ rfl (World.ownsRow.alloc HX.out.row _) ⟨W3.heap.size, 0, none⟩ 1 1 [.string x] rfl rfl (cell_one_new _ _ _) (by intro u hu; simp at hu; subst hu; rfl) (by unfold maxLen; omega) (by omega) (Nat.zero_le _) ?_; intro v3 w3 hown3 hgrow3 hnil3 hat3)
            all_goals first | exact ⟨⟨k + 1, _, _, _, by omega, by go_num, (TakeSt.longer HB.out HT.out HM.out HX.out HTo.out HD.out.1 (Or.inr (Or.inr (Or.inr rfl))) hown3 hgrow3 hat3).bound (by omega)⟩, by simp [intOf]; omega⟩ | exact ⟨⟨65, _, _, _, by omega, by go_num, (TakeSt.longer HB.out HT.out HM.out HX.out HTo.out HD.out.1 (Or.inr (Or.inr (Or.inr rfl))) hown3 hgrow3 hat3).bound (by omega)⟩, by simp [intOf]⟩
          · clear hB hT hM hX hTo
            have h3 : ¬ k < 3 := fun h => hkeep (Or.inl h)
            have h64 : ¬ k = 64 := fun h => hkeep (Or.inr h)
            have h64' : ((k : Int) == 64) = false := by simp; omega
            clear hkeep
            go_wp2_with (at_builtin; refine wpList_append_own_at _ rfl _ _ 41 rfl 0 9 i0 (.string ⟨#[]⟩) 1 16 Tryz.underlying41 hi hz0 hz1 hz2 rfl (by decide) _ _ _ rfl (World.ownsRow.alloc HX.out.row _) ⟨wr.heap.size, 0, none⟩ 1 1 [.string x] rfl rfl (cell_one_new _ _ _) (by intro u hu; simp at hu; subst hu; rfl) (by unfold maxLen; omega) (by omega) (Nat.zero_le _) ?_; intro v1 w1 hown1 hgrow1 hnil1 hat1)
            exact ⟨⟨k + 1, _, _, _, by omega, by go_num, (TakeSt.longer HB.out ⟨ts, htn, HT.out⟩ HM.out HX.out HTo.out HD.out.1 (Or.inr (Or.inr (Or.inr rfl))) hown1 hgrow1 hat1).bound (by omega)⟩, by simp [intOf]; omega⟩
        · have hk65 : k = 65 := by omega
          subst hk65
          have HST := hide hst
          clear hst
          go_wp2_with fail
          go_end0
          exact ⟨rfl, o', tv', mv', _, HST.out⟩

end Go.Proofs.YtiplgdkpnhamaaaGreatDoor

/- What Begin leaves of a replica of the reference: the ends of its two ways. -/
namespace Go.Proofs.YtiplgdkpnhamaaaGreatDoor
open Go.RowKit

structure BeginPost (w w' : World) (b : Nat) (id : Int) (vv v kv gv : Value) (vis : List Int) (xs : List XTx) (k : Nat) (sv v' : Value) : Prop where
  blk : Blk w' b [.int .i64 id, vv, v', kv, gv] 165
  saw : w'.ownsRow w.heap.size 3 1 sv vis.length (ints vis)
  row : Row w' 217 5 v' (putAt xs k ⟨true, 0, 0, sv, .slice none 0 0⟩).length ((putAt xs k ⟨true, 0, 0, sv, .slice none 0 0⟩).flatMap XTx.cells)
  own : ∀ q, v'.ownBlock = some q → v.ownBlock = some q ∨ w.heap.size ≤ q
  dis : ∀ q, v'.ownBlock = some q → ¬ sv.ownBlock = some q
  touch : Touch (fun q => q = b ∨ v.ownBlock = some q) w w'

theorem ownsRow_move {w w' : World} {b : Nat} {e : TypeId} {size : Nat} {v : Value} {n : Nat} {xs : List Value} (h : w.ownsRow b e size v n xs)
    (hb : ∀ k, v.ownBlock = some k → w'.heap[k]? = w.heap[k]?) : w'.ownsRow b e size v n xs := by
  refine ⟨h.1, ?_⟩
  rcases h.2 with hn | ⟨g, cap, cur, rfl, h0, hg, rest⟩
  · exact .inl hn
  · exact .inr ⟨g, cap, cur, rfl, h0, by rw [hb g rfl]; exact hg, rest⟩

theorem begin_app {w w1 w2 : World} {b gs scap g2 cap2 : Nat} {id : Int} {vv v kv gv : Value} {vis : List Int} {xs : List XTx} {o1 o2 : Obj}
    (hb : Blk w b [.int .i64 id, vv, v, kv, gv] 165) (hbv : ¬ v.ownBlock = some b) (hrow : Row w 217 5 v xs.length (xs.flatMap XTx.cells))
    (hB1 : Below w.heap.size w w1) (hsv : w1.ownsRow w.heap.size 3 1 (.slice (some ⟨gs, 0, none⟩) vis.length scap) vis.length (ints vis))
    (hown : w2.ownsRow 0 217 5 (.slice (some ⟨g2, 0, none⟩) (xs.length + 1) cap2) (xs.length + 1) (xs.flatMap XTx.cells ++ [.bool true, .int .i64 0, .int .i64 0, .slice (some ⟨gs, 0, none⟩) vis.length scap, .slice none 0 0]))
    (hgrow : ((w1.alloc o1).alloc o2).drew.grownBy w2 v.ownBlock)
    (hat : (Value.slice (some ⟨g2, 0, none⟩) (xs.length + 1) cap2).ownBlock = v.ownBlock ∨ (Value.slice (some ⟨g2, 0, none⟩) (xs.length + 1) cap2).ownBlock = some ((w1.alloc o1).alloc o2).drew.heap.size) :
    BeginPost w (w2.setCell ⟨b, 2, none⟩ (.slice (some ⟨g2, 0, none⟩) (xs.length + 1) cap2)) b id vv v kv gv vis xs xs.length (.slice (some ⟨gs, 0, none⟩) vis.length scap) (.slice (some ⟨g2, 0, none⟩) (xs.length + 1) cap2) := by
  have hW : ((w1.alloc o1).alloc o2).drew.heap.size = w1.heap.size + 2 := by show ((w1.alloc o1).alloc o2).heap.size = _; simp
  have hg2 : v.ownBlock = some g2 ∨ g2 = w1.heap.size + 2 := by
    rcases hat with h | h
    · exact Or.inl h.symm
    · rw [hW] at h; exact Or.inr (by simpa [Value.ownBlock] using h)
  have hlow : ∀ q, v.ownBlock = some q → q < w.heap.size := fun q hq => Row.lt hrow hq
  have hgs := hsv.lt gs rfl
  have hbl := hb.lt
  have hs1 := hB1.size
  have hold : ∀ q, q < w1.heap.size → ¬ v.ownBlock = some q → w2.heap[q]? = w1.heap[q]? := fun q hq hn => by
    rw [hgrow.block q (by rw [hW]; omega) (fun e => hn e.symm)]
    show ((w1.alloc o1).alloc o2).heap[q]? = _
    rw [Below.heap_alloc _ _ _ (by simp; omega), Below.heap_alloc _ _ _ hq]
  have hb2 : Blk w2 b [.int .i64 id, vv, v, kv, gv] 165 := (hb.below hB1).move (hold b (by omega) hbv)
  have hput : putAt xs xs.length (⟨true, 0, 0, .slice (some ⟨gs, 0, none⟩) vis.length scap, .slice none 0 0⟩ : XTx) = xs ++ [⟨true, 0, 0, .slice (some ⟨gs, 0, none⟩) vis.length scap, .slice none 0 0⟩] := by simp [putAt]
  have hgb : ¬ g2 = b := by
    rcases hg2 with h | h
    · intro e; exact hbv (e ▸ h)
    · omega
  refine ⟨hb2.set 2 _, ?_, ?_, ?_, ?_, ?_⟩
  · refine ownsRow_move hsv fun q hq => ?_
    have hqg : q = gs := by simpa [Value.ownBlock] using hq.symm
    subst hqg
    rw [Below.heap_setCell _ _ _ _ (by show q ≠ b; omega)]
    exact hold q hgs.2 (fun h => by have := hlow q h; omega)
  · rw [hput, flat_snoc]
    refine Row.other (w := w2) ?_ (by simpa [Value.ownBlock] using hgb) _
    rw [List.length_append]; exact hown
  · intro q hq
    have hqg : q = g2 := by simpa [Value.ownBlock] using hq.symm
    subst hqg
    rcases hg2 with h | h
    · exact Or.inl h
    · exact Or.inr (by omega)
  · intro q hq hs
    have hqg : q = g2 := by simpa [Value.ownBlock] using hq.symm
    have hqs : q = gs := by simpa [Value.ownBlock] using hs.symm
    subst hqg
    rcases hg2 with h | h
    · have := hlow _ h; omega
    · omega
  · refine Touch.setCell (p := ⟨b, 2, none⟩) ?_ (Or.inl (Or.inl rfl)) _
    refine Touch.grown (w := ((w1.alloc o1).alloc o2).drew) ?_ hgrow (fun q hq => Or.inl (Or.inr hq))
    exact (((Touch.ofBelow hB1).alloc o1).alloc o2).drew

theorem begin_set {w w1 : World} {b gs scap g cap k : Nat} {id : Int} {vv kv gv : Value} {vis : List Int} {xs : List XTx} {o : Obj}
    (hb : Blk w b [.int .i64 id, vv, .slice (some ⟨g, 0, none⟩) xs.length cap, kv, gv] 165) (hbv : ¬ (Value.slice (some ⟨g, 0, none⟩) xs.length cap).ownBlock = some b)
    (hrow : Row w 217 5 (.slice (some ⟨g, 0, none⟩) xs.length cap) xs.length (xs.flatMap XTx.cells)) (hk : k < xs.length)
    (hB1 : Below w.heap.size w w1) (hsv : w1.ownsRow w.heap.size 3 1 (.slice (some ⟨gs, 0, none⟩) vis.length scap) vis.length (ints vis)) :
    BeginPost w ((((((w1.setCell ⟨g, k * 5, none⟩ (.bool true)).setCell ⟨g, k * 5 + 1, none⟩ (.int .i64 0)).setCell ⟨g, k * 5 + 2, none⟩ (.int .i64 0)).setCell ⟨g, k * 5 + 3, none⟩ (.slice (some ⟨gs, 0, none⟩) vis.length scap)).setCell ⟨g, k * 5 + 4, none⟩ (.slice none 0 0)).alloc o).drew
      b id vv (.slice (some ⟨g, 0, none⟩) xs.length cap) kv gv vis xs k (.slice (some ⟨gs, 0, none⟩) vis.length scap) (.slice (some ⟨g, 0, none⟩) xs.length cap) := by
  have hgl : g < w.heap.size := Row.lt hrow rfl
  have hgs := hsv.lt gs rfl
  have hgb : ¬ g = b := fun e => hbv (by simp [Value.ownBlock, e])
  have hput : putAt xs k (⟨true, 0, 0, .slice (some ⟨gs, 0, none⟩) vis.length scap, .slice none 0 0⟩ : XTx) = xs.set k ⟨true, 0, 0, .slice (some ⟨gs, 0, none⟩) vis.length scap, .slice none 0 0⟩ := by simp [putAt, hk]
  have r1 := Row.below hrow hB1
  have a0 := (World.ownsRow.stored r1 (k * 5 + 0) (.bool true)).1
  rw [flat_set XTx.cells 5 XTx.cells_len xs k 0 hk (.bool true) { xs[k] with isOpen := true } (by omega) rfl] at a0
  have a1 := (World.ownsRow.stored a0 (k * 5 + 1) (.int .i64 0)).1
  rw [flat_set XTx.cells 5 XTx.cells_len _ k 1 (by simpa using hk) (.int .i64 0) { xs[k] with isOpen := true, rep := 0 } (by omega) (by simp [XTx.cells])] at a1
  have a2 := (World.ownsRow.stored a1 (k * 5 + 2) (.int .i64 0)).1
  rw [flat_set XTx.cells 5 XTx.cells_len _ k 2 (by simpa using hk) (.int .i64 0) { xs[k] with isOpen := true, rep := 0, seq := 0 } (by omega) (by simp [XTx.cells])] at a2
  have a3 := (World.ownsRow.stored a2 (k * 5 + 3) (.slice (some ⟨gs, 0, none⟩) vis.length scap)).1
  rw [flat_set XTx.cells 5 XTx.cells_len _ k 3 (by simpa using hk) _ { xs[k] with isOpen := true, rep := 0, seq := 0, sv := .slice (some ⟨gs, 0, none⟩) vis.length scap } (by omega) (by simp [XTx.cells])] at a3
  have a4 := (World.ownsRow.stored a3 (k * 5 + 4) (.slice none 0 0)).1
  rw [flat_set XTx.cells 5 XTx.cells_len _ k 4 (by simpa using hk) _ ⟨true, 0, 0, .slice (some ⟨gs, 0, none⟩) vis.length scap, .slice none 0 0⟩ (by omega) (by simp [XTx.cells])] at a4
  simp only [List.set_set] at a4
  refine ⟨?_, ?_, ?_, ?_, ?_, ?_⟩
  · refine Blk.alloc (w := (((((w1.setCell ⟨g, k * 5, none⟩ (.bool true)).setCell ⟨g, k * 5 + 1, none⟩ (.int .i64 0)).setCell ⟨g, k * 5 + 2, none⟩ (.int .i64 0)).setCell ⟨g, k * 5 + 3, none⟩ (.slice (some ⟨gs, 0, none⟩) vis.length scap)).setCell ⟨g, k * 5 + 4, none⟩ (.slice none 0 0))) ?_ o
    have hne : ∀ j, b ≠ (⟨g, j, none⟩ : Addr).block := fun j e => hgb e.symm
    exact ((((((hb.below hB1).other (hne _) _).other (hne _) _).other (hne _) _).other (hne _) _).other (hne _) _)
  · refine ownsRow_move (w := w1) hsv fun q hq => ?_
    have hqg : q = gs := by simpa [Value.ownBlock] using hq.symm
    subst hqg
    show (World.alloc _ _).heap[q]? = _
    rw [Below.heap_alloc _ _ _ (by simp; omega)]
    have hne : ∀ j, q ≠ (⟨g, j, none⟩ : Addr).block := fun j e => by have : q = g := e; omega
    rw [Below.heap_setCell _ _ _ _ (hne _), Below.heap_setCell _ _ _ _ (hne _), Below.heap_setCell _ _ _ _ (hne _), Below.heap_setCell _ _ _ _ (hne _), Below.heap_setCell _ _ _ _ (hne _)]
  · rw [hput, List.length_set]
    exact World.ownsRow.alloc a4 o
  · exact fun q hq => Or.inl hq
  · intro q hq hs
    have hqg : q = g := by simpa [Value.ownBlock] using hq.symm
    have hqs : q = gs := by simpa [Value.ownBlock] using hs.symm
    omega
  · refine Touch.drew (Touch.alloc ?_ o)
    have hp : ∀ j, (fun q => q = b ∨ (Value.slice (some ⟨g, 0, none⟩) xs.length cap).ownBlock = some q) (⟨g, j, none⟩ : Addr).block ∨ w.heap.size ≤ (⟨g, j, none⟩ : Addr).block := fun j => Or.inl (Or.inr rfl)
    exact ((((((Touch.ofBelow hB1).setCell (hp _) _).setCell (hp _) _).setCell (hp _) _).setCell (hp _) _).setCell (hp _) _)

end Go.Proofs.YtiplgdkpnhamaaaGreatDoor

/- The reference's Replica.Begin and Abort: what each answers, and what becomes of the replica. -/
namespace Go.Proofs.YtiplgdkpnhamaaaGreatDoor
open Go.RowKit

theorem Tryz.infoTx : (Tryz.prog.info? 217).map (fun i => (i.zero, i.size, i.bytes)) = some (some (.agg #[.bool false, .int .i64 0, .int .i64 0, .slice none 0 0, .slice none 0 0]), 5, 72) := by kernel_rfl

set_option maxHeartbeats 1000000 in
theorem rbegin_full (w : World) (b : Nat) (v : Value) (xs : List XTx) (hn : xs.length ≤ 6)
    (hv : w.cell? ⟨b, 2, none⟩ = some v) (hrow : Row w 217 5 v xs.length (xs.flatMap XTx.cells)) (hfree : 6 ≤ freeAt xs) :
    Calls Tryz.prog 87 #[.pointer (some ⟨b, 0, none⟩)] w fun e w' => e = .returned (.tuple #[.int .i64 0, .int .i64 5]) ∧ w' = w := by
  obtain ⟨ao, cap, rfl, hcap, hm, hc⟩ := hrow.shape
  have HR := hide hrow
  have HF := hide hfree
  clear hrow hfree
  go_enter Tryz.func87, Tryz.ntmps87
  go_wp2
  go_loop [4] (fun i => ∃ k : Nat, k ≤ xs.length ∧ i = .int .i64 k ∧ ∀ j (hj : j < xs.length), j < k → xs[j].isOpen = true) (fun i => xs.length - (intOf i).toNat)
  case atStart => exact ⟨0, Nat.zero_le _, rfl, fun j hj h => by omega⟩
  case round =>
    obtain ⟨k, hk, rfl, hall⟩ := hrel
    have HA := hide hall
    clear hall
    by_cases hlk : k < xs.length
    · obtain ⟨g, rfl, h0⟩ := hc (k * 5 + 0) (by omega)
      rw [flat_get _ 5 XTx.cells_len _ _ _ hlk (by omega)] at h0
      simp only [XTx.cells, List.getElem?_cons_zero, Nat.add_zero] at h0
      clear hc
      have hop : xs[k].isOpen = true := by
        cases ho : xs[k].isOpen
        · have := freeAt_eq hk HA.out (fun _ => ho)
          have := HF.out
          omega
        · rfl
      rw [hop] at h0
      have HA' : Hid (∀ j (hj : j < xs.length), j < k + 1 → xs[j].isOpen = true) := fun j hj h => by
        by_cases e : j = k
        · subst e; exact hop
        · exact HA.out j hj (by omega)
      clear hop HA
      go_wp2
      exact ⟨⟨k + 1, by omega, by go_num, HA'.out⟩, by simp [intOf]; omega⟩
    · have hk6 : k = 6 := by
        have := freeAt_eq hk HA.out (fun h => absurd h hlk)
        have := HF.out
        omega
      subst hk6
      clear hc
      go_wp2
      go_ret2
      exact ⟨rfl, rfl⟩

set_option maxRecDepth 100000 in
set_option maxHeartbeats 2000000 in
theorem rbegin_ok (w : World) (b : Nat) (id : Int) (vv v kv gv : Value) (vis : List Int) (xs : List XTx) (hn : xs.length ≤ 6) (hvis : 0 < vis.length) (hvis' : vis.length ≤ 5)
    (hb : Blk w b [.int .i64 id, vv, v, kv, gv] 165) (hvr : Row w 3 1 vv vis.length (ints vis))
    (hrow : Row w 217 5 v xs.length (xs.flatMap XTx.cells)) (hbv : ¬ v.ownBlock = some b) (hfree : freeAt xs < 6) :
    Calls Tryz.prog 87 #[.pointer (some ⟨b, 0, none⟩)] w fun e w' => ∃ sv v', e = .returned (.tuple #[.int .i64 (freeAt xs), .int .i64 0]) ∧ BeginPost w w' b id vv v kv gv vis xs (freeAt xs) sv v' := by
  obtain ⟨ao, cap, rfl, hcap, hm, hc⟩ := hrow.shape
  have hv1 : w.cell? ⟨b, 1, none⟩ = some vv := hb.cell 1
  have hv2 : w.cell? ⟨b, 2, none⟩ = some (.slice ao xs.length cap) := hb.cell 2
  have HR := hide hrow
  have HF := hide hfree
  have HB := hide hb
  have HV := hide hvr
  have HBV := hide hbv
  clear hrow hfree hb hvr hbv
  obtain ⟨i0, hi, hz0, hz1, hz2⟩ := info_parts Tryz.infoTx
  go_enter Tryz.func87, Tryz.ntmps87
  go_wp2
  go_loop [4] (fun i => ∃ k : Nat, k ≤ xs.length ∧ i = .int .i64 k ∧ ∀ j (hj : j < xs.length), j < k → xs[j].isOpen = true) (fun i => xs.length - (intOf i).toNat)
  case atStart => exact ⟨0, Nat.zero_le _, rfl, fun j hj h => by omega⟩
  case round =>
    obtain ⟨k, hk, rfl, hall⟩ := hrel
    have HA := hide hall
    clear hall
    by_cases hlk : k < xs.length
    · obtain ⟨g, rfl, h0⟩ := hc (k * 5 + 0) (by omega)
      rw [flat_get _ 5 XTx.cells_len _ _ _ hlk (by omega)] at h0
      simp only [XTx.cells, List.getElem?_cons_zero, Nat.add_zero] at h0
      clear hc
      cases hop : xs[k].isOpen
      · rw [hop] at h0
        have hfk : freeAt xs = k := freeAt_eq hk HA.out (fun _ => hop)
        have HFK := hide hfk
        have hk6 : k < 6 := by have := HF.out; omega
        clear hop hfk
        go_wp2_with fail
        refine (copied_any _ _ vis hvis (by omega) HV.out).mono ?_
        rintro e w1 ⟨sv, rfl, hsv, hB1⟩
        obtain ⟨gs, scap, rfl, -, -, hgs, -, -⟩ := Row.pos (ownsRow_low hsv (Nat.zero_le _)) hvis
        have hgs' : w.heap.size ≤ gs := (hsv.lt gs rfl).1
        have hv21 := cell_later hB1 hv2
        have HR1 := hide (Row.below HR.out hB1)
        obtain ⟨_, _, e, -, -, hg1, hcc, hff⟩ := Row.pos HR1.out (by omega)
        obtain ⟨e', -, -⟩ := Value.slice.inj e
        cases e'
        clear e
        have c0 := hcc (k * 5 + 0) (by omega)
        have c1 := hcc (k * 5 + 1) (by omega)
        have c2 := hcc (k * 5 + 2) (by omega)
        have c3 := hcc (k * 5 + 3) (by omega)
        have c4 := hcc (k * 5 + 4) (by omega)
        rw [flat_get _ 5 XTx.cells_len _ _ _ hlk (by omega)] at c0 c1 c2 c3 c4
        simp only [XTx.cells, List.getElem?_cons_zero, List.getElem?_cons_succ, Nat.add_zero] at c0 c1 c2 c3 c4
        have HSV := hide hsv
        clear hcc h0 hv1 hv2 hsv
        have hb1 : b < w1.heap.size := World.block_lt_of_cell? w1 _ hv21
        have hkl : ((k : Int) == xs.length) = false := by simp; omega
        generalize xs[k].isOpen = x0 at *
        generalize xs[k].rep = x1 at *
        generalize xs[k].seq = x2 at *
        generalize xs[k].sv = x3 at *
        generalize xs[k].ov = x4 at *
        go_wp2_with fail
        go_region
        go_wp2_with fail
        go_ret2
        rw [HFK.out]
        exact ⟨_, _, rfl, begin_set HB.out HBV.out HR.out hlk hB1 HSV.out⟩
      · rw [hop] at h0
        have HA' : Hid (∀ j (hj : j < xs.length), j < k + 1 → xs[j].isOpen = true) := fun j hj h => by
          by_cases e : j = k
          · subst e; exact hop
          · exact HA.out j hj (by omega)
        clear hop HA
        go_wp2
        exact ⟨⟨k + 1, by omega, by go_num, HA'.out⟩, by simp [intOf]; omega⟩
    · have hke : k = xs.length := by omega
      subst hke
      have hfk : freeAt xs = xs.length := freeAt_eq hk HA.out (fun h => absurd h hlk)
      have HFK := hide hfk
      have hk6 : xs.length < 6 := by have := HF.out; omega
      clear hc hfk
      go_wp2_with fail
      refine (copied_any _ _ vis hvis (by omega) HV.out).mono ?_
      rintro e w1 ⟨sv, rfl, hsv, hB1⟩
      obtain ⟨gs, scap, rfl, -, -, hgs, -, -⟩ := Row.pos (ownsRow_low hsv (Nat.zero_le _)) hvis
      have hgs' : w.heap.size ≤ gs := (hsv.lt gs rfl).1
      have hv21 := cell_later hB1 hv2
      have HR1 := hide (Row.below HR.out hB1)
      have HSV := hide hsv
      have hb1 : b < w1.heap.size := World.block_lt_of_cell? w1 _ hv21
      have HBb := hide (HB.out.below hB1)
      clear hv1 hv2 hsv
      go_wp2_with fail
      have hf21 : w1.frozen? ⟨b, 2, none⟩ = false := HBb.out.frozen 2
      go_region_law (refine step_append_own rfl _ _ 87 rfl 217 i0 (.agg #[.bool false, .int .i64 0, .int .i64 0, .slice none 0 0, .slice none 0 0]) 5 72 Tryz.underlying87 hi hz0 hz1 hz2 rfl (by decide) (.slice ao xs.length cap) xs.length (xs.flatMap XTx.cells) (by simp [Act.eval]) (by exact (HR1.out.alloc _).alloc _) ⟨w1.heap.size + 1, 0, none⟩ 1 1 [.bool true, .int .i64 0, .int .i64 0, .slice (some ⟨gs, 0, none⟩) vis.length scap, .slice none 0 0] (by simp [Act.eval]) rfl (by exact news2 _ _ _ _) (by intro u hu; simp at hu; rcases hu with rfl | rfl | rfl | rfl <;> rfl) (by unfold maxLen; omega) (by omega) ?_; intro v2 w2 hown2 hgrow2 hat2; obtain ⟨g2, cap2, rfl, -, -, -, -, -⟩ := Row.pos hown2 (by omega); obtain ⟨q1, q2⟩ := grown_cell hgrow2 (b := b) (j := 2) (u := .slice ao xs.length cap) (by simp [go_sem, hv21, hb1]) (by simp [go_sem, hf21, hb1]) HBV.out)
      all_goals go_wp2_with fail
      all_goals go_ret2
      all_goals rw [HFK.out]
      all_goals exact ⟨_, _, rfl, begin_app HB.out HBV.out HR.out hB1 HSV.out hown2 hgrow2 hat2⟩

set_option maxHeartbeats 1000000 in
theorem rabort_no (w : World) (b : Nat) (v : Value) (xs : List XTx) (tx : Int) (hn : xs.length ≤ 6)
    (hv : w.cell? ⟨b, 2, none⟩ = some v) (hrow : Row w 217 5 v xs.length (xs.flatMap XTx.cells)) (hop : isOpenAt xs tx = false) :
    Calls Tryz.prog 92 #[.pointer (some ⟨b, 0, none⟩), .int .i64 tx] w fun e w' => e = .returned (.int .i64 4) ∧ w' = w := by
  have HR := hide hrow
  clear hrow
  go_enter Tryz.func92, Tryz.ntmps92
  go_wp2_with fail
  refine (is_any _ b v xs tx (by omega) hv HR.out).mono ?_
  rintro e w1 ⟨rfl, rfl⟩
  go_wp2_with fail
  go_ret
  exact ⟨rfl, rfl⟩

set_option maxHeartbeats 1000000 in
theorem rabort_ok (w : World) (b : Nat) (v : Value) (xs : List XTx) (k : Nat) (hn : xs.length ≤ 6) (hk : k < xs.length)
    (hv : w.cell? ⟨b, 2, none⟩ = some v) (hrow : Row w 217 5 v xs.length (xs.flatMap XTx.cells)) (hop : xs[k].isOpen = true) :
    Calls Tryz.prog 92 #[.pointer (some ⟨b, 0, none⟩), .int .i64 k] w fun e w' => e = .returned (.int .i64 0) ∧
      Row w' 217 5 v xs.length ((xs.set k { xs[k] with isOpen := false }).flatMap XTx.cells) ∧ Touch (fun k => v.ownBlock = some k) w w' := by
  obtain ⟨g, cap, rfl, hcap, hm, hg, hc, hf⟩ := hrow.pos (by omega)
  have h0 := hc (k * 5 + 0) (by omega)
  rw [flat_get _ 5 XTx.cells_len _ _ _ hk (by omega)] at h0
  simp only [XTx.cells, List.getElem?_cons_zero, Nat.add_zero] at h0
  have hio : isOpenAt xs k = true := by simp [isOpenAt, hk, hop]
  have HFS := hide (flat_set XTx.cells 5 XTx.cells_len xs k 0 hk (.bool false) { xs[k] with isOpen := false } (by omega) rfl)
  have HR := hide hrow
  have HI := hide hio
  clear hrow hc hio
  rw [hop] at h0
  clear hop
  go_enter Tryz.func92, Tryz.ntmps92
  go_wp2_with fail
  refine (is_any _ b _ xs k (by omega) hv HR.out).mono ?_
  rintro e w1 ⟨he, rfl⟩
  rw [HI.out] at he
  subst he
  go_wp2_with fail
  go_ret
  refine ⟨rfl, ?_, (Touch.refl (fun k => (Value.slice (some ⟨g, 0, none⟩) xs.length cap).ownBlock = some k) _).setCell (p := ⟨g, k * 5, none⟩) (Or.inl rfl) _⟩
  have := (HR.out.stored (k * 5 + 0) (.bool false)).1
  rw [HFS.out] at this
  exact this

end Go.Proofs.YtiplgdkpnhamaaaGreatDoor

/- What Does leaves of a transaction of the reference. -/
namespace Go.Proofs.YtiplgdkpnhamaaaGreatDoor
open Go.RowKit

structure DoesPost (w w' : World) (v : Value) (xs : List XTx) (k : Nat) (ops : List ROp) (o : ROp) (ov' : Value) : Prop where
  row : ∀ x, xs[k]? = some x → Row w' 217 5 v xs.length ((xs.set k { x with ov := ov' }).flatMap XTx.cells)
  ops : Row w' 171 4 ov' (ops ++ [o]).length ((ops ++ [o]).flatMap ROp.cells)
  own : ∀ x, xs[k]? = some x → ∀ q, ov'.ownBlock = some q → x.ov.ownBlock = some q ∨ w.heap.size ≤ q
  touch : ∀ x, xs[k]? = some x → Touch (fun q => v.ownBlock = some q ∨ x.ov.ownBlock = some q) w w'

theorem does_close {w w2 : World} {g cap k g2 cap2 : Nat} {xs : List XTx} {ops : List ROp} {o : ROp} {o1 : Option Addr} {ocap : Nat} {ob1 ob2 : Obj} (hk : k < xs.length) (hoe : xs[k].ov = .slice o1 ops.length ocap)
    (hrow : Row w 217 5 (.slice (some ⟨g, 0, none⟩) xs.length cap) xs.length (xs.flatMap XTx.cells))
    (hown : w2.ownsRow 0 171 4 (.slice (some ⟨g2, 0, none⟩) (ops.length + 1) cap2) (ops.length + 1) (ops.flatMap ROp.cells ++ o.cells))
    (hgrow : ((w.alloc ob1).alloc ob2).drew.grownBy w2 (Value.slice o1 ops.length ocap).ownBlock)
    (hat : (Value.slice (some ⟨g2, 0, none⟩) (ops.length + 1) cap2).ownBlock = (Value.slice o1 ops.length ocap).ownBlock ∨ (Value.slice (some ⟨g2, 0, none⟩) (ops.length + 1) cap2).ownBlock = some ((w.alloc ob1).alloc ob2).drew.heap.size)
    (hdis : ¬ (Value.slice o1 ops.length ocap).ownBlock = (Value.slice (some ⟨g, 0, none⟩) xs.length cap).ownBlock) :
    DoesPost w (w2.setCell ⟨g, k * 5 + 4, none⟩ (.slice (some ⟨g2, 0, none⟩) (ops.length + 1) cap2)) (.slice (some ⟨g, 0, none⟩) xs.length cap) xs k ops o (.slice (some ⟨g2, 0, none⟩) (ops.length + 1) cap2) := by
  have hW : ((w.alloc ob1).alloc ob2).drew.heap.size = w.heap.size + 2 := by show ((w.alloc ob1).alloc ob2).heap.size = _; simp
  have hx : ∀ x, xs[k]? = some x → x = xs[k] := fun x h => by rw [List.getElem?_eq_getElem hk] at h; exact (Option.some.inj h).symm
  have hgl : g < w.heap.size := Row.lt hrow rfl
  have hgd : ¬ (Value.slice o1 ops.length ocap).ownBlock = some g := hdis
  have hold : ∀ q, q < w.heap.size → ¬ (Value.slice o1 ops.length ocap).ownBlock = some q → w2.heap[q]? = w.heap[q]? := fun q hq hn => by
    rw [hgrow.block q (by rw [hW]; omega) (fun e => hn e.symm)]
    show ((w.alloc ob1).alloc ob2).heap[q]? = _
    rw [Below.heap_alloc _ _ _ (by simp; omega), Below.heap_alloc _ _ _ hq]
  have hrow2 : Row w2 217 5 (.slice (some ⟨g, 0, none⟩) xs.length cap) xs.length (xs.flatMap XTx.cells) := Row.move hrow fun q hq => by
    have e : q = g := by simpa [Value.ownBlock] using hq.symm
    subst e; exact hold q hgl hgd
  have hg2 : ¬ g2 = g := by
    intro e
    rcases hat with h | h
    · exact hgd (by rw [← h, e]; rfl)
    · rw [hW] at h; simp [Value.ownBlock] at h; omega
  refine ⟨?_, ?_, ?_, ?_⟩
  · intro x h
    have e := hx x h
    subst e
    have a := (World.ownsRow.stored hrow2 (k * 5 + 4) (.slice (some ⟨g2, 0, none⟩) (ops.length + 1) cap2)).1
    rw [flat_set XTx.cells 5 XTx.cells_len xs k 4 hk _ { xs[k] with ov := .slice (some ⟨g2, 0, none⟩) (ops.length + 1) cap2 } (by omega) (by simp [XTx.cells])] at a
    exact a
  · rw [flat_snoc, List.length_append]
    exact Row.other (w := w2) hown (by simpa [Value.ownBlock] using hg2) _
  · intro x h q hq
    have e := hx x h
    subst e
    rw [hoe]
    rcases hat with h | h
    · left; rw [← h]; exact hq
    · right; rw [hW] at h; rw [h] at hq; simp at hq; omega
  · intro x h
    have e := hx x h
    subst e
    rw [hoe]
    refine Touch.setCell (p := ⟨g, k * 5 + 4, none⟩) ?_ (Or.inl (Or.inl rfl)) _
    refine Touch.grown (w := ((w.alloc ob1).alloc ob2).drew) ?_ hgrow (fun q hq => Or.inl (Or.inr hq))
    exact (((Touch.refl _ _).alloc ob1).alloc ob2).drew

theorem does_box {w w2 : World} {row : Option Nat} {a d : Int} {k v : ByteArray} {t t2 : TypeId} {c2 : Array Value} (hg : ((w.alloc (.cells #[.int .i64 a, .string k, .string v, .int .i64 d] t)).alloc (.cells c2 t2)).drew.grownBy w2 row) (hr : ∀ q, row = some q → q < w.heap.size) :
    w2.cell? ⟨w.heap.size, 0, none⟩ = some (.int .i64 a) ∧ w2.cell? ⟨w.heap.size, 1, none⟩ = some (.string k) ∧ w2.cell? ⟨w.heap.size, 2, none⟩ = some (.string v) ∧ w2.cell? ⟨w.heap.size, 3, none⟩ = some (.int .i64 d) := by
  have hne : some w.heap.size ≠ row := fun e => by have := hr _ e.symm; omega
  refine ⟨hg.cell (a := ⟨w.heap.size, 0, none⟩) (by simp [go_sem]) hne, hg.cell (a := ⟨w.heap.size, 1, none⟩) (by simp [go_sem]) hne, hg.cell (a := ⟨w.heap.size, 2, none⟩) (by simp [go_sem]) hne, hg.cell (a := ⟨w.heap.size, 3, none⟩) (by simp [go_sem]) hne⟩

end Go.Proofs.YtiplgdkpnhamaaaGreatDoor

/- Maps of the program in memory: a plain function from keys to elements, the elements' values as they lie. -/
namespace Go.Proofs.YtiplgdkpnhamaaaGreatDoor
open Go.RowKit
open Go.Maps (Keyed)

def rawElem (v : Value) : Option (DataW Value × List MemPlace) := some (.held v, [])
/-- Block b is a map of at most n entries that holds just what m says. -/
structure MapIn {α β : Type} (w : World) (k : TypeId) (b n : Nat) (kv : α → Value) (ev : β → Value) (m : α → Option β) : Prop where
  ex : ∃ D, w.ownsMap Tryz.prog k rawElem b n D ∧ (∀ a kl, keyOf Tryz.prog k (kv a) = some kl → Maps.has D kl = (m a).isSome ∧ ∀ x, m a = some x → ∀ z, D.atKey kl z = .held (ev x)) ∧ ∀ kl, Maps.has D kl = true → ∃ a x, keyOf Tryz.prog k (kv a) = some kl ∧ m a = some x
section
variable {α β : Type} {w w' : World} {k t e : TypeId} {b n : Nat} {kv : α → Value} {ev : β → Value} {m : α → Option β}
theorem MapIn.lt (h : MapIn w k b n kv ev m) : b < w.heap.size := by obtain ⟨D, hD, -⟩ := h.ex; exact hD.lt
theorem MapIn.move (h : MapIn w k b n kv ev m) (hb : w'.heap[b]? = w.heap[b]?) : MapIn w' k b n kv ev m := by
  obtain ⟨D, ⟨es, clock, h1, h2⟩, r⟩ := h.ex
  exact ⟨D, ⟨es, clock, hb.trans h1, h2⟩, r⟩
theorem MapIn.made (w : World) (k : TypeId) (kv : α → Value) (ev : β → Value) : MapIn (w.alloc (.map #[] 0)) k w.heap.size 0 kv ev (fun _ => none) :=
  ⟨_, World.ownsMap_made w Tryz.prog k rawElem, fun a kl _ => ⟨rfl, fun x hx => by cases hx⟩, fun kl hk => by simp [Maps.has] at hk⟩
theorem MapIn.lookup (h : MapIn w k b n kv ev m) (K : Keyed Tryz.prog k) (ht : Tryz.prog.underlying t = some (.map k e)) {z : Value} (hz : (zeroValue e).run Tryz.prog w = .ok z w) {a : α} {kl : Lit} (hkey : keyOf Tryz.prog k (kv a) = some kl) :
    (Instr.lookup t (.map (some b)) (kv a) false).run Tryz.prog w = .ok ((m a).elim z ev) w := by
  obtain ⟨D, hD, hat, -⟩ := h.ex
  obtain ⟨v, ps, hrun, hv⟩ := hD.lookup K ht hz (zd := .held z) (zp := []) rfl hkey
  obtain ⟨h1, h2⟩ := hat a kl hkey
  have e1 : DataW.held v = D.atKey kl (.held z) := congrArg Prod.fst (Option.some.inj hv)
  rw [hrun]
  cases hm : m a with
  | none =>
    rw [hm] at h1
    rw [Maps.atKey_of_not_has h1] at e1
    cases e1; rfl
  | some x =>
    rw [h2 x hm] at e1
    cases e1; rfl
theorem MapIn.lookup_ok (h : MapIn w k b n kv ev m) (K : Keyed Tryz.prog k) (ht : Tryz.prog.underlying t = some (.map k e)) {z : Value} (hz : (zeroValue e).run Tryz.prog w = .ok z w) {a : α} {kl : Lit} (hkey : keyOf Tryz.prog k (kv a) = some kl) :
    (Instr.lookup t (.map (some b)) (kv a) true).run Tryz.prog w = .ok (.tuple #[(m a).elim z ev, .bool (m a).isSome]) w := by
  obtain ⟨D, hD, hat, -⟩ := h.ex
  obtain ⟨v, ps, hrun, hv⟩ := hD.look_ok K ht hz (zd := .held z) (zp := []) rfl hkey
  obtain ⟨h1, h2⟩ := hat a kl hkey
  have e1 : DataW.held v = D.atKey kl (.held z) := congrArg Prod.fst (Option.some.inj hv)
  rw [hrun, h1]
  cases hm : m a with
  | none =>
    rw [hm] at h1
    rw [Maps.atKey_of_not_has h1] at e1
    cases e1; rfl
  | some x =>
    rw [h2 x hm] at e1
    cases e1; rfl
theorem MapIn.store [DecidableEq α] (h : MapIn w k b n kv ev m) (K : Keyed Tryz.prog k) (ht : Tryz.prog.underlying t = some (.map k e)) (hinj : ∀ a a', kv a = kv a' → a = a') (hn : n < maxLen) {a : α} {kl : Lit} (hkey : keyOf Tryz.prog k (kv a) = some kl) (x : β) :
    ∃ w', (Instr.mapUpdate t (.map (some b)) (kv a) (ev x)).run Tryz.prog w = .ok () w' ∧ MapIn w' k b (n + 1) kv ev (fun a' => if a' = a then some x else m a') ∧ w.grownBy w' (some b) := by
  obtain ⟨D, hD, hat, hall⟩ := h.ex
  obtain ⟨w', hrun, hD', hg⟩ := hD.update K ht hn (d := .held (ev x)) (ps := []) hkey rfl
  refine ⟨w', hrun, ⟨_, hD', fun a' kl' hk' => ?_, fun kl' hh => ?_⟩, hg⟩
  · by_cases c : a' = a
    · subst c
      rw [hkey] at hk'
      cases hk'
      rw [if_pos rfl]
      refine ⟨Maps.has_put_same hD.isMap (K.key hkey) _, fun y hy z => ?_⟩
      cases hy
      exact Maps.atKey_put_same hD.isMap (K.key hkey) _ _
    · have hne : kl' ≠ kl := fun e => c (hinj _ _ (K.inj hk' (e ▸ hkey)))
      rw [if_neg c, Maps.has_put_other hne]
      obtain ⟨h1, h2⟩ := hat a' kl' hk'
      refine ⟨h1, fun y hy z => ?_⟩
      rw [Maps.atKey_put_other hne]
      exact h2 y hy z
  · by_cases c : kl' = kl
    · subst c; exact ⟨a, x, hkey, by rw [if_pos rfl]⟩
    · rw [Maps.has_put_other c] at hh
      obtain ⟨a', y, ha', hy⟩ := hall kl' hh
      refine ⟨a', y, ha', ?_⟩
      rw [if_neg (fun e => c (by rw [e, hkey] at ha'; exact (Option.some.inj ha').symm))]
      exact hy
theorem MapIn.drop [DecidableEq α] (h : MapIn w k b n kv ev m) (K : Keyed Tryz.prog k) (ht : Tryz.prog.underlying t = some (.map k e)) (hinj : ∀ a a', kv a = kv a' → a = a') {a : α} {kl : Lit} (hkey : keyOf Tryz.prog k (kv a) = some kl) (ty : TypeId) :
    ∃ w', (Builtin.delete_ #[t, k] ty #[.map (some b), kv a]).run Tryz.prog w = .ok (.tuple #[]) w' ∧ MapIn w' k b n kv ev (fun a' => if a' = a then none else m a') ∧ w.grownBy w' (some b) := by
  obtain ⟨D, hD, hat, hall⟩ := h.ex
  obtain ⟨w', hrun, hD', hg⟩ := hD.drop K ht hkey ty
  refine ⟨w', hrun, ⟨_, hD', fun a' kl' hk' => ?_, fun kl' hh => ?_⟩, hg.grown⟩
  · by_cases c : a' = a
    · subst c
      rw [hkey] at hk'
      cases hk'
      rw [if_pos rfl]
      exact ⟨Maps.has_del_same, fun y hy => by cases hy⟩
    · have hne : kl' ≠ kl := fun e => c (hinj _ _ (K.inj hk' (e ▸ hkey)))
      rw [if_neg c, Maps.has_del_other hne]
      obtain ⟨h1, h2⟩ := hat a' kl' hk'
      refine ⟨h1, fun y hy z => ?_⟩
      rw [Maps.atKey_del_other hne]
      exact h2 y hy z
  · by_cases c : kl' = kl
    · subst c; rw [Maps.has_del_same] at hh; cases hh
    · rw [Maps.has_del_other c] at hh
      obtain ⟨a', y, ha', hy⟩ := hall kl' hh
      refine ⟨a', y, ha', ?_⟩
      rw [if_neg (fun e => c (by rw [e, hkey] at ha'; exact (Option.some.inj ha').symm))]
      exact hy
end

end Go.Proofs.YtiplgdkpnhamaaaGreatDoor
