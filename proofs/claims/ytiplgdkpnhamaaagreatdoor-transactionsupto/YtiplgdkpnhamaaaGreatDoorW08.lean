/- The texts S1, S2, S4, S5, L3, S6, S7, H1, joined. -/
import Derived.Test.YtiplgdkpnhamaaaGreatDoorW06
import Derived.Test.YtiplgdkpnhamaaaGreatDoorW07
import Derived.Test.YtiplgdkpnhamaaaGreatDoorW05
import Derived.Deep.RegionWith
import Derived.Deep.DeepCutAuto

/- The document's state of a replica and of a group; the reference's replica and group in memory, by owners. -/
namespace Go.Proofs.YtiplgdkpnhamaaaGreatDoor
open Go.RowKit

/-- A replica, as the document speaks of it: the transactions that are visible, in the order in which they became so; the vector; the open transactions by their numbers. -/
structure DRep where
  hs : List RTx
  vis : List Int
  opn : Nat → Option RTx

def opnAt (d : DRep) (tx : Int) : Option RTx := if 0 ≤ tx then d.opn tx.toNat else none
def freeSlot (opn : Nat → Option RTx) : Nat := (List.range 6).findIdx fun k => (opn k).isNone
def setSlot (opn : Nat → Option RTx) (k : Nat) (t : Option RTx) : Nat → Option RTx := fun j => if j = k then t else opn j
theorem setSlot_same (opn : Nat → Option RTx) (k : Nat) (t : Option RTx) : setSlot opn k t k = t := by simp [setSlot]
theorem setSlot_other {opn : Nat → Option RTx} {k j : Nat} {t : Option RTx} (h : j ≠ k) : setSlot opn k t j = opn j := by simp [setSlot, h]
theorem freeSlot_eq {opn : Nat → Option RTx} {k : Nat} (hk : k < 6) (h : ∀ j, j < k → (opn j).isSome = true) (h2 : opn k = none) : freeSlot opn = k := by
  unfold freeSlot
  rw [List.findIdx_eq (by simpa using hk)]
  refine ⟨by simp [h2], fun j hj => ?_⟩
  have := h j hj
  rw [Option.isSome_iff_exists] at this
  obtain ⟨t, ht⟩ := this
  simp [ht]
theorem freeSlot_full {opn : Nat → Option RTx} (h : ∀ j, j < 6 → (opn j).isSome = true) : freeSlot opn = 6 := by
  unfold freeSlot
  have : (List.range 6).findIdx (fun k => (opn k).isNone) = (List.range 6).length := by
    rw [List.findIdx_eq_length]
    intro x hx
    have := h x (by simpa using hx)
    rw [Option.isSome_iff_exists] at this
    obtain ⟨t, ht⟩ := this
    simp [ht]
  simpa using this
/-- What is read: the sum, the list, the error. -/
def readAns (t? : Option RTx) (key : ByteArray) (ts : List RTx) (n : Nat) : Int × List ByteArray × Int :=
  match t? with
  | none => (0, [], 4)
  | some t =>
    if kindOf key = 99 then (wrap64 (counterOf t.saw key ts + sumOf key t.ops), [], 0)
    else if kindOf key = 114 then (0, (match lastOf key noEl t.ops with | some o => [o.value] | none => registerOf t.saw key ts n), 0)
    else if kindOf key = 115 then (0, readSet key t.ops (setOf t.saw key ts), 0)
    else (0, [], 2)
def kindByte (kind : Int) : Int := if kind = 1 then 99 else if kind = 2 then 114 else 115
/-- How a write is answered. -/
def doesErr (t? : Option RTx) (p : ROp) : Int :=
  match t? with
  | none => 4
  | some t =>
    if ¬ kindOf p.key = kindByte p.kind then 2
    else if (p.kind = 1 ∧ (p.amount < -1000000 ∨ 1000000 < p.amount)) ∨ (¬ p.kind = 1 ∧ 8 < p.value.size) then 3
    else if 16 ≤ t.ops.length then 5
    else 0
def beginD (d : DRep) : DRep := if freeSlot d.opn < 6 then { d with opn := setSlot d.opn (freeSlot d.opn) (some ⟨0, 0, d.vis, []⟩) } else d
def beginAns (d : DRep) : Value := if freeSlot d.opn < 6 then .tuple #[.int .i64 (freeSlot d.opn), .int .i64 0] else .tuple #[.int .i64 0, .int .i64 5]
def doesD (d : DRep) (tx : Int) (p : ROp) : DRep :=
  match opnAt d tx with
  | none => d
  | some t => if doesErr (some t) p = 0 then { d with opn := setSlot d.opn tx.toNat (some { t with ops := t.ops ++ [p] }) } else d
def endD (d : DRep) (tx : Int) : DRep := { d with opn := setSlot d.opn tx.toNat none }
/-- The transaction that is committed. -/
def done (i : Nat) (d : DRep) (t : RTx) : RTx := ⟨i, d.vis.getD i 0 + 1, t.saw, t.ops⟩
def commitD (i : Nat) (d : DRep) (tx : Int) : DRep :=
  match opnAt d tx with
  | none => d
  | some t => if t.ops.length = 0 then endD d tx else ⟨d.hs ++ [done i d t], d.vis.set i (d.vis.getD i 0 + 1), setSlot d.opn tx.toNat none⟩
def commitAns (i : Nat) (d : DRep) (tx : Int) : Value :=
  match opnAt d tx with
  | none => .tuple #[.agg #[.int .i64 0, .int .i64 0], .int .i64 4]
  | some t => if t.ops.length = 0 then .tuple #[.agg #[.int .i64 0, .int .i64 0], .int .i64 0] else .tuple #[.agg #[.int .i64 i, .int .i64 (d.vis.getD i 0 + 1)], .int .i64 0]
def abortD (d : DRep) (tx : Int) : DRep := if (opnAt d tx).isSome then endD d tx else d
def abortAns (d : DRep) (tx : Int) : Value := if (opnAt d tx).isSome then .int .i64 0 else .int .i64 4

theorem Pc.move2 {w w' : World} {o o' : Nat → Tag} {t : Tag} {e : TypeId} {size : Nat} {v : Value} {n : Nat} {xs : List Value} (h : Pc w o t e size v n xs) (hb : ∀ q, q < w.heap.size → o q = t → w'.heap[q]? = w.heap[q]? ∧ o' q = t) : Pc w' o' t e size v n xs :=
  ⟨h.row.move fun k hk => (hb k (h.lt hk) (h.tag k hk)).1, fun q hq => (hb q (h.lt hq) (h.tag q hq)).2⟩
theorem Bl.move2 {w w' : World} {o o' : Nat → Tag} {t : Tag} {b : Nat} {cs : List Value} {ty : TypeId} (h : Bl w o t b cs ty) (hb : ∀ q, q < w.heap.size → o q = t → w'.heap[q]? = w.heap[q]? ∧ o' q = t) : Bl w' o' t b cs ty :=
  ⟨h.blk.move (hb b h.blk.lt h.tag).1, (hb b h.blk.lt h.tag).2⟩
theorem Pc.row' {w : World} {o : Nat → Tag} {t : Tag} {e : TypeId} {size : Nat} {v : Value} {n : Nat} {xs : List Value} (h : Pc w o t e size v n xs) : w.ownsRow 0 e size v n xs := h.row

/-- A replica of the reference in memory. -/
structure RefRep (w : World) (o : Nat → Tag) (s i b n : Nat) (vv v kv gv : Value) (xs : List XTx) (d : DRep) : Prop where
  blk : Bl w o (s + 2, i, 0) b [.int .i64 i, vv, v, kv, gv] 165
  vis : Pc w o (s + 3, i, 0) 3 1 vv d.vis.length (ints d.vis)
  row : Pc w o (s + 4, i, 0) 217 5 v xs.length (xs.flatMap XTx.cells)
  len : d.vis.length = n
  few : xs.length ≤ 6
  opn : ∀ k (h : k < xs.length), xs[k].isOpen = (d.opn k).isSome
  bey : ∀ k, xs.length ≤ k → d.opn k = none
  tx : ∀ k (h : k < xs.length) t, d.opn k = some t → t.saw.length = n ∧ t.ops.length ≤ 16 ∧ Pc w o (s + 5, i, k) 3 1 xs[k].sv n (ints t.saw) ∧ Pc w o (s + 6, i, k) 171 4 xs[k].ov t.ops.length (t.ops.flatMap ROp.cells)
def RefR (w : World) (o : Nat → Tag) (s i b n : Nat) (d : DRep) : Prop := ∃ vv v kv gv xs, RefRep w o s i b n vv v kv gv xs d
/-- Tags of a replica. -/
def repTag (s i : Nat) (t : Tag) : Prop := t = (s + 2, i, 0) ∨ t = (s + 3, i, 0) ∨ t = (s + 4, i, 0) ∨ ∃ k, t = (s + 5, i, k) ∨ t = (s + 6, i, k)
theorem RefRep.move {w w' : World} {o o' : Nat → Tag} {s i b n : Nat} {vv v kv gv : Value} {xs : List XTx} {d : DRep} (h : RefRep w o s i b n vv v kv gv xs d)
    (hm : ∀ q, q < w.heap.size → repTag s i (o q) → w'.heap[q]? = w.heap[q]? ∧ o' q = o q) : RefRep w' o' s i b n vv v kv gv xs d := by
  have f : ∀ t, repTag s i t → ∀ q, q < w.heap.size → o q = t → w'.heap[q]? = w.heap[q]? ∧ o' q = t := fun t ht q hq e => by
    have := hm q hq (by rw [e]; exact ht)
    exact ⟨this.1, this.2.trans e⟩
  refine ⟨h.blk.move2 (f _ (Or.inl rfl)), h.vis.move2 (f _ (Or.inr (Or.inl rfl))), h.row.move2 (f _ (Or.inr (Or.inr (Or.inl rfl)))), h.len, h.few, h.opn, h.bey, fun k hk t ht => ?_⟩
  obtain ⟨a, b', c, e⟩ := h.tx k hk t ht
  exact ⟨a, b', c.move2 (f _ (Or.inr (Or.inr (Or.inr ⟨k, Or.inl rfl⟩)))), e.move2 (f _ (Or.inr (Or.inr (Or.inr ⟨k, Or.inr rfl⟩))))⟩
theorem RefRep.touch {A : Tag → Prop} {w w' : World} {o o' : Nat → Tag} {s i b n : Nat} {vv v kv gv : Value} {xs : List XTx} {d : DRep} (h : RefRep w o s i b n vv v kv gv xs d) (k : TouchT A w o w' o') (hA : ∀ t, repTag s i t → ¬ A t) : RefRep w' o' s i b n vv v kv gv xs d :=
  h.move fun q hq e => ⟨k.touch.block q hq (hA _ e), k.same q hq⟩

/-- The reference's group in memory. -/
structure RefGrp (w : World) (o : Nat → Tag) (s gb n : Nat) (rsv av : Value) (bs : List Nat) (axs : List XTx) (ts : List RTx) : Prop where
  blk : Bl w o (s + 8, 0, 0) gb [.int .i64 n, rsv, av] 89
  rs : Pc w o (s + 8, 1, 0) 96 1 rsv bs.length (bs.map fun b => Value.pointer (some ⟨b, 0, none⟩))
  all : Pc w o (s + 8, 2, 0) 217 5 av axs.length (axs.flatMap XTx.cells)
  len : axs.length = ts.length
  tx : ∀ j (h : j < ts.length), (axs[j]'(by omega)).rep = ts[j].rep ∧ (axs[j]'(by omega)).seq = ts[j].seq ∧ ts[j].saw.length = n ∧ ts[j].ops.length ≤ 16 ∧ (0 ≤ ts[j].rep ∧ ts[j].rep < n) ∧
    Pc w o (s + 9, j, 0) 3 1 (axs[j]'(by omega)).sv n (ints ts[j].saw) ∧ Pc w o (s + 10, j, 0) 171 4 (axs[j]'(by omega)).ov ts[j].ops.length (ts[j].ops.flatMap ROp.cells)
  few : ts.length ≤ 2000000
def RefG (w : World) (o : Nat → Tag) (s gb n : Nat) (bs : List Nat) (ts : List RTx) : Prop := ∃ rsv av axs, RefGrp w o s gb n rsv av bs axs ts
def grpTag (s : Nat) (t : Tag) : Prop := (∃ k, t = (s + 8, k, 0)) ∨ ∃ j, t = (s + 9, j, 0) ∨ t = (s + 10, j, 0)
theorem RefGrp.move {w w' : World} {o o' : Nat → Tag} {s gb n : Nat} {rsv av : Value} {bs : List Nat} {axs : List XTx} {ts : List RTx} (h : RefGrp w o s gb n rsv av bs axs ts)
    (hm : ∀ q, q < w.heap.size → grpTag s (o q) → w'.heap[q]? = w.heap[q]? ∧ o' q = o q) : RefGrp w' o' s gb n rsv av bs axs ts := by
  have f : ∀ t, grpTag s t → ∀ q, q < w.heap.size → o q = t → w'.heap[q]? = w.heap[q]? ∧ o' q = t := fun t ht q hq e => by
    have := hm q hq (by rw [e]; exact ht)
    exact ⟨this.1, this.2.trans e⟩
  refine ⟨h.blk.move2 (f _ (Or.inl ⟨_, rfl⟩)), h.rs.move2 (f _ (Or.inl ⟨_, rfl⟩)), h.all.move2 (f _ (Or.inl ⟨_, rfl⟩)), h.len, fun j hj => ?_, h.few⟩
  obtain ⟨a, b, c, e, r, p, q⟩ := h.tx j hj
  exact ⟨a, b, c, e, r, p.move2 (f _ (Or.inr ⟨j, Or.inl rfl⟩)), q.move2 (f _ (Or.inr ⟨j, Or.inr rfl⟩))⟩
theorem RefGrp.touch {A : Tag → Prop} {w w' : World} {o o' : Nat → Tag} {s gb n : Nat} {rsv av : Value} {bs : List Nat} {axs : List XTx} {ts : List RTx} (h : RefGrp w o s gb n rsv av bs axs ts) (k : TouchT A w o w' o') (hA : ∀ t, grpTag s t → ¬ A t) : RefGrp w' o' s gb n rsv av bs axs ts :=
  h.move fun q hq e => ⟨k.touch.block q hq (hA _ e), k.same q hq⟩
theorem RefGrp.grpIn {w : World} {o : Nat → Tag} {s gb n : Nat} {rsv av : Value} {bs : List Nat} {axs : List XTx} {ts : List RTx} (h : RefGrp w o s gb n rsv av bs axs ts) : GrpIn w gb n av axs ts :=
  ⟨h.blk.blk.cell 0, h.blk.blk.cell 2, h.all.row, h.len, fun j hj => by
    obtain ⟨a, b, c, e, r, p, q⟩ := h.tx j hj
    exact ⟨a, b, by rw [c]; exact p.row, q.row, e⟩, fun j hj => (h.tx j hj).2.2.2.2.1, fun j hj => (h.tx j hj).2.2.1, h.few⟩

theorem freeAt_slot {w : World} {o : Nat → Tag} {s i b n : Nat} {vv v kv gv : Value} {xs : List XTx} {d : DRep} (h : RefRep w o s i b n vv v kv gv xs d) : (freeAt xs < 6 → freeSlot d.opn = freeAt xs) ∧ (6 ≤ freeAt xs → freeSlot d.opn = 6) := by
  have hle : freeAt xs ≤ xs.length := by unfold freeAt; exact List.findIdx_le_length
  have hbelow : ∀ j, j < freeAt xs → (d.opn j).isSome = true := fun j hj => by
    have hjx : j < xs.length := by omega
    have := List.not_of_lt_findIdx (p := fun x : XTx => !x.isOpen) (xs := xs) hj
    rw [← h.opn j hjx]
    simpa using this
  refine ⟨fun h6 => freeSlot_eq h6 hbelow ?_, fun h6 => freeSlot_full fun j hj => hbelow j (by omega)⟩
  by_cases hl : freeAt xs < xs.length
  · have := List.findIdx_getElem (p := fun x : XTx => !x.isOpen) (xs := xs) (w := hl)
    have e := h.opn (freeAt xs) hl
    rw [Bool.not_eq_true'] at this
    have e2 : (d.opn (freeAt xs)).isSome = false := by rw [← e]; exact this
    cases hd : d.opn (freeAt xs)
    · rfl
    · rw [hd] at e2; cases e2
  · exact h.bey _ (by omega)
theorem opn_at {w : World} {o : Nat → Tag} {s i b n : Nat} {vv v kv gv : Value} {xs : List XTx} {d : DRep} (h : RefRep w o s i b n vv v kv gv xs d) (tx : Int) : isOpenAt xs tx = (opnAt d tx).isSome := by
  unfold isOpenAt opnAt
  by_cases h0 : 0 ≤ tx
  · rw [if_pos h0]
    by_cases hl : tx < xs.length
    · rw [dif_pos ⟨h0, hl⟩]; exact h.opn _ (by omega)
    · rw [dif_neg (fun c => hl c.2), h.bey _ (by omega)]; rfl
  · rw [if_neg h0, dif_neg (fun c => h0 c.1)]; rfl
theorem opn_some {w : World} {o : Nat → Tag} {s i b n : Nat} {vv v kv gv : Value} {xs : List XTx} {d : DRep} (h : RefRep w o s i b n vv v kv gv xs d) {tx : Int} {t : RTx} (ht : opnAt d tx = some t) : ∃ k : Nat, tx = k ∧ k < xs.length ∧ d.opn k = some t := by
  unfold opnAt at ht
  split at ht
  · rename_i h0
    refine ⟨tx.toNat, by omega, ?_, ht⟩
    by_cases hl : tx.toNat < xs.length
    · exact hl
    · rw [h.bey _ (by omega)] at ht; cases ht
  · cases ht

end Go.Proofs.YtiplgdkpnhamaaaGreatDoor

/- The reference's Begin, Abort, Read over the document's state. -/
namespace Go.Proofs.YtiplgdkpnhamaaaGreatDoor
open Go.RowKit

theorem putAt_get? {α : Type} {l : List α} {k j : Nat} {x : α} (hk : k ≤ l.length) : (putAt l k x)[j]? = if j = k then some x else l[j]? := by
  unfold putAt
  split
  · rename_i h
    rw [List.getElem?_set]
    by_cases e : k = j
    · subst e; simp [h]
    · rw [if_neg e, if_neg (fun c => e c.symm)]
  · have e : k = l.length := by omega
    subst e
    by_cases e : j = l.length
    · subst e; simp
    · rw [if_neg e]
      by_cases hj : j < l.length
      · rw [List.getElem?_append_left hj]
      · rw [List.getElem?_append_right (by omega), List.getElem?_eq_none (by simp; omega), List.getElem?_eq_none (by omega)]
theorem putAt_len {α : Type} {l : List α} {k : Nat} {x : α} (hk : k ≤ l.length) : (putAt l k x).length = max l.length (k + 1) := by
  unfold putAt
  split <;> simp <;> omega
theorem below_move {w w' : World} (h : Below w.heap.size w w') (q : Nat) (hq : q < w.heap.size) : w'.heap[q]? = w.heap[q]? := h.block q hq

theorem RefRep.below {w w' : World} {o : Nat → Tag} {s i b n : Nat} {vv v kv gv : Value} {xs : List XTx} {d : DRep} (h : RefRep w o s i b n vv v kv gv xs d) (hB : Below w.heap.size w w') : RefRep w' o s i b n vv v kv gv xs d :=
  h.move fun q hq _ => ⟨hB.block q hq, rfl⟩
theorem RefGrp.below {w w' : World} {o : Nat → Tag} {s gb n : Nat} {rsv av : Value} {bs : List Nat} {axs : List XTx} {ts : List RTx} (h : RefGrp w o s gb n rsv av bs axs ts) (hB : Below w.heap.size w w') : RefGrp w' o s gb n rsv av bs axs ts :=
  h.move fun q hq _ => ⟨hB.block q hq, rfl⟩
theorem TouchT.ofBelow {A : Tag → Prop} {w w' : World} {o : Nat → Tag} (hB : Below w.heap.size w w') : TouchT A w o w' o := ⟨Touch.ofBelow hB, fun _ _ => rfl⟩

theorem begin_lift {w w' : World} {o : Nat → Tag} {s i b n : Nat} {vv v kv gv sv v' : Value} {xs : List XTx} {d : DRep} (h : RefRep w o s i b n vv v kv gv xs d) (h6 : freeAt xs < 6)
    (P : BeginPost w w' b i vv v kv gv d.vis xs (freeAt xs) sv v') :
    ∃ o', RefRep w' o' s i b n vv v' kv gv (putAt xs (freeAt xs) ⟨true, 0, 0, sv, .slice none 0 0⟩) { d with opn := setSlot d.opn (freeAt xs) (some ⟨0, 0, d.vis, []⟩) } ∧ TouchT (repTag s i) w o w' o' := by
  have hle : freeAt xs ≤ xs.length := by unfold freeAt; exact List.findIdx_le_length
  generalize hk : freeAt xs = k at *
  let f : Nat → Tag := fun q => if sv.ownBlock = some q then (s + 5, i, k) else (s + 4, i, 0)
  have hsame : ∀ q, q < w.heap.size → own2 o w.heap.size f q = o q := fun q hq => own2_low hq
  have hT : TouchT (repTag s i) w o w' (own2 o w.heap.size f) := by
    refine ⟨P.touch.mono fun q hq e => ?_, hsame⟩
    rcases e with e | e
    · rw [e, h.blk.tag]; exact Or.inl rfl
    · rw [h.row.tag q e]; exact Or.inr (Or.inr (Or.inl rfl))
  have hold : ∀ t, t ≠ (s + 2, i, 0) → t ≠ (s + 4, i, 0) → ∀ q, q < w.heap.size → o q = t → w'.heap[q]? = w.heap[q]? ∧ own2 o w.heap.size f q = t := fun t h2 h4 q hq e => by
    refine ⟨P.touch.block q hq fun c => ?_, (hsame q hq).trans e⟩
    rcases c with c | c
    · exact h2 (by rw [← e, c]; exact h.blk.tag)
    · exact h4 (by rw [← e]; exact h.row.tag q c)
  refine ⟨own2 o w.heap.size f, ⟨⟨P.blk, (hsame b h.blk.blk.lt).trans h.blk.tag⟩, h.vis.move2 (hold _ (by simp) (by simp)), ⟨P.row, fun q hq => ?_⟩, h.len, ?_, fun j hj => ?_, fun j hj => ?_, fun j hj t ht => ?_⟩, hT⟩
  · rcases P.own q hq with c | c
    · rw [hsame q (h.row.lt c)]; exact h.row.tag q c
    · rw [own2_high c]
      show (if sv.ownBlock = some q then _ else _) = _
      rw [if_neg (P.dis q hq)]
  · rw [putAt_len hle]; have := h.few; omega
  · have e := putAt_get? (x := (⟨true, 0, 0, sv, .slice none 0 0⟩ : XTx)) (j := j) hle
    rw [List.getElem?_eq_getElem hj] at e
    by_cases hjk : j = k
    · subst hjk
      rw [if_pos rfl] at e
      rw [Option.some.inj e]
      simp [setSlot]
    · rw [if_neg hjk] at e
      have hjx : j < xs.length := (List.getElem?_eq_some_iff.1 e.symm).1
      rw [List.getElem?_eq_getElem hjx] at e
      rw [Option.some.inj e, h.opn j hjx]
      simp [setSlot, hjk]
  · rw [putAt_len hle] at hj
    show setSlot d.opn k _ j = none
    rw [setSlot_other (by omega)]
    exact h.bey j (by omega)
  · have e := putAt_get? (x := (⟨true, 0, 0, sv, .slice none 0 0⟩ : XTx)) (j := j) hle
    rw [List.getElem?_eq_getElem hj] at e
    by_cases hjk : j = k
    · subst hjk
      rw [if_pos rfl] at e
      have ht' : some (⟨0, 0, d.vis, []⟩ : RTx) = some t := (setSlot_same d.opn j (some ⟨0, 0, d.vis, []⟩)).symm.trans ht
      cases ht'
      rw [Option.some.inj e]
      refine ⟨h.len, by simp, ⟨?_, fun q hq => ?_⟩, ⟨by simpa using World.ownsRow_nil _ _ _ _, fun q hq => by simp [Value.ownBlock] at hq⟩⟩
      · rw [← h.len]; exact ownsRow_low P.saw (Nat.zero_le _)
      · rw [own2_high (P.saw.lt q hq).1]
        show (if sv.ownBlock = some q then _ else _) = _
        rw [if_pos hq]
    · rw [if_neg hjk] at e
      have hjx : j < xs.length := (List.getElem?_eq_some_iff.1 e.symm).1
      rw [List.getElem?_eq_getElem hjx] at e
      have ht' : d.opn j = some t := (setSlot_other hjk).symm.trans ht
      obtain ⟨a1, a2, a3, a4⟩ := h.tx j hjx t ht'
      rw [Option.some.inj e]
      exact ⟨a1, a2, a3.move2 (hold _ (by simp) (by simp)), a4.move2 (hold _ (by simp) (by simp))⟩

theorem ref_begin (w : World) (o : Nat → Tag) (s i b n : Nat) (d : DRep) (h : RefR w o s i b n d) (hn : 1 ≤ n) (hn5 : n ≤ 5) :
    Calls Tryz.prog 87 #[.pointer (some ⟨b, 0, none⟩)] w fun e w' => e = .returned (beginAns d) ∧ ∃ o', RefR w' o' s i b n (beginD d) ∧ TouchT (repTag s i) w o w' o' := by
  obtain ⟨vv, v, kv, gv, xs, h⟩ := h
  have hfree := freeAt_slot h
  have hl := h.len
  by_cases h6 : freeAt xs < 6
  · refine (rbegin_ok w b i vv v kv gv d.vis xs h.few (by omega) (by omega) h.blk.blk h.vis.row h.row.row (fun e => by have a := h.row.tag b e; rw [h.blk.tag] at a; simp at a) h6).mono ?_
    rintro e w' ⟨sv, v', rfl, P⟩
    obtain ⟨o', hR, hT⟩ := begin_lift h h6 P
    have e1 := hfree.1 h6
    refine ⟨by rw [beginAns, if_pos (by omega), e1], o', ⟨vv, v', kv, gv, putAt xs (freeAt xs) ⟨true, 0, 0, sv, .slice none 0 0⟩, ?_⟩, hT⟩
    rw [beginD, if_pos (by omega), e1]
    exact hR
  · refine (rbegin_full w b v xs h.few (h.blk.blk.cell 2) h.row.row (by omega)).mono ?_
    rintro e w' ⟨rfl, rfl⟩
    have e1 := hfree.2 (by omega)
    refine ⟨by rw [beginAns, if_neg (by omega)], o, ⟨vv, v, kv, gv, xs, ?_⟩, TouchT.refl _ _ _⟩
    rw [beginD, if_neg (by omega)]
    exact h

/-- A transaction is open no longer. -/
theorem end_lift {w w' : World} {o : Nat → Tag} {s i b n k : Nat} {vv v kv gv : Value} {xs : List XTx} {d : DRep} (h : RefRep w o s i b n vv v kv gv xs d) (hk : k < xs.length)
    (hrow : Row w' 217 5 v xs.length ((xs.set k { xs[k] with isOpen := false }).flatMap XTx.cells)) (ht : Touch (fun q => v.ownBlock = some q) w w') :
    RefRep w' o s i b n vv v kv gv (xs.set k { xs[k] with isOpen := false }) { d with opn := setSlot d.opn k none } ∧ TouchT (repTag s i) w o w' o := by
  have hold : ∀ t, t ≠ (s + 4, i, 0) → ∀ q, q < w.heap.size → o q = t → w'.heap[q]? = w.heap[q]? ∧ o q = t := fun t h4 q hq e =>
    ⟨ht.block q hq fun c => h4 (by rw [← e]; exact h.row.tag q c), e⟩
  refine ⟨⟨h.blk.move2 (hold _ (by simp)), h.vis.move2 (hold _ (by simp)), ⟨by rw [List.length_set]; exact hrow, h.row.tag⟩, h.len, by rw [List.length_set]; exact h.few, fun j hj => ?_, fun j hj => ?_, fun j hj t htt => ?_⟩, ⟨ht.mono fun q _ e => by rw [h.row.tag q e]; exact Or.inr (Or.inr (Or.inl rfl)), fun _ _ => rfl⟩⟩
  · rw [List.length_set] at hj
    by_cases e : k = j
    · subst e; simp [setSlot]
    · rw [List.getElem_set_ne e, h.opn j hj]
      show _ = (setSlot d.opn k none j).isSome
      rw [setSlot_other (fun c => e c.symm)]
  · rw [List.length_set] at hj
    by_cases e : j = k
    · subst e; exact setSlot_same _ _ _
    · exact (setSlot_other e).trans (h.bey j hj)
  · rw [List.length_set] at hj
    by_cases e : j = k
    · subst e
      have c : (none : Option RTx) = some t := (setSlot_same d.opn j none).symm.trans htt
      cases c
    · have c : d.opn j = some t := (setSlot_other e).symm.trans htt
      obtain ⟨a1, a2, a3, a4⟩ := h.tx j hj t c
      rw [List.getElem_set_ne (fun c => e c.symm)]
      exact ⟨a1, a2, a3.move2 (hold _ (by simp)), a4.move2 (hold _ (by simp))⟩

theorem ref_abort (w : World) (o : Nat → Tag) (s i b n : Nat) (d : DRep) (tx : Int) (h : RefR w o s i b n d) :
    Calls Tryz.prog 92 #[.pointer (some ⟨b, 0, none⟩), .int .i64 tx] w fun e w' => e = .returned (abortAns d tx) ∧ ∃ o', RefR w' o' s i b n (abortD d tx) ∧ TouchT (repTag s i) w o w' o' := by
  obtain ⟨vv, v, kv, gv, xs, h⟩ := h
  have hop := opn_at h tx
  cases hd : opnAt d tx with
  | none =>
    rw [hd] at hop
    refine (rabort_no w b v xs tx h.few (h.blk.blk.cell 2) h.row.row hop).mono ?_
    rintro e w' ⟨rfl, rfl⟩
    refine ⟨by rw [abortAns, hd]; rfl, o, ⟨vv, v, kv, gv, xs, ?_⟩, TouchT.refl _ _ _⟩
    rw [abortD, hd]; exact h
  | some t =>
    obtain ⟨k, rfl, hk, hk'⟩ := opn_some h hd
    refine (rabort_ok w b v xs k h.few hk (h.blk.blk.cell 2) h.row.row (by rw [h.opn k hk, hk']; rfl)).mono ?_
    rintro e w' ⟨rfl, hrow, ht⟩
    obtain ⟨hR, hT⟩ := end_lift h hk hrow ht
    refine ⟨by rw [abortAns, hd]; rfl, o, ⟨vv, v, kv, gv, xs.set k { xs[k] with isOpen := false }, ?_⟩, hT⟩
    rw [abortD, hd]; exact hR

theorem RefRep.txIn {w : World} {o : Nat → Tag} {s i b n k : Nat} {vv v kv gv : Value} {xs : List XTx} {d : DRep} {t : RTx} (h : RefRep w o s i b n vv v kv gv xs d) (hk : k < xs.length) (ht : d.opn k = some t) : Row w 3 1 xs[k].sv t.saw.length (ints t.saw) ∧ Row w 171 4 xs[k].ov t.ops.length (t.ops.flatMap ROp.cells) := by
  obtain ⟨a1, _, a3, a4⟩ := h.tx k hk t ht
  exact ⟨by rw [a1]; exact a3.row, a4.row⟩

theorem withEls_len (v : List Int) (key : ByteArray) (ts : List RTx) (t : RTx) : ∀ (es acc : List ByteArray), (es.foldl (setEl v key ts t) acc).length ≤ acc.length + es.length
  | [], acc => by simp
  | e :: es, acc => by
    have a := setEl_len v key ts t acc e
    have b := withEls_len v key ts t es (setEl v key ts t acc e)
    simp only [List.foldl_cons, List.length_cons]
    omega
theorem setOf_len (v : List Int) (key : ByteArray) (ts : List RTx) (hop : ∀ t, t ∈ ts → t.ops.length ≤ 16) : (setOf v key ts).length ≤ 16 * ts.length := by
  have : ∀ (us : List RTx) (acc : List ByteArray), (∀ t, t ∈ us → t.ops.length ≤ 16) → (us.foldl (setTx v key ts) acc).length ≤ acc.length + 16 * us.length := by
    intro us
    induction us with
    | nil => intro acc _; simp
    | cons u us ih =>
      intro acc h
      have a : (setTx v key ts acc u).length ≤ acc.length + 16 := by
        unfold setTx
        split
        · have := withEls_len v key ts u (elemsOf key u.ops) acc
          have := elemsOf_len key u.ops
          have := h u (by simp)
          omega
        · omega
      have b := ih (setTx v key ts acc u) (fun t ht => h t (by simp [ht]))
      simp only [List.foldl_cons, List.length_cons]
      omega
  simpa [setOf] using this ts [] hop

/-- What a transaction saw is there. -/
structure SawIn (t : RTx) (ts : List RTx) : Prop where
  pos : ∀ r (h : r < t.saw.length), 0 ≤ t.saw[r] ∧ t.saw[r] ≤ 2000000
  full : ∀ r (h : r < t.saw.length) (s : Nat), (s : Int) + 1 ≤ t.saw[r] → ∃ u, u ∈ ts ∧ isDot (r : Int) ((s : Int) + 1) u = true

theorem ref_read (w : World) (o : Nat → Tag) (s i b gb n : Nat) (bs : List Nat) (d : DRep) (ts : List RTx) (tx : Int) (key : ByteArray) (h : RefR w o s i b n d) (G : RefG w o s gb n bs ts) (hn5 : n ≤ 5) (hkey : key.size ≤ maxLen)
    (hsaw : ∀ t, opnAt d tx = some t → SawIn t ts) :
    Calls Tryz.prog 88 #[.pointer (some ⟨gb, 0, none⟩), .pointer (some ⟨b, 0, none⟩), .int .i64 tx, .string key] w fun e w' => ∃ lv, e = .returned (valAgg (readAns (opnAt d tx) key ts n).1 lv (readAns (opnAt d tx) key ts n).2.2) ∧
      w'.ownsRow w.heap.size 9 1 lv (readAns (opnAt d tx) key ts n).2.1.length (strs (readAns (opnAt d tx) key ts n).2.1) ∧ Below w.heap.size w w' := by
  obtain ⟨vv, v, kv, gv, xs, h⟩ := h
  obtain ⟨rsv, av, axs, G⟩ := G
  have hop := opn_at h tx
  cases hd : opnAt d tx with
  | none =>
    rw [hd] at hop
    refine (rread_no w gb b v xs tx key h.few (h.blk.blk.cell 2) h.row.row hop).mono ?_
    rintro e w' ⟨rfl, hB⟩
    exact ⟨_, rfl, by simpa [readAns, strs] using World.ownsRow_nil _ _ _ _, hB⟩
  | some t =>
    obtain ⟨k, rfl, hk, hk'⟩ := opn_some h hd
    have hS := hsaw t hd
    have hxo : xs[k].isOpen = true := by rw [h.opn k hk, hk']; rfl
    obtain ⟨a1, a2, a3, a4⟩ := h.tx k hk t hk'
    have hT : TxIn w xs[k] { t with rep := xs[k].rep, seq := xs[k].seq } := ⟨rfl, rfl, by show Row w _ 1 _ t.saw.length _; rw [a1]; exact a3.row, a4.row, a2⟩
    have hgi := G.grpIn
    by_cases h99 : kindOf key = 99
    · have er : readAns (some t) key ts n = (wrap64 (counterOf t.saw key ts + sumOf key t.ops), [], 0) := by simp [readAns, h99]
      rw [er]
      refine (rread_counter w gb b n av v axs xs ts k key _ h.few hk hkey hgi (h.blk.blk.cell 2) h.row.row hxo hT a1 h99).mono ?_
      rintro e w' ⟨rfl, hB⟩
      exact ⟨_, rfl, by simpa [strs] using World.ownsRow_nil _ _ _ _, hB⟩
    · by_cases h114 : kindOf key = 114
      · cases hlast : lastOf key noEl t.ops with
        | some p =>
          have er : readAns (some t) key ts n = (0, [p.value], 0) := by simp [readAns, h114, hlast]
          rw [er]
          refine (rread_own w gb b n av v axs xs ts k key _ p h.few hk hkey hgi (h.blk.blk.cell 2) h.row.row hxo hT a1 h114 hlast).mono ?_
          rintro e w' ⟨lv, rfl, hl, hB⟩
          exact ⟨lv, rfl, hl, hB⟩
        | none =>
          have er : readAns (some t) key ts n = (0, registerOf t.saw key ts n, 0) := by simp [readAns, h114, hlast]
          rw [er]
          refine (rread_told w gb b n av v axs xs ts k key _ h.few hk hkey hgi (h.blk.blk.cell 2) h.row.row hxo hT a1 h114 hlast hn5 hS.pos hS.full).mono ?_
          rintro e w' ⟨lv, rfl, hl, hB⟩
          exact ⟨lv, rfl, hl, hB⟩
      · by_cases h115 : kindOf key = 115
        · have er : readAns (some t) key ts n = (0, readSet key t.ops (setOf t.saw key ts), 0) := by simp [readAns, h115]
          rw [er]
          refine (rread_set w gb b n av v axs xs ts k key _ h.few hk hkey hgi (h.blk.blk.cell 2) h.row.row hxo hT a1 h115 ?_).mono ?_
          · have := setOf_len t.saw key ts (fun u hu => by obtain ⟨j, hj, rfl⟩ := List.mem_iff_getElem.1 hu; exact (G.tx j hj).2.2.2.1)
            have := G.few
            show (setOf t.saw key ts).length ≤ 40000000
            omega
          · rintro e w' ⟨lv, rfl, hl, hB⟩
            exact ⟨lv, rfl, hl, hB⟩
        · have er : readAns (some t) key ts n = (0, [], 2) := by simp [readAns, h99, h114, h115]
          rw [er]
          have h0 : kindOf key = 0 := by
            by_cases hs : 1 ≤ key.size ∧ key.size ≤ 8
            · rw [kindOf_in hs] at h99 h114 h115 ⊢
              split at h99
              · rename_i c
                rw [if_pos c] at h114 h115
                rcases c with c | c | c
                · exact absurd c h99
                · exact absurd c h114
                · exact absurd c h115
              · rename_i c; rw [if_neg c]
            · exact kindOf_long hs
          refine (rread_key w gb b v xs k key h.few hk hkey (h.blk.blk.cell 2) h.row.row hxo h0).mono ?_
          rintro e w' ⟨rfl, hB⟩
          exact ⟨_, rfl, by simpa [strs] using World.ownsRow_nil _ _ _ _, hB⟩

end Go.Proofs.YtiplgdkpnhamaaaGreatDoor

/- The reference's Commit over the document's state. -/
namespace Go.Proofs.YtiplgdkpnhamaaaGreatDoor
open Go.RowKit

/-- Of what was there, only blocks of owners of B have turned or gone over to others. -/
structure Moved (B : Tag → Prop) (w : World) (o : Nat → Tag) (w' : World) (o' : Nat → Tag) : Prop where
  touch : Touch (fun q => B (o q)) w w'
  same : ∀ q, q < w.heap.size → ¬ B (o q) → o' q = o q
theorem TouchT.moved {A B : Tag → Prop} {w w' : World} {o o' : Nat → Tag} (h : TouchT A w o w' o') (hs : ∀ t, A t → B t) : Moved B w o w' o' := ⟨h.touch.mono fun _ _ => hs _, fun q hq _ => h.same q hq⟩
theorem Moved.refl (B : Tag → Prop) (w : World) (o : Nat → Tag) : Moved B w o w o := ⟨Touch.refl _ _, fun _ _ _ => rfl⟩
theorem Moved.mono {A B : Tag → Prop} {w w' : World} {o o' : Nat → Tag} (h : Moved A w o w' o') (hs : ∀ t, A t → B t) : Moved B w o w' o' := ⟨h.touch.mono fun _ _ => hs _, fun q hq hb => h.same q hq fun a => hb (hs _ a)⟩
theorem Moved.trans {B : Tag → Prop} {w w1 w2 : World} {o o1 o2 : Nat → Tag} (h : Moved B w o w1 o1) (k : Moved B w1 o1 w2 o2) : Moved B w o w2 o2 := by
  refine ⟨⟨k.touch.os.trans h.touch.os, k.touch.tape.trans h.touch.tape, k.touch.output.trans h.touch.output, Nat.le_trans h.touch.size k.touch.size, fun q hq hb => ?_⟩, fun q hq hb => ?_⟩
  · rw [k.touch.block q (Nat.lt_of_lt_of_le hq h.touch.size) (by rw [h.same q hq hb]; exact hb), h.touch.block q hq hb]
  · rw [k.same q (Nat.lt_of_lt_of_le hq h.touch.size) (by rw [h.same q hq hb]; exact hb), h.same q hq hb]
theorem Moved.at {B : Tag → Prop} {w w' : World} {o o' : Nat → Tag} (h : Moved B w o w' o') {q : Nat} (hq : q < w.heap.size) (hb : ¬ B (o q)) : w'.heap[q]? = w.heap[q]? ∧ o' q = o q := ⟨h.touch.block q hq hb, h.same q hq hb⟩
theorem RefRep.moved {B : Tag → Prop} {w w' : World} {o o' : Nat → Tag} {s i b n : Nat} {vv v kv gv : Value} {xs : List XTx} {d : DRep} (h : RefRep w o s i b n vv v kv gv xs d) (k : Moved B w o w' o') (hB : ∀ t, repTag s i t → ¬ B t) : RefRep w' o' s i b n vv v kv gv xs d :=
  h.move fun _ hq e => k.at hq (hB _ e)
theorem RefGrp.moved {B : Tag → Prop} {w w' : World} {o o' : Nat → Tag} {s gb n : Nat} {rsv av : Value} {bs : List Nat} {axs : List XTx} {ts : List RTx} (h : RefGrp w o s gb n rsv av bs axs ts) (k : Moved B w o w' o') (hB : ∀ t, grpTag s t → ¬ B t) : RefGrp w' o' s gb n rsv av bs axs ts :=
  h.move fun _ hq e => k.at hq (hB _ e)
theorem Pc.moved {B : Tag → Prop} {w w' : World} {o o' : Nat → Tag} {t : Tag} {e : TypeId} {size : Nat} {v : Value} {n : Nat} {xs : List Value} (h : Pc w o t e size v n xs) (k : Moved B w o w' o') (hB : ¬ B t) : Pc w' o' t e size v n xs :=
  h.move2 fun q hq e => ⟨(k.at hq (by rw [e]; exact hB)).1, (k.at hq (by rw [e]; exact hB)).2.trans e⟩
theorem Bl.moved {B : Tag → Prop} {w w' : World} {o o' : Nat → Tag} {t : Tag} {b : Nat} {cs : List Value} {ty : TypeId} (h : Bl w o t b cs ty) (k : Moved B w o w' o') (hB : ¬ B t) : Bl w' o' t b cs ty :=
  h.move2 fun q hq e => ⟨(k.at hq (by rw [e]; exact hB)).1, (k.at hq (by rw [e]; exact hB)).2.trans e⟩

/-- Owners get other names. -/
theorem Pc.rename {w : World} {o : Nat → Tag} {t : Tag} {e : TypeId} {size : Nat} {v : Value} {n : Nat} {xs : List Value} (h : Pc w o t e size v n xs) (r : Tag → Tag) : Pc w (fun q => r (o q)) (r t) e size v n xs :=
  ⟨h.row, fun q hq => by show r (o q) = r t; rw [h.tag q hq]⟩
theorem Bl.rename {w : World} {o : Nat → Tag} {t : Tag} {b : Nat} {cs : List Value} {ty : TypeId} (h : Bl w o t b cs ty) (r : Tag → Tag) : Bl w (fun q => r (o q)) (r t) b cs ty :=
  ⟨h.blk, by show r (o b) = r t; rw [h.tag]⟩
def gives (s i k m : Nat) (t : Tag) : Tag := if t = (s + 5, i, k) then (s + 9, m, 0) else if t = (s + 6, i, k) then (s + 10, m, 0) else t
theorem gives_saw (s i k m : Nat) : gives s i k m (s + 5, i, k) = (s + 9, m, 0) := by simp [gives]
theorem gives_ops (s i k m : Nat) : gives s i k m (s + 6, i, k) = (s + 10, m, 0) := by simp [gives]
theorem gives_other {s i k m : Nat} {t : Tag} (h1 : t ≠ (s + 5, i, k)) (h2 : t ≠ (s + 6, i, k)) : gives s i k m t = t := by simp [gives, h1, h2]

def coTag (s i : Nat) (t : Tag) : Prop := t = (s + 8, 0, 0) ∨ t = (s + 8, 2, 0) ∨ t = (s + 3, i, 0) ∨ t = (s + 4, i, 0)
/-- What Commit may turn. -/
def bothTag (s i : Nat) (t : Tag) : Prop := repTag s i t ∨ grpTag s t

theorem commit_lift {w w' : World} {o o' : Nat → Tag} {s i b gb n k : Nat} {vv v kv gv rsv av av' : Value} {xs axs : List XTx} {bs : List Nat} {ts : List RTx} {d : DRep} {t : RTx} (h : RefRep w o s i b n vv v kv gv xs d) (G : RefGrp w o s gb n rsv av bs axs ts)
    (hk : k < xs.length) (hk' : d.opn k = some t) (hi : i < d.vis.length) (hts : ts.length < 2000000)
    (C : CoSt (coTag s i) w o w' o' (s + 8, 0, 0) (s + 8, 2, 0) (s + 2, i, 0) (s + 3, i, 0) (s + 4, i, 0) gb b n i rsv av' vv v kv gv (d.vis.set i (d.vis[i] + 1)) (axs ++ [{ xs[k] with isOpen := false, rep := i, seq := d.vis[i] + 1 }]) (xs.set k { xs[k] with isOpen := false })) :
    ∃ o2, RefRep w' o2 s i b n vv v kv gv (xs.set k { xs[k] with isOpen := false }) ⟨d.hs ++ [done i d t], d.vis.set i (d.vis.getD i 0 + 1), setSlot d.opn k none⟩ ∧ RefGrp w' o2 s gb n rsv av' bs (axs ++ [{ xs[k] with isOpen := false, rep := i, seq := d.vis[i] + 1 }]) (ts ++ [done i d t]) ∧ Moved (bothTag s i) w o w' o2 := by
  have hgd : d.vis.getD i 0 = d.vis[i] := by simp [hi]
  have hl := h.len
  obtain ⟨a1, a2, a3, a4⟩ := h.tx k hk t hk'
  have keep : ∀ {t' : Tag} {e : TypeId} {size : Nat} {v : Value} {n : Nat} {ys : List Value}, Pc w o t' e size v n ys → ¬ coTag s i t' → Pc w' (fun q => gives s i k ts.length (o' q)) (gives s i k ts.length t') e size v n ys := fun hp hc => (hp.touch C.touch hc).rename _
  have keep' : ∀ {t' : Tag} {e : TypeId} {size : Nat} {v : Value} {n : Nat} {ys : List Value}, Pc w o t' e size v n ys → ¬ coTag s i t' → t' ≠ (s + 5, i, k) → t' ≠ (s + 6, i, k) → Pc w' (fun q => gives s i k ts.length (o' q)) t' e size v n ys := fun hp hc h1 h2 => by
    have a := keep hp hc
    rw [gives_other h1 h2] at a
    exact a
  have rn : ∀ {t' : Tag} {e : TypeId} {size : Nat} {v : Value} {n : Nat} {ys : List Value}, Pc w' o' t' e size v n ys → t' ≠ (s + 5, i, k) → t' ≠ (s + 6, i, k) → Pc w' (fun q => gives s i k ts.length (o' q)) t' e size v n ys := fun hp h1 h2 => by
    have a := hp.rename (gives s i k ts.length)
    rw [gives_other h1 h2] at a
    exact a
  have rb : ∀ {t' : Tag} {b' : Nat} {cs : List Value} {ty : TypeId}, Bl w' o' t' b' cs ty → t' ≠ (s + 5, i, k) → t' ≠ (s + 6, i, k) → Bl w' (fun q => gives s i k ts.length (o' q)) t' b' cs ty := fun hp h1 h2 => by
    have a := hp.rename (gives s i k ts.length)
    rw [gives_other h1 h2] at a
    exact a
  have hgl := G.len
  refine ⟨fun q => gives s i k ts.length (o' q), ⟨rb C.rep (by simp) (by simp), ?_, rn C.row (by simp) (by simp), ?_, by rw [List.length_set]; exact h.few, fun j hj => ?_, fun j hj => ?_, fun j hj u hu => ?_⟩,
    ⟨rb C.grp (by simp) (by simp), keep' G.rs (by simp [coTag]) (by simp) (by simp), rn C.all (by simp) (by simp), by simp [hgl], fun j hj => ?_, by simp; omega⟩, ⟨C.touch.touch.mono fun q _ hc => ?_, fun q hq hb => ?_⟩⟩
  · rw [hgd]; exact rn C.vis (by simp) (by simp)
  · simp [hl]
  · rw [List.length_set] at hj
    show _ = (setSlot d.opn k none j).isSome
    by_cases e : k = j
    · subst e; simp [setSlot]
    · rw [List.getElem_set_ne e, h.opn j hj, setSlot_other (fun c => e c.symm)]
  · rw [List.length_set] at hj
    by_cases e : j = k
    · subst e; exact setSlot_same _ _ _
    · exact (setSlot_other e).trans (h.bey j hj)
  · rw [List.length_set] at hj
    by_cases e : j = k
    · subst e
      have c : (none : Option RTx) = some u := (setSlot_same d.opn j none).symm.trans hu
      cases c
    · have c : d.opn j = some u := (setSlot_other e).symm.trans hu
      obtain ⟨c1, c2, c3, c4⟩ := h.tx j hj u c
      rw [List.getElem_set_ne (fun c => e c.symm)]
      exact ⟨c1, c2, keep' c3 (by simp [coTag]) (by simp [e]) (by simp), keep' c4 (by simp [coTag]) (by simp) (by simp [e])⟩
  · rw [List.length_append, List.length_singleton] at hj
    by_cases hjt : j < ts.length
    · obtain ⟨c1, c2, c3, c4, c5, c6, c7⟩ := G.tx j hjt
      simp only [List.getElem_append_left hjt, List.getElem_append_left (show j < axs.length by omega)]
      exact ⟨c1, c2, c3, c4, c5, keep' c6 (by simp [coTag]) (by simp) (by simp), keep' c7 (by simp [coTag]) (by simp) (by simp)⟩
    · have e : j = ts.length := by omega
      subst e
      have e1 : (ts ++ [done i d t])[ts.length]'(by simp) = done i d t := by simp
      have e2 : (axs ++ [({ xs[k] with isOpen := false, rep := i, seq := d.vis[i] + 1 } : XTx)])[ts.length]'(by simp; omega) = { xs[k] with isOpen := false, rep := i, seq := d.vis[i] + 1 } := by
        rw [List.getElem_append_right (by omega)]; simp [hgl]
      rw [e1, e2]
      refine ⟨rfl, by simp only [done]; rw [hgd], a1, a2, ⟨by simp [done], by simp only [done]; omega⟩, ?_, ?_⟩
      · have c := keep a3 (by simp [coTag])
        rw [gives_saw] at c
        exact c
      · have c := keep a4 (by simp [coTag])
        rw [gives_ops] at c
        exact c
  · rcases hc with c | c | c | c
    · exact Or.inr (Or.inl ⟨0, c⟩)
    · exact Or.inr (Or.inl ⟨2, c⟩)
    · exact Or.inl (Or.inr (Or.inl c))
    · exact Or.inl (Or.inr (Or.inr (Or.inl c)))
  · show gives s i k ts.length (o' q) = o q
    rw [C.touch.same q hq]
    exact gives_other (fun e => hb (Or.inl (Or.inr (Or.inr (Or.inr ⟨k, Or.inl e⟩))))) (fun e => hb (Or.inl (Or.inr (Or.inr (Or.inr ⟨k, Or.inr e⟩)))))

def commitT (i : Nat) (d : DRep) (tx : Int) (ts : List RTx) : List RTx :=
  match opnAt d tx with
  | none => ts
  | some t => if t.ops.length = 0 then ts else ts ++ [done i d t]

theorem ref_commit (w : World) (o : Nat → Tag) (s i b gb n : Nat) (bs : List Nat) (d : DRep) (ts : List RTx) (tx : Int) (h : RefR w o s i b n d) (G : RefG w o s gb n bs ts) (hi : i < n) (hn5 : n ≤ 5) (hts : ts.length < 2000000) (hvis : ∀ j (hj : j < d.vis.length), 0 ≤ d.vis[j] ∧ d.vis[j] ≤ 2000000) :
    Calls Tryz.prog 91 #[.pointer (some ⟨gb, 0, none⟩), .pointer (some ⟨b, 0, none⟩), .int .i64 tx] w fun e w' => e = .returned (commitAns i d tx) ∧ ∃ o', RefR w' o' s i b n (commitD i d tx) ∧ RefG w' o' s gb n bs (commitT i d tx ts) ∧ Moved (bothTag s i) w o w' o' := by
  obtain ⟨vv, v, kv, gv, xs, h⟩ := h
  obtain ⟨rsv, av, axs, G⟩ := G
  have hop := opn_at h tx
  have hl := h.len
  cases hd : opnAt d tx with
  | none =>
    rw [hd] at hop
    refine (rcommit_no w gb b v xs tx h.few (h.blk.blk.cell 2) h.row.row hop).mono ?_
    rintro e w' ⟨rfl, hB⟩
    refine ⟨by rw [commitAns, hd], o, ⟨vv, v, kv, gv, xs, ?_⟩, ⟨rsv, av, axs, ?_⟩, (TouchT.ofBelow (A := repTag s i) hB).moved fun _ => Or.inl⟩
    · rw [commitD, hd]; exact h.below hB
    · rw [commitT, hd]; exact G.below hB
  | some t =>
    obtain ⟨k, rfl, hk, hk'⟩ := opn_some h hd
    have hxo : xs[k].isOpen = true := by rw [h.opn k hk, hk']; rfl
    obtain ⟨a1, a2, a3, a4⟩ := h.tx k hk t hk'
    obtain ⟨oo, ocap, hov, -⟩ := a4.row.shape
    obtain ⟨so, scap, hsv, -⟩ := a3.row.shape
    have hvb : ¬ v.ownBlock = some b := fun e => by have c := h.row.tag b e; rw [h.blk.tag] at c; simp at c
    by_cases h0 : t.ops.length = 0
    · rw [h0] at hov
      refine (rcommit_empty w gb b v xs k oo ocap h.few hk h.blk.blk.lt (h.blk.blk.cell 2) h.row.row hxo hov hvb).mono ?_
      rintro e w' ⟨rfl, hrow, ht⟩
      obtain ⟨hR, hT⟩ := end_lift h hk hrow ht
      refine ⟨by simp only [commitAns, hd]; rw [if_pos h0], o, ⟨vv, v, kv, gv, xs.set k { xs[k] with isOpen := false }, ?_⟩, ⟨rsv, av, axs, ?_⟩, hT.moved fun _ => Or.inl⟩
      · simp only [commitD, hd]; rw [if_pos h0]; exact hR
      · simp only [commitT, hd]; rw [if_pos h0]
        exact G.touch hT (fun t' hg hr => by
          rcases hg with ⟨x, rfl⟩ | ⟨x, rfl | rfl⟩ <;> simp [repTag] at hr)
    · obtain ⟨m, hm⟩ : ∃ m, t.ops.length = m + 1 := ⟨t.ops.length - 1, by omega⟩
      rw [hm] at hov
      have hst : CoSt (coTag s i) w o w o (s + 8, 0, 0) (s + 8, 2, 0) (s + 2, i, 0) (s + 3, i, 0) (s + 4, i, 0) gb b n i rsv av vv v kv gv d.vis axs xs := ⟨G.blk, G.all, h.blk, h.vis, h.row, TouchT.refl _ _ _⟩
      refine (rcommit_ok (coTag s i) w o _ _ _ _ _ ⟨by simp, by simp, by simp, by simp, by simp, by simp, by simp, by simp, by simp, by simp⟩ gb b n i rsv av vv v kv gv d.vis axs xs k h.few hk (by omega) (by omega) (hvis i (by omega)) (by have := G.len; omega) hst ⟨Or.inl rfl, Or.inr (Or.inl rfl), Or.inr (Or.inr (Or.inl rfl)), Or.inr (Or.inr (Or.inr rfl))⟩ hxo oo so m ocap n scap hov hsv (by omega)).mono ?_
      rintro e w' ⟨rfl, o', av', C⟩
      obtain ⟨o2, hR, hG, hM⟩ := commit_lift h G hk hk' (by omega) hts C
      have hgd : d.vis.getD i 0 = d.vis[i]'(by omega) := by simp [show i < d.vis.length by omega]
      refine ⟨by simp only [commitAns, hd]; rw [if_neg h0, hgd], o2, ⟨vv, v, kv, gv, xs.set k { xs[k] with isOpen := false }, ?_⟩, ⟨rsv, av', axs ++ [{ xs[k] with isOpen := false, rep := i, seq := d.vis[i]'(by omega) + 1 }], ?_⟩, hM⟩
      · simp only [commitD, hd]; rw [if_neg h0]; exact hR
      · simp only [commitT, hd]; rw [if_neg h0]; exact hG

end Go.Proofs.YtiplgdkpnhamaaaGreatDoor

/- What the law needs of the program's calls; the law's group in memory. -/
namespace Go.Proofs.YtiplgdkpnhamaaaGreatDoor
open Go.RowKit

abbrev ptr (b : Nat) : Value := .pointer (some ⟨b, 0, none⟩)
def newD (n : Nat) : DRep := ⟨[], List.replicate n 0, fun _ => none⟩
/-- There is room for what a script can do. -/
structure Room (d : DRep) : Prop where
  hist : d.hs.length ≤ 1100000
  vis : ∀ j (hj : j < d.vis.length), 0 ≤ d.vis[j] ∧ d.vis[j] ≤ 1100000

/-- The calls of the program, as the document answers them. PR: a replica of the program in memory, whose blocks bear a tag. -/
structure PApi (PR : World → (Nat → Tag) → Tag → Nat → Nat → Nat → DRep → Prop) : Prop where
  move : ∀ {w w' : World} {o o' : Nat → Tag} {t : Tag} {b n i : Nat} {d : DRep}, PR w o t b n i d → (∀ q, q < w.heap.size → o q = t → w'.heap[q]? = w.heap[q]? ∧ o' q = t) → PR w' o' t b n i d
  newNo : ∀ (w : World) (i n : Int), fitsB i n = false → Calls Tryz.prog 48 #[.int .i64 i, .int .i64 n] w fun e w' => e = .returned (.tuple #[.pointer none, .int .i64 1]) ∧ Below w.heap.size w w'
  newOk : ∀ (w : World) (i n : Nat), fitsB i n = true → Calls Tryz.prog 48 #[.int .i64 i, .int .i64 n] w fun e w' => ∃ b, e = .returned (.tuple #[ptr b, .int .i64 0]) ∧ Below w.heap.size w w' ∧ ∀ (o : Nat → Tag) (t : Tag), PR w' (own2 o w.heap.size fun _ => t) t b n i (newD n)
  begins : ∀ (w : World) (o : Nat → Tag) (t : Tag) (b n i : Nat) (d : DRep), PR w o t b n i d → Room d → Calls Tryz.prog 27 #[ptr b] w fun e w' => e = .returned (beginAns d) ∧ ∃ o', PR w' o' t b n i (beginD d) ∧ TouchT (· = t) w o w' o'
  add : ∀ (w : World) (o : Nat → Tag) (t : Tag) (b n i : Nat) (d : DRep) (tx : Int) (p : ROp), PR w o t b n i d → Room d → p.kind = 1 → p.key.size ≤ maxLen → Calls Tryz.prog 28 #[ptr b, .int .i64 tx, .string p.key, .int .i64 p.amount] w fun e w' => e = .returned (.int .i64 (doesErr (opnAt d tx) p)) ∧ ∃ o', PR w' o' t b n i (doesD d tx p) ∧ TouchT (· = t) w o w' o'
  write : ∀ (w : World) (o : Nat → Tag) (t : Tag) (b n i : Nat) (d : DRep) (tx : Int) (p : ROp), PR w o t b n i d → Room d → p.kind = 2 → p.key.size ≤ maxLen → p.value.size ≤ maxLen → Calls Tryz.prog 30 #[ptr b, .int .i64 tx, .string p.key, .string p.value] w fun e w' => e = .returned (.int .i64 (doesErr (opnAt d tx) p)) ∧ ∃ o', PR w' o' t b n i (doesD d tx p) ∧ TouchT (· = t) w o w' o'
  insert : ∀ (w : World) (o : Nat → Tag) (t : Tag) (b n i : Nat) (d : DRep) (tx : Int) (p : ROp), PR w o t b n i d → Room d → p.kind = 3 → p.key.size ≤ maxLen → p.value.size ≤ maxLen → Calls Tryz.prog 38 #[ptr b, .int .i64 tx, .string p.key, .string p.value] w fun e w' => e = .returned (.int .i64 (doesErr (opnAt d tx) p)) ∧ ∃ o', PR w' o' t b n i (doesD d tx p) ∧ TouchT (· = t) w o w' o'
  remove : ∀ (w : World) (o : Nat → Tag) (t : Tag) (b n i : Nat) (d : DRep) (tx : Int) (p : ROp), PR w o t b n i d → Room d → p.kind = 4 → p.key.size ≤ maxLen → p.value.size ≤ maxLen → Calls Tryz.prog 44 #[ptr b, .int .i64 tx, .string p.key, .string p.value] w fun e w' => e = .returned (.int .i64 (doesErr (opnAt d tx) p)) ∧ ∃ o', PR w' o' t b n i (doesD d tx p) ∧ TouchT (· = t) w o w' o'
  read : ∀ (w : World) (o : Nat → Tag) (t tl : Tag) (b n i : Nat) (d : DRep) (tx : Int) (key : ByteArray), PR w o t b n i d → Room d → tl ≠ t → key.size ≤ maxLen → Calls Tryz.prog 33 #[ptr b, .int .i64 tx, .string key] w fun e w' => ∃ lv o', e = .returned (valAgg (readAns (opnAt d tx) key d.hs n).1 lv (readAns (opnAt d tx) key d.hs n).2.2) ∧
    PR w' o' t b n i d ∧ TouchT (· = t) w o w' o' ∧ Pc w' o' tl 9 1 lv (readAns (opnAt d tx) key d.hs n).2.1.length (strs (readAns (opnAt d tx) key d.hs n).2.1)
  commit : ∀ (w : World) (o : Nat → Tag) (t : Tag) (b n i : Nat) (d : DRep) (tx : Int), PR w o t b n i d → Room d → Calls Tryz.prog 32 #[ptr b, .int .i64 tx] w fun e w' => e = .returned (commitAns i d tx) ∧ ∃ o', PR w' o' t b n i (commitD i d tx) ∧ TouchT (· = t) w o w' o'
  abort : ∀ (w : World) (o : Nat → Tag) (t : Tag) (b n i : Nat) (d : DRep) (tx : Int), PR w o t b n i d → Room d → Calls Tryz.prog 34 #[ptr b, .int .i64 tx] w fun e w' => e = .returned (abortAns d tx) ∧ ∃ o', PR w' o' t b n i (abortD d tx) ∧ TouchT (· = t) w o w' o'
  visible : ∀ (w : World) (o : Nat → Tag) (t tl : Tag) (b n i : Nat) (d : DRep), PR w o t b n i d → Room d → tl ≠ t → Calls Tryz.prog 22 #[ptr b] w fun e w' => ∃ lv o', e = .returned lv ∧ PR w' o' t b n i d ∧ TouchT (· = t) w o w' o' ∧ Pc w' o' tl 3 1 lv d.vis.length (ints d.vis)

/-- What binds the replicas of a group to all that was committed. -/
structure Inv (n : Nat) (ds : List DRep) (ts : List RTx) : Prop where
  len : ds.length = n
  vlen : ∀ i (h : i < ds.length), ds[i].vis.length = n
  vpos : ∀ i (h : i < ds.length) r, 0 ≤ ds[i].vis.getD r 0 ∧ ds[i].vis.getD r 0 ≤ ts.length
  own : ∀ i (h : i < ds.length) r (h' : r < ds.length), ds[i].vis.getD r 0 ≤ ds[r].vis.getD r 0
  dots : ∀ u, u ∈ ts → ∃ r : Nat, ∃ h : r < ds.length, u.rep = r ∧ 1 ≤ u.seq ∧ u.seq ≤ ds[r].vis.getD r 0
  uniq : ts.Pairwise fun u v => ¬ (u.rep = v.rep ∧ u.seq = v.seq)
  full : ∀ r (h : r < ds.length) (s : Nat), (s : Int) + 1 ≤ ds[r].vis.getD r 0 → ∃ u, u ∈ ts ∧ isDot (r : Int) ((s : Int) + 1) u = true
  saw : ∀ i (h : i < ds.length) k t, ds[i].opn k = some t → t.saw.length = n ∧ ∀ r, 0 ≤ t.saw.getD r 0 ∧ t.saw.getD r 0 ≤ ds[i].vis.getD r 0
  hist : ∀ i (h : i < ds.length), ds[i].hs.Perm (ts.filter fun u => seesV ds[i].vis u.rep u.seq)
  few : ∀ u, u ∈ ts → u.ops.length ≤ 16

def ptrs (bs : List Nat) : List Value := bs.map fun b => ptr b
/-- The law's group in memory. -/
structure LawSt (PR : World → (Nat → Tag) → Tag → Nat → Nat → Nat → DRep → Prop) (w : World) (o : Nat → Tag) (s wb gb n : Nat) (pb rb : List Nat) (rsv way tv mv nv kv : Value) (cnt : Int) (m : Nat) (dp dr : List DRep) (ts : List RTx) : Prop where
  blk : Bl w o (s + 11, 0, 0) wb [rsv, ptr gb, way, tv, mv, nv, kv, .int .i64 cnt] 94
  rs : Pc w o (s + 11, 1, 0) 45 1 rsv pb.length (ptrs pb)
  texts : ∃ l, l.length ≤ m ∧ Pc w o (s + 11, 2, 0) 41 1 tv l.length l
  tmarks : ∃ l, l.length ≤ m ∧ Pc w o (s + 11, 3, 0) 3 1 mv l.length l
  nums : ∃ l, l.length ≤ m ∧ Pc w o (s + 11, 4, 0) 44 1 nv l.length l
  nmarks : ∃ l, l.length ≤ m ∧ Pc w o (s + 11, 5, 0) 3 1 kv l.length l
  grp : RefG w o s gb n rb ts
  plen : pb.length = n
  rlen : rb.length = n
  dplen : dp.length = n
  drlen : dr.length = n
  prog : ∀ i (h : i < n), PR w o (s + 1, i, 0) (pb[i]'(by omega)) n i (dp[i]'(by omega))
  ref : ∀ i (h : i < n), RefR w o s i (rb[i]'(by omega)) n (dr[i]'(by omega))

def lawTag (s : Nat) (t : Tag) : Prop := s + 1 ≤ t.1 ∧ t.1 ≤ s + 12
theorem rep_law {s i : Nat} {t : Tag} (h : repTag s i t) : lawTag s t := by
  rcases h with rfl | rfl | rfl | ⟨k, rfl | rfl⟩ <;> exact ⟨by simp, by simp⟩
theorem grp_law {s : Nat} {t : Tag} (h : grpTag s t) : lawTag s t := by
  rcases h with ⟨k, rfl⟩ | ⟨k, rfl | rfl⟩ <;> exact ⟨by simp, by simp⟩
theorem rep_off {s i j : Nat} (hij : i ≠ j) {t : Tag} (h : repTag s i t) : ¬ repTag s j t := by
  rintro (e | e | e | ⟨k', e | e⟩) <;> rcases h with rfl | rfl | rfl | ⟨k, rfl | rfl⟩ <;> simp at e <;> omega
theorem grp_rep {s i : Nat} {t : Tag} (h : grpTag s t) : ¬ repTag s i t := by
  rintro (e | e | e | ⟨k', e | e⟩) <;> rcases h with ⟨k, rfl⟩ | ⟨k, rfl | rfl⟩ <;> simp at e

section
variable {PR : World → (Nat → Tag) → Tag → Nat → Nat → Nat → DRep → Prop} {w w' : World} {o o' : Nat → Tag} {s wb gb n m i : Nat} {pb rb : List Nat} {rsv way tv mv nv kv : Value} {cnt : Int} {dp dr : List DRep} {ts : List RTx}
/-- What is of no tag of the group's may turn. -/
theorem LawSt.off {B : Tag → Prop} (P : PApi PR) (h : LawSt PR w o s wb gb n pb rb rsv way tv mv nv kv cnt m dp dr ts) (k : Moved B w o w' o') (hB : ∀ t, lawTag s t → t.1 ≠ s + 12 → ¬ B t) : LawSt PR w' o' s wb gb n pb rb rsv way tv mv nv kv cnt m dp dr ts := by
  have f : ∀ a b c, 1 ≤ a → a ≤ 11 → ¬ B (s + a, b, c) := fun a b c h1 h2 => hB _ ⟨by simp; omega, by simp; omega⟩ (by simp; omega)
  obtain ⟨l1, b1, p1⟩ := h.texts
  obtain ⟨l2, b2, p2⟩ := h.tmarks
  obtain ⟨l3, b3, p3⟩ := h.nums
  obtain ⟨l4, b4, p4⟩ := h.nmarks
  obtain ⟨rv, av, axs, G⟩ := h.grp
  refine ⟨h.blk.moved k (f 11 _ _ (by omega) (by omega)), h.rs.moved k (f 11 _ _ (by omega) (by omega)), ⟨l1, b1, p1.moved k (f 11 _ _ (by omega) (by omega))⟩, ⟨l2, b2, p2.moved k (f 11 _ _ (by omega) (by omega))⟩, ⟨l3, b3, p3.moved k (f 11 _ _ (by omega) (by omega))⟩, ⟨l4, b4, p4.moved k (f 11 _ _ (by omega) (by omega))⟩,
    ⟨rv, av, axs, G.moved k fun t ht => ?_⟩, h.plen, h.rlen, h.dplen, h.drlen, fun j hj => P.move (h.prog j hj) fun q hq e => ?_, fun j hj => ?_⟩
  · rcases ht with ⟨x, rfl⟩ | ⟨x, rfl | rfl⟩
    · exact f 8 _ _ (by omega) (by omega)
    · exact f 9 _ _ (by omega) (by omega)
    · exact f 10 _ _ (by omega) (by omega)
  · have := k.at hq (by rw [e]; exact f 1 _ _ (by omega) (by omega))
    exact ⟨this.1, this.2.trans e⟩
  · obtain ⟨vv, v, kv', gv, xs, R⟩ := h.ref j hj
    refine ⟨vv, v, kv', gv, xs, R.moved k fun t ht => ?_⟩
    rcases ht with rfl | rfl | rfl | ⟨x, rfl | rfl⟩
    · exact f 2 _ _ (by omega) (by omega)
    · exact f 3 _ _ (by omega) (by omega)
    · exact f 4 _ _ (by omega) (by omega)
    · exact f 5 _ _ (by omega) (by omega)
    · exact f 6 _ _ (by omega) (by omega)
theorem LawSt.below (P : PApi PR) (h : LawSt PR w o s wb gb n pb rb rsv way tv mv nv kv cnt m dp dr ts) (hB : Below w.heap.size w w') : LawSt PR w' o s wb gb n pb rb rsv way tv mv nv kv cnt m dp dr ts :=
  h.off P ((TouchT.ofBelow (A := fun _ => False) hB).moved fun _ => id) fun _ _ _ => id
theorem LawSt.drew (P : PApi PR) (h : LawSt PR w o s wb gb n pb rb rsv way tv mv nv kv cnt m dp dr ts) : LawSt PR w.drew o s wb gb n pb rb rsv way tv mv nv kv cnt m dp dr ts :=
  h.off P (B := fun _ => False) ⟨⟨rfl, rfl, rfl, Nat.le_refl _, fun _ _ _ => rfl⟩, fun _ _ _ => rfl⟩ fun _ _ _ => id
theorem moved_new {B : Tag → Prop} (w : World) (o : Nat → Tag) (ob : Obj) (t : Tag) : Moved B w o (w.alloc ob) (upd o w.heap.size t) :=
  ⟨⟨rfl, rfl, rfl, by simp, fun q hq _ => Below.heap_alloc w ob q hq⟩, fun q hq _ => upd_other (by omega)⟩
theorem LawSt.new (P : PApi PR) (h : LawSt PR w o s wb gb n pb rb rsv way tv mv nv kv cnt m dp dr ts) (ob : Obj) (t : Tag) : LawSt PR (w.alloc ob) (upd o w.heap.size t) s wb gb n pb rb rsv way tv mv nv kv cnt m dp dr ts :=
  h.off P (moved_new (B := fun _ => False) w o ob t) fun _ _ _ => id
theorem Bl.fresh (w : World) (o : Nat → Tag) (cs : List Value) (ty : TypeId) (t : Tag) : Bl (w.alloc (.cells cs.toArray ty)) (upd o w.heap.size t) t w.heap.size cs ty := ⟨heap_alloc_new w (.cells cs.toArray ty), upd_same _ _ _⟩
/-- A call of a replica of the program. -/
theorem LawSt.progStep (P : PApi PR) (h : LawSt PR w o s wb gb n pb rb rsv way tv mv nv kv cnt m dp dr ts) (hi : i < n) (k : TouchT (· = (s + 1, i, 0)) w o w' o') {d : DRep} (hd : PR w' o' (s + 1, i, 0) (pb[i]'(by have := h.plen; omega)) n i d) :
    LawSt PR w' o' s wb gb n pb rb rsv way tv mv nv kv cnt m (dp.set i d) dr ts := by
  have f : ∀ a b c, 2 ≤ a → ¬ (fun t : Tag => t = (s + 1, i, 0)) (s + a, b, c) := fun a b c h1 e => by simp at e; omega
  obtain ⟨l1, b1, p1⟩ := h.texts
  obtain ⟨l2, b2, p2⟩ := h.tmarks
  obtain ⟨l3, b3, p3⟩ := h.nums
  obtain ⟨l4, b4, p4⟩ := h.nmarks
  obtain ⟨rv, av, axs, G⟩ := h.grp
  refine ⟨h.blk.touch k (f 11 _ _ (by omega)), h.rs.touch k (f 11 _ _ (by omega)), ⟨l1, b1, p1.touch k (f 11 _ _ (by omega))⟩, ⟨l2, b2, p2.touch k (f 11 _ _ (by omega))⟩, ⟨l3, b3, p3.touch k (f 11 _ _ (by omega))⟩, ⟨l4, b4, p4.touch k (f 11 _ _ (by omega))⟩,
    ⟨rv, av, axs, G.touch k fun t ht => ?_⟩, h.plen, h.rlen, by rw [List.length_set]; exact h.dplen, h.drlen, fun j hj => ?_, fun j hj => ?_⟩
  · rcases ht with ⟨x, rfl⟩ | ⟨x, rfl | rfl⟩
    · exact f 8 _ _ (by omega)
    · exact f 9 _ _ (by omega)
    · exact f 10 _ _ (by omega)
  · by_cases e : i = j
    · subst e; rw [List.getElem_set_self]; exact hd
    · rw [List.getElem_set_ne e]
      exact P.move (h.prog j hj) fun q hq c => ⟨k.touch.block q hq (by rw [c]; simp; omega), (k.same q hq).trans c⟩
  · obtain ⟨vv, v, kv', gv, xs, R⟩ := h.ref j hj
    refine ⟨vv, v, kv', gv, xs, R.touch k fun t ht => ?_⟩
    rcases ht with rfl | rfl | rfl | ⟨x, rfl | rfl⟩
    · exact f 2 _ _ (by omega)
    · exact f 3 _ _ (by omega)
    · exact f 4 _ _ (by omega)
    · exact f 5 _ _ (by omega)
    · exact f 6 _ _ (by omega)
/-- A call of a replica of the reference. -/
theorem LawSt.refStep (P : PApi PR) (h : LawSt PR w o s wb gb n pb rb rsv way tv mv nv kv cnt m dp dr ts) (hi : i < n) (k : Moved (bothTag s i) w o w' o') {d : DRep} {ts' : List RTx} (hd : RefR w' o' s i (rb[i]'(by have := h.rlen; omega)) n d) (hG : RefG w' o' s gb n rb ts') :
    LawSt PR w' o' s wb gb n pb rb rsv way tv mv nv kv cnt m dp (dr.set i d) ts' := by
  have f : ∀ a b c, a = 1 ∨ a = 11 → ¬ bothTag s i (s + a, b, c) := fun a b c h1 e => by
    rcases e with (e | e | e | ⟨x, e | e⟩) | ⟨x, e⟩ | ⟨x, e | e⟩ <;> simp at e <;> omega
  obtain ⟨l1, b1, p1⟩ := h.texts
  obtain ⟨l2, b2, p2⟩ := h.tmarks
  obtain ⟨l3, b3, p3⟩ := h.nums
  obtain ⟨l4, b4, p4⟩ := h.nmarks
  refine ⟨h.blk.moved k (f 11 _ _ (Or.inr rfl)), h.rs.moved k (f 11 _ _ (Or.inr rfl)), ⟨l1, b1, p1.moved k (f 11 _ _ (Or.inr rfl))⟩, ⟨l2, b2, p2.moved k (f 11 _ _ (Or.inr rfl))⟩, ⟨l3, b3, p3.moved k (f 11 _ _ (Or.inr rfl))⟩, ⟨l4, b4, p4.moved k (f 11 _ _ (Or.inr rfl))⟩,
    hG, h.plen, h.rlen, h.dplen, by rw [List.length_set]; exact h.drlen, fun j hj => P.move (h.prog j hj) fun q hq e => ?_, fun j hj => ?_⟩
  · have := k.at hq (by rw [e]; exact f 1 _ _ (Or.inl rfl))
    exact ⟨this.1, this.2.trans e⟩
  · by_cases e : i = j
    · subst e; rw [List.getElem_set_self]; exact hd
    · rw [List.getElem_set_ne e]
      obtain ⟨vv, v, kv', gv, xs, R⟩ := h.ref j hj
      refine ⟨vv, v, kv', gv, xs, R.moved k fun t ht c => ?_⟩
      rcases c with c | c
      · exact rep_off (fun e' => e e'.symm) ht c
      · exact grp_rep c ht
theorem LawSt.refTouch (P : PApi PR) (h : LawSt PR w o s wb gb n pb rb rsv way tv mv nv kv cnt m dp dr ts) (hi : i < n) (k : TouchT (repTag s i) w o w' o') {d : DRep} (hd : RefR w' o' s i (rb[i]'(by have := h.rlen; omega)) n d) :
    LawSt PR w' o' s wb gb n pb rb rsv way tv mv nv kv cnt m dp (dr.set i d) ts := by
  obtain ⟨rv, av, axs, G⟩ := h.grp
  exact h.refStep P hi (k.moved fun _ => Or.inl) hd ⟨rv, av, axs, G.touch k fun t ht => grp_rep ht⟩
end

end Go.Proofs.YtiplgdkpnhamaaaGreatDoor

/- The law's transacts: Begin, Abort, Commit. -/
namespace Go.Proofs.YtiplgdkpnhamaaaGreatDoor
open Go.RowKit

/-- A step of a script, as it is handed in. -/
structure LOp where
  kind : Int
  a : Int
  b : Int
  c : Int
  key : ByteArray
  text : ByteArray
def LOp.cells (p : LOp) : List Value := [.int .i64 p.kind, .int .i64 p.a, .int .i64 p.b, .int .i64 p.c, .string p.key, .string p.text]
abbrev LOp.agg (p : LOp) : Value := .agg #[.int .i64 p.kind, .int .i64 p.a, .int .i64 p.b, .int .i64 p.c, .string p.key, .string p.text]
structure LOp.Ok (p : LOp) : Prop where
  a0 : -9223372036854775808 ≤ p.a
  a1 : p.a ≤ 9223372036854775807
  key : p.key.size ≤ maxLen
  text : p.text.size ≤ maxLen
theorem beginAns_shape (d : DRep) : ∃ x y : Int, beginAns d = .tuple #[.int .i64 x, .int .i64 y] := by
  unfold beginAns; split
  · exact ⟨_, _, rfl⟩
  · exact ⟨_, _, rfl⟩
theorem rs_at {w : World} {o : Nat → Tag} {t : Tag} {e : TypeId} {v : Value} {bs : List Nat} {i : Nat} (h : Pc w o t e 1 v bs.length (ptrs bs)) (hi : i < bs.length) : ∃ g cap, v = .slice (some ⟨g, 0, none⟩) bs.length cap ∧ bs.length ≤ cap ∧ g < w.heap.size ∧ w.cell? ⟨g, i, none⟩ = some (ptr bs[i]) := by
  obtain ⟨g, cap, rfl, hc, -, hg, hcell, -⟩ := h.row.pos (by omega)
  exact ⟨g, cap, rfl, hc, hg, by rw [hcell i (by omega)]; simp [ptrs, hi]⟩

theorem prog_law {s i : Nat} : ∀ t : Tag, t = (s + 1, i, 0) → lawTag s t := fun t e => by subst e; exact ⟨by simp, by simp⟩

set_option maxRecDepth 100000 in
set_option maxHeartbeats 4000000 in
theorem transacts_begin (PR : World → (Nat → Tag) → Tag → Nat → Nat → Nat → DRep → Prop) (P : PApi PR) (w : World) (o : Nat → Tag) (s wb gb n : Nat) (pb rb : List Nat) (rsv way tv mv nv kv : Value) (cnt : Int) (m : Nat) (ds : List DRep) (ts : List RTx) (p : LOp) (hp : p.Ok) (hk : p.kind = 1)
    (h : LawSt PR w o s wb gb n pb rb rsv way tv mv nv kv cnt m ds ds ts) (hn : 0 < n) (hn5 : n ≤ 5) (hroom : ∀ d, d ∈ ds → Room d) :
    Calls Tryz.prog 52 #[ptr wb, p.agg] w fun e w' => e = .returned (.bool true) ∧ ∃ o' i d, i < n ∧ ds[i]? = some d ∧ LawSt PR w' o' s wb gb n pb rb rsv way tv mv nv kv cnt m (ds.set i (beginD d)) (ds.set i (beginD d)) ts ∧ Moved (lawTag s) w o w' o' := by
  obtain ⟨kind, a, b, c, key, text⟩ := p
  simp only at hk
  subst hk
  have hlp := h.plen
  have hlr := h.rlen
  have hld := h.dplen
  obtain ⟨ix, hix⟩ : ∃ ix, pickOf a n = ix := ⟨_, rfl⟩
  have hi : ix < n := by rw [← hix]; exact pickOf_lt a n hn
  have HPK : Hid (∀ v, Calls Tryz.prog 51 #[.int .i64 a, .int .i64 n] v fun e w' => e = .returned (.int .i64 ix) ∧ w' = v) := fun v => by rw [← hix]; exact pick_any a n v hn hn5 hp.a0 hp.a1
  clear hix
  have H1 := hide (h.new P (.cells #[.int .i64 1, .int .i64 a, .int .i64 b, .int .i64 c, .string key, .string text] 30) (s + 12, 0, 0))
  have B1 := hide (Bl.fresh w o [.int .i64 1, .int .i64 a, .int .i64 b, .int .i64 c, .string key, .string text] 30 (s + 12, 0, 0))
  have M1 := hide (moved_new (B := lawTag s) w o (.cells #[.int .i64 1, .int .i64 a, .int .i64 b, .int .i64 c, .string key, .string text] 30) (s + 12, 0, 0))
  clear h
  generalize hW : w.alloc (.cells #[.int .i64 1, .int .i64 a, .int .i64 b, .int .i64 c, .string key, .string text] 30) = W at *
  generalize upd o w.heap.size (s + 12, 0, 0) = o1 at *
  obtain ⟨grs, rcap, rfl, hrc, hgrs, hri⟩ := rs_at H1.out.rs (i := ix) (by omega)
  obtain ⟨rv, av, axs, G⟩ := H1.out.grp
  obtain ⟨gR, Rcap, rfl, hRc, hgR, hRi⟩ := rs_at (bs := rb) G.rs (i := ix) (by omega)
  have c0 : W.cell? ⟨wb, 0, none⟩ = some (.slice (some ⟨grs, 0, none⟩) n rcap) := by rw [← hlp]; exact H1.out.blk.blk.cell 0
  have c1 : W.cell? ⟨wb, 1, none⟩ = some (ptr gb) := H1.out.blk.blk.cell 1
  have c2 : W.cell? ⟨gb, 1, none⟩ = some (.slice (some ⟨gR, 0, none⟩) n Rcap) := by rw [← hlr]; exact G.blk.blk.cell 1
  have k0 : W.cell? ⟨w.heap.size, 0, none⟩ = some (.int .i64 1) := B1.out.blk.cell 0
  have k1 : W.cell? ⟨w.heap.size, 1, none⟩ = some (.int .i64 a) := B1.out.blk.cell 1
  have hwl := H1.out.blk.blk.lt
  have hgl := G.blk.blk.lt
  have hbl := B1.out.blk.lt
  have hrc' : n ≤ rcap := by omega
  have hRc' : n ≤ Rcap := by omega
  obtain ⟨pr, hpr⟩ : ∃ pr, pb[ix] = pr := ⟨_, rfl⟩
  obtain ⟨rr, hrr⟩ : ∃ rr, rb[ix] = rr := ⟨_, rfl⟩
  obtain ⟨d, hd⟩ : ∃ d, ds[ix] = d := ⟨_, rfl⟩
  have HPR := hide (hpr ▸ hd ▸ H1.out.prog ix hi)
  have HRR := hide (hrr ▸ hd ▸ H1.out.ref ix hi)
  rw [hpr] at hri
  rw [hrr] at hRi
  have HD := hide (⟨hroom d (by rw [← hd]; exact List.getElem_mem _), hd, hpr, hrr⟩ : _ ∧ _ ∧ _ ∧ _)
  clear G hp hroom hpr hrr hd
  go_enter Tryz.func52, Tryz.ntmps52
  go_upto_region 1 with (fail)
  go_cut [5] (fun v wc => v = .int .i64 ix ∧ Hid (Below W.heap.size W wc))
  case first =>
    go_region_with (go_at_call 51; refine (HPK.out _).mono ?_; rintro e w5 ⟨rfl, rfl⟩)
    all_goals
      go_wp2_with fail
      go_meet
      exact ⟨rfl, (Below.refl _ _).drew⟩
  case rest =>
    obtain ⟨rfl, hB⟩ := hcut
    have H2 := hide (H1.out.below P hB.out)
    have B2 := hide (B1.out.below hB.out)
    have M2 := hide (M1.out.trans ((TouchT.ofBelow (A := lawTag s) (o := o1) hB.out).moved fun _ => id))
    have HPR2 := hide (P.move HPR.out fun q hq e => ⟨hB.out.block q hq, e⟩)
    have c0' := cell_later hB.out c0
    have c1' := cell_later hB.out c1
    have c2' := cell_later hB.out c2
    have hri' := cell_later hB.out hri
    have hRi' := cell_later hB.out hRi
    have k0' := cell_later hB.out k0
    have hsz := hB.out.size
    have hwl' : wb < wc.heap.size := by omega
    have hgl' : gb < wc.heap.size := by omega
    have hbl' : w.heap.size < wc.heap.size := by omega
    have hgrs' : grs < wc.heap.size := by omega
    have hgR' : gR < wc.heap.size := by omega
    clear c0 c1 c2 hri hRi k0 k1 hwl hgl hbl hgrs hgR hsz H1 B1 M1 HPR HRR hW HPK
    go_wp2_with fail
    refine (P.begins _ o1 (s + 1, ix, 0) pr n ix d HPR2.out HD.out.1).mono ?_
    rintro e w1 ⟨he, o2, hPR, hT⟩
    obtain ⟨x, y, hxy⟩ := beginAns_shape d
    rw [hxy] at he
    subst he
    have H3 := hide (H2.out.progStep P hi hT (HD.out.2.2.1.symm ▸ hPR))
    have HRR3 := hide (HD.out.2.2.2 ▸ HD.out.2.1 ▸ H3.out.ref ix hi)
    have M3 := hide (M2.out.trans (hT.moved prog_law))
    clear hPR hT H2 B2 M2 HPR2 c0' c1' c2' hri' hRi' k0' hwl' hgl' hbl' hgrs' hgR'
    go_wp2_with fail
    refine (ref_begin w1 o2 s ix rr n d HRR3.out hn hn5).mono ?_
    rintro e w2 ⟨he, o3, hRR, hT⟩
    rw [hxy] at he
    subst he
    have H4 := hide (H3.out.refTouch P hi hT (HD.out.2.2.2.symm ▸ hRR))
    have M4 := hide (M3.out.trans (hT.moved fun _ => rep_law))
    clear hRR hT H3 M3 HRR3 hxy
    go_wp2_with fail
    go_ret
    exact ⟨rfl, o3, ix, d, hi, by rw [List.getElem?_eq_getElem (by omega), HD.out.2.1], H4.out, M4.out⟩

end Go.Proofs.YtiplgdkpnhamaaaGreatDoor

/- The reference's Commit and Read inside the law's group; blocks of the law's own that are laid ahead of a call or behind it. -/
namespace Go.Proofs.YtiplgdkpnhamaaaGreatDoor
open Go.RowKit

section
variable {PR : World → (Nat → Tag) → Tag → Nat → Nat → Nat → DRep → Prop} {w w' W W' : World} {o o' : Nat → Tag} {s wb gb n m i : Nat} {pb rb : List Nat} {rsv way tv mv nv kv : Value} {cnt : Int} {dp dr : List DRep} {ts : List RTx}
theorem LawSt.retag (P : PApi PR) (h : LawSt PR w o s wb gb n pb rb rsv way tv mv nv kv cnt m dp dr ts) (t : Tag) : LawSt PR w (upd o w.heap.size t) s wb gb n pb rb rsv way tv mv nv kv cnt m dp dr ts :=
  h.off P (B := fun _ => False) ⟨Touch.refl _ _, fun q hq _ => upd_other (by omega)⟩ fun _ _ _ => id
theorem Bl.retag {t' : Tag} {b : Nat} {cs : List Value} {ty : TypeId} (h : Bl w o t' b cs ty) (t : Tag) : Bl w (upd o w.heap.size t) t' b cs ty := h.move2 fun q hq e => ⟨rfl, (upd_other (by omega)).trans e⟩
theorem Moved.retag {B : Tag → Prop} (h : Moved B w o W o') (t : Tag) : Moved B w o W (upd o' W.heap.size t) := ⟨h.touch, fun q hq hb => (upd_other (by have := h.touch.size; omega)).trans (h.same q hq hb)⟩
theorem Moved.below {B : Tag → Prop} (h : Moved B w o W o') (hB : Below W.heap.size W W') : Moved B w o W' o' :=
  h.trans ((TouchT.ofBelow (A := B) hB).moved fun _ => id)
theorem moved_set2 {q : Nat} {t : Tag} (ht : o q = t) (x y : Value) : Moved (· = t) w o ((w.setCell ⟨q, 0, none⟩ x).setCell ⟨q, 1, none⟩ y) o :=
  ⟨((Touch.refl (fun q => o q = t) w).setCell (p := ⟨q, 0, none⟩) (Or.inl ht) x).setCell (p := ⟨q, 1, none⟩) (Or.inl ht) y, fun _ _ _ => rfl⟩
theorem both_law {t : Tag} (h : bothTag s i t) : lawTag s t := h.elim rep_law grp_law
theorem both_tmp {k : Nat} : ¬ bothTag s i (s + 12, k, 0) := by
  rintro ((e | e | e | ⟨x, e | e⟩) | ⟨x, e⟩ | ⟨x, e | e⟩) <;> simp at e

/-- Commit of the reference, in a world behind one in which the group is known. -/
theorem commit_in (P : PApi PR) (h : LawSt PR W o s wb gb n pb rb rsv way tv mv nv kv cnt m dp dr ts) (hi : i < n) (hn5 : n ≤ 5) {d : DRep} {rr : Nat} (hd : dr[i]'(by have := h.drlen; omega) = d) (hr : rb[i]'(by have := h.rlen; omega) = rr) (tx : Int) (hroom : Room d) (hts : ts.length < 2000000) (hB : Below W.heap.size W W') :
    Calls Tryz.prog 91 #[ptr gb, ptr rr, .int .i64 tx] W' fun e w' => e = .returned (commitAns i d tx) ∧ ∃ o', LawSt PR w' o' s wb gb n pb rb rsv way tv mv nv kv cnt m dp (dr.set i (commitD i d tx)) (commitT i d tx ts) ∧ Moved (bothTag s i) W' o w' o' := by
  have h' := h.below P hB
  refine (ref_commit W' o s i rr gb n rb d ts tx (hr ▸ hd ▸ h'.ref i hi) h'.grp hi hn5 hts (fun j hj => ⟨(hroom.vis j hj).1, by have := (hroom.vis j hj).2; omega⟩)).mono ?_
  rintro e w' ⟨rfl, o', hR, hG, hM⟩
  exact ⟨rfl, o', h'.refStep P hi hM (hr.symm ▸ hR) hG, hM⟩
/-- Read of the reference, likewise. -/
theorem read_in (P : PApi PR) (h : LawSt PR W o s wb gb n pb rb rsv way tv mv nv kv cnt m dp dr ts) (hi : i < n) (hn5 : n ≤ 5) {d : DRep} {rr : Nat} (hd : dr[i]'(by have := h.drlen; omega) = d) (hr : rb[i]'(by have := h.rlen; omega) = rr) (tx : Int) (key : ByteArray) (hkey : key.size ≤ maxLen) (hsaw : ∀ t, opnAt d tx = some t → SawIn t ts) (hB : Below W.heap.size W W') :
    Calls Tryz.prog 88 #[ptr gb, ptr rr, .int .i64 tx, .string key] W' fun e w' => ∃ lv, e = .returned (valAgg (readAns (opnAt d tx) key ts n).1 lv (readAns (opnAt d tx) key ts n).2.2) ∧
      w'.ownsRow W'.heap.size 9 1 lv (readAns (opnAt d tx) key ts n).2.1.length (strs (readAns (opnAt d tx) key ts n).2.1) ∧ Below W'.heap.size W' w' := by
  have h' := h.below P hB
  exact ref_read W' o s i rr gb n rb d ts tx key (hr ▸ hd ▸ h'.ref i hi) h'.grp hn5 hkey hsaw
/-- A block of two cells that was laid ahead of a call. -/
theorem ahead_at {B : Tag → Prop} {c0 c1 : Value} {ty : TypeId} {w2 : World} {o3 : Nat → Tag} {t : Tag} (M : Moved B (W.alloc (.cells #[c0, c1] ty)).drew o w2 o3) (ht : o W.heap.size = t) (hB : ¬ B t) : Bl w2 o3 t W.heap.size [c0, c1] ty := by
  have hs : W.heap.size < (W.alloc (.cells #[c0, c1] ty)).drew.heap.size := by show W.heap.size < (W.alloc (.cells #[c0, c1] ty)).heap.size; simp
  have a := M.at hs (by rw [ht]; exact hB)
  refine ⟨?_, a.2.trans ht⟩
  have := heap_alloc_new W (.cells #[c0, c1] ty)
  exact a.1.trans this
end
section
variable {PR : World → (Nat → Tag) → Tag → Nat → Nat → Nat → DRep → Prop} {w w5 : World} {o o6 : Nat → Tag} {s wb gb n m : Nat} {pb rb : List Nat} {rsv way tv mv nv kv : Value} {cnt : Int} {dp dr : List DRep} {ts : List RTx}
/-- A block laid behind the call. -/
theorem meetA (P : PApi PR) (H : LawSt PR w5 o6 s wb gb n pb rb rsv way tv mv nv kv cnt m dp dr ts) (M : Moved (lawTag s) w o w5 o6) (cs : List Value) (ty : TypeId) :
    LawSt PR (w5.alloc (.cells cs.toArray ty)) (upd o6 w5.heap.size (s + 12, 3, 0)) s wb gb n pb rb rsv way tv mv nv kv cnt m dp dr ts ∧ Bl (w5.alloc (.cells cs.toArray ty)) (upd o6 w5.heap.size (s + 12, 3, 0)) (s + 12, 3, 0) w5.heap.size cs ty ∧ Moved (lawTag s) w o (w5.alloc (.cells cs.toArray ty)) (upd o6 w5.heap.size (s + 12, 3, 0)) :=
  ⟨H.new P _ _, Bl.fresh _ _ _ _ _, M.trans (moved_new _ _ _ _)⟩
/-- A block laid ahead of the call, and filled behind it. -/
theorem meetB (P : PApi PR) {qb : Nat} {c0 c1 : Value} {ty : TypeId} (H : LawSt PR w5 o6 s wb gb n pb rb rsv way tv mv nv kv cnt m dp dr ts) (M : Moved (lawTag s) w o w5 o6) (Q : Bl w5 o6 (s + 12, 3, 0) qb [c0, c1] ty) (x y : Value) :
    LawSt PR ((w5.setCell ⟨qb, 0, none⟩ x).setCell ⟨qb, 1, none⟩ y) o6 s wb gb n pb rb rsv way tv mv nv kv cnt m dp dr ts ∧ Bl ((w5.setCell ⟨qb, 0, none⟩ x).setCell ⟨qb, 1, none⟩ y) o6 (s + 12, 3, 0) qb [x, y] ty ∧ Moved (lawTag s) w o ((w5.setCell ⟨qb, 0, none⟩ x).setCell ⟨qb, 1, none⟩ y) o6 := by
  have M2 := moved_set2 (w := w5) Q.tag x y
  refine ⟨H.off P M2 fun t _ h1 e => h1 (by rw [e]), (Q.set 0 x).set 1 y, M.trans (M2.mono fun t e => ?_)⟩
  subst e
  exact ⟨by simp, by simp⟩
end
theorem commitAns_shape (i : Nat) (d : DRep) (tx : Int) : ∃ x y z : Int, commitAns i d tx = .tuple #[.agg #[.int .i64 x, .int .i64 y], .int .i64 z] := by
  unfold commitAns
  split
  · exact ⟨0, 0, 4, rfl⟩
  · split
    · exact ⟨0, 0, 0, rfl⟩
    · exact ⟨_, _, _, rfl⟩

end Go.Proofs.YtiplgdkpnhamaaaGreatDoor

/- The law's group through takes, counts and the two sides' Read. -/
namespace Go.Proofs.YtiplgdkpnhamaaaGreatDoor
open Go.RowKit

section
variable {PR : World → (Nat → Tag) → Tag → Nat → Nat → Nat → DRep → Prop} {w w' W W' : World} {o o' : Nat → Tag} {s wb gb n m i : Nat} {pb rb : List Nat} {rsv way tv mv nv kv : Value} {cnt : Int} {dp dr : List DRep} {ts : List RTx}
theorem LawSt.progSame (P : PApi PR) (h : LawSt PR w o s wb gb n pb rb rsv way tv mv nv kv cnt m dp dr ts) (hi : i < n) (k : TouchT (· = (s + 1, i, 0)) w o w' o') {d : DRep} (he : dp[i]'(by have := h.dplen; omega) = d) (hd : PR w' o' (s + 1, i, 0) (pb[i]'(by have := h.plen; omega)) n i d) :
    LawSt PR w' o' s wb gb n pb rb rsv way tv mv nv kv cnt m dp dr ts := by
  have a := h.progStep P hi k hd
  rw [← he, List.set_getElem_self] at a
  exact a
def takeA (s : Nat) (j : Nat) (t : Tag) : Prop := t = (s + 11, 0, 0) ∨ t = (s + 11, 2, 0) ∨ t = (s + 11, 3, 0) ∨ t = (s + 12, j, 0)
def countA (s : Nat) (j : Nat) (t : Tag) : Prop := t = (s + 11, 0, 0) ∨ t = (s + 11, 4, 0) ∨ t = (s + 11, 5, 0) ∨ t = (s + 12, j, 0)
theorem LawSt.toTake (h : LawSt PR w o s wb gb n pb rb rsv way tv mv nv kv cnt m dp dr ts) {j len : Nat} {l : Value} {xs : List Value} (hl : Pc w o (s + 12, j, 0) 9 1 l len xs) :
    TakeSt w o (takeA s j) w o wb (s + 11, 0, 0) (s + 11, 2, 0) (s + 11, 3, 0) (s + 12, j, 0) rsv (ptr gb) way tv mv nv kv cnt m l len :=
  ⟨h.blk, h.texts, h.tmarks, ⟨xs, hl⟩, TouchT.refl _ _ _⟩
theorem LawSt.toCount (h : LawSt PR w o s wb gb n pb rb rsv way tv mv nv kv cnt m dp dr ts) {j len : Nat} {l : Value} {xs : List Value} (hl : Pc w o (s + 12, j, 0) 3 1 l len xs) :
    CountSt w o (countA s j) w o wb (s + 11, 0, 0) (s + 11, 4, 0) (s + 11, 5, 0) (s + 12, j, 0) rsv (ptr gb) way tv mv nv kv cnt m l len :=
  ⟨h.blk, h.nums, h.nmarks, ⟨xs, hl⟩, TouchT.refl _ _ _⟩
/-- The other pieces, where only the law's own lists have turned. -/
theorem LawSt.rest {A : Tag → Prop} (P : PApi PR) (h : LawSt PR w o s wb gb n pb rb rsv way tv mv nv kv cnt m dp dr ts) (T : TouchT A w o w' o') (hA : ∀ a b c, a ≤ 10 → ¬ A (s + a, b, c)) :
    RefG w' o' s gb n rb ts ∧ (∀ i (hi : i < n), PR w' o' (s + 1, i, 0) (pb[i]'(by have := h.plen; omega)) n i (dp[i]'(by have := h.dplen; omega))) ∧ (∀ i (hi : i < n), RefR w' o' s i (rb[i]'(by have := h.rlen; omega)) n (dr[i]'(by have := h.drlen; omega))) := by
  obtain ⟨rv, av, axs, G⟩ := h.grp
  refine ⟨⟨rv, av, axs, G.touch T fun t ht => ?_⟩, fun i hi => P.move (h.prog i hi) fun q hq e => ⟨T.touch.block q hq (by rw [e]; exact hA 1 _ _ (by omega)), (T.same q hq).trans e⟩, fun i hi => ?_⟩
  · rcases ht with ⟨x, rfl⟩ | ⟨x, rfl | rfl⟩
    · exact hA 8 _ _ (by omega)
    · exact hA 9 _ _ (by omega)
    · exact hA 10 _ _ (by omega)
  · obtain ⟨vv, v, kv', gv, xs, R⟩ := h.ref i hi
    refine ⟨vv, v, kv', gv, xs, R.touch T fun t ht => ?_⟩
    rcases ht with rfl | rfl | rfl | ⟨x, rfl | rfl⟩
    · exact hA 2 _ _ (by omega)
    · exact hA 3 _ _ (by omega)
    · exact hA 4 _ _ (by omega)
    · exact hA 5 _ _ (by omega)
    · exact hA 6 _ _ (by omega)
theorem LawSt.ofTake (P : PApi PR) (h : LawSt PR w o s wb gb n pb rb rsv way tv mv nv kv cnt m dp dr ts) {j len m' : Nat} {l tv' mv' : Value} {cnt' : Int} (T : TakeSt w o (takeA s j) w' o' wb (s + 11, 0, 0) (s + 11, 2, 0) (s + 11, 3, 0) (s + 12, j, 0) rsv (ptr gb) way tv' mv' nv kv cnt' m' l len) (hm : m ≤ m') :
    LawSt PR w' o' s wb gb n pb rb rsv way tv' mv' nv kv cnt' m' dp dr ts := by
  have hA : ∀ a b c, a ≤ 10 → ¬ takeA s j (s + a, b, c) := fun a b c ha e => by rcases e with e | e | e | e <;> simp at e <;> omega
  obtain ⟨r1, r2, r3⟩ := h.rest P T.touch hA
  obtain ⟨l3, b3, p3⟩ := h.nums
  obtain ⟨l4, b4, p4⟩ := h.nmarks
  exact ⟨T.blk, h.rs.touch T.touch (by simp [takeA]), T.texts, T.marks, ⟨l3, by omega, p3.touch T.touch (by simp [takeA])⟩, ⟨l4, by omega, p4.touch T.touch (by simp [takeA])⟩, r1, h.plen, h.rlen, h.dplen, h.drlen, r2, r3⟩
theorem LawSt.ofCount (P : PApi PR) (h : LawSt PR w o s wb gb n pb rb rsv way tv mv nv kv cnt m dp dr ts) {j len m' : Nat} {l nv' kv' : Value} {cnt' : Int} (T : CountSt w o (countA s j) w' o' wb (s + 11, 0, 0) (s + 11, 4, 0) (s + 11, 5, 0) (s + 12, j, 0) rsv (ptr gb) way tv mv nv' kv' cnt' m' l len) (hm : m ≤ m') :
    LawSt PR w' o' s wb gb n pb rb rsv way tv mv nv' kv' cnt' m' dp dr ts := by
  have hA : ∀ a b c, a ≤ 10 → ¬ countA s j (s + a, b, c) := fun a b c ha e => by rcases e with e | e | e | e <;> simp at e <;> omega
  obtain ⟨r1, r2, r3⟩ := h.rest P T.touch hA
  obtain ⟨l1, b1, p1⟩ := h.texts
  obtain ⟨l2, b2, p2⟩ := h.tmarks
  exact ⟨T.blk, h.rs.touch T.touch (by simp [countA]), ⟨l1, by omega, p1.touch T.touch (by simp [countA])⟩, ⟨l2, by omega, p2.touch T.touch (by simp [countA])⟩, T.texts, T.marks, r1, h.plen, h.rlen, h.dplen, h.drlen, r2, r3⟩
theorem take_law {j : Nat} {t : Tag} (h : takeA s j t) : lawTag s t := by rcases h with rfl | rfl | rfl | rfl <;> exact ⟨by simp, by simp⟩
theorem count_law {j : Nat} {t : Tag} (h : countA s j t) : lawTag s t := by rcases h with rfl | rfl | rfl | rfl <;> exact ⟨by simp, by simp⟩

/-- Behind the reference's Read: its list has an owner, all else is as it was. -/
theorem read_after (P : PApi PR) {w5 : World} {lq : Value} {len : Nat} {xs : List Value} (h : LawSt PR W o s wb gb n pb rb rsv way tv mv nv kv cnt m dp dr ts) (hB : Below W.heap.size W W') (hB5 : Below W'.heap.size W' w5) (hl : w5.ownsRow W'.heap.size 9 1 lq len xs) :
    LawSt PR w5 (own2 o W'.heap.size fun _ => (s + 12, 6, 0)) s wb gb n pb rb rsv way tv mv nv kv cnt m dp dr ts ∧ Pc w5 (own2 o W'.heap.size fun _ => (s + 12, 6, 0)) (s + 12, 6, 0) 9 1 lq len xs ∧ TouchT (fun _ => False) W o w5 (own2 o W'.heap.size fun _ => (s + 12, 6, 0)) := by
  have T : TouchT (fun _ => False) W o w5 (own2 o W'.heap.size fun _ => (s + 12, 6, 0)) :=
    ⟨(Touch.ofBelow hB).trans (Touch.ofBelow hB5), fun q hq => own2_low (by have := hB.size; omega)⟩
  exact ⟨h.off P (T.moved fun _ => id) fun _ _ _ => id, Pc.new hl fun _ _ => rfl, T⟩
theorem ahead_read {c0 c1 : Value} {ty : TypeId} {w5 : World} {t : Tag} (hB5 : Below (W.alloc (.cells #[c0, c1] ty)).drew.heap.size (W.alloc (.cells #[c0, c1] ty)).drew w5) (ht : o W.heap.size = t) : Bl w5 (own2 o (W.alloc (.cells #[c0, c1] ty)).drew.heap.size fun _ => (s + 12, 6, 0)) t W.heap.size [c0, c1] ty := by
  have hs : W.heap.size < (W.alloc (.cells #[c0, c1] ty)).drew.heap.size := by show W.heap.size < (W.alloc (.cells #[c0, c1] ty)).heap.size; simp
  refine ⟨?_, (own2_low hs).trans ht⟩
  have := heap_alloc_new W (.cells #[c0, c1] ty)
  exact (hB5.block _ hs).trans this
theorem tmp_law {j : Nat} : lawTag s (s + 12, j, 0) := ⟨by simp, by simp⟩
theorem Pc.retag {t' : Tag} {e : TypeId} {size : Nat} {v : Value} {k : Nat} {xs : List Value} (h : Pc w o t' e size v k xs) (t : Tag) : Pc w (upd o w.heap.size t) t' e size v k xs := h.move2 fun q hq e => ⟨rfl, (upd_other (by omega)).trans e⟩
theorem Pc.newBlk {t' : Tag} {e : TypeId} {size : Nat} {v : Value} {k : Nat} {xs : List Value} (h : Pc w o t' e size v k xs) (ob : Obj) (t : Tag) : Pc (w.alloc ob) (upd o w.heap.size t) t' e size v k xs := h.move2 fun q hq e => ⟨Below.heap_alloc w ob q hq, (upd_other (by omega)).trans e⟩
end
theorem sameB_refl (a : Int) (l : List ByteArray) : sameB a a l l = true := by simp [sameB]

end Go.Proofs.YtiplgdkpnhamaaaGreatDoor

/- Whose a block is, inside one replica of the program: G1's notions over owners of whatever type. -/
namespace Go.Proofs.YtiplgdkpnhamaaaGreatDoor
open Go.RowKit

section
variable {τ : Type}
def updq (o : Nat → τ) (b : Nat) (t : τ) : Nat → τ := fun q => if q = b then t else o q
theorem updq_same (o : Nat → τ) (b : Nat) (t : τ) : updq o b t b = t := by simp [updq]
theorem updq_other {o : Nat → τ} {b q : Nat} {t : τ} (h : q ≠ b) : updq o b t q = o q := by simp [updq, h]

/-- A list whose array, if it has one, is a block of that owner. -/
structure Qc (w : World) (o : Nat → τ) (t : τ) (e : TypeId) (size : Nat) (v : Value) (n : Nat) (xs : List Value) : Prop where
  row : Row w e size v n xs
  tag : ∀ q, v.ownBlock = some q → o q = t
/-- A struct that lies in a block of that owner. -/
structure Qb (w : World) (o : Nat → τ) (t : τ) (b : Nat) (cs : List Value) (ty : TypeId) : Prop where
  blk : Blk w b cs ty
  tag : o b = t
/-- Of what was there, only blocks of owners of A have turned; and whose a block is has not. -/
structure QT (A : τ → Prop) (w : World) (o : Nat → τ) (w' : World) (o' : Nat → τ) : Prop where
  touch : Touch (fun q => A (o q)) w w'
  same : ∀ q, q < w.heap.size → o' q = o q

theorem QT.refl (A : τ → Prop) (w : World) (o : Nat → τ) : QT A w o w o := ⟨Touch.refl _ _, fun _ _ => rfl⟩
theorem QT.trans {A : τ → Prop} {w w1 w2 : World} {o o1 o2 : Nat → τ} (h : QT A w o w1 o1) (k : QT A w1 o1 w2 o2) : QT A w o w2 o2 := by
  refine ⟨h.touch.trans (k.touch.mono fun q hq ha => ?_), fun q hq => (k.same q (Nat.lt_of_lt_of_le hq h.touch.size)).trans (h.same q hq)⟩
  by_cases hw : q < w.heap.size
  · rw [h.same q hw] at ha; exact Or.inl ha
  · exact Or.inr (by omega)
theorem QT.mono {A B : τ → Prop} {w w1 : World} {o o1 : Nat → τ} (h : QT A w o w1 o1) (hs : ∀ t, A t → B t) : QT B w o w1 o1 := ⟨h.touch.mono fun _ _ ha => hs _ ha, h.same⟩
theorem QT.size {A : τ → Prop} {w w1 : World} {o o1 : Nat → τ} (h : QT A w o w1 o1) : w.heap.size ≤ w1.heap.size := h.touch.size
theorem QT.drew {A : τ → Prop} {w w1 : World} {o o1 : Nat → τ} (h : QT A w o w1 o1) : QT A w o w1.drew o1 := ⟨h.touch.drew, h.same⟩
theorem QT.alloc {A : τ → Prop} {w w1 : World} {o o1 : Nat → τ} (h : QT A w o w1 o1) (b : Obj) : QT A w o (w1.alloc b) o1 := ⟨h.touch.alloc b, h.same⟩
theorem QT.set {A : τ → Prop} {w w1 : World} {o o1 : Nat → τ} {p : Addr} (h : QT A w o w1 o1) (hp : A (o1 p.block)) (u : Value) : QT A w o (w1.setCell p u) o1 := by
  refine ⟨h.touch.setCell ?_ u, h.same⟩
  by_cases hw : p.block < w.heap.size
  · rw [h.same _ hw] at hp; exact Or.inl hp
  · exact Or.inr (by omega)
theorem QT.grew {A : τ → Prop} {w w1 w2 : World} {o o1 : Nat → τ} {row : Option Nat} {t : τ} (h : QT A w o w1 o1) (hg : w1.grownBy w2 row) (hr : ∀ q, row = some q → o1 q = t) (ht : A t) : QT A w o w2 (updq o1 w1.heap.size t) := by
  refine ⟨h.touch.grown hg fun q hq => ?_, fun q hq => ?_⟩
  · by_cases hw : q < w.heap.size
    · left
      have e := hr q hq
      rw [h.same q hw] at e
      rw [e]; exact ht
    · exact Or.inr (by omega)
  · rw [updq_other (by have := h.touch.size; omega)]; exact h.same q hq
theorem QT.below {A : τ → Prop} {w w1 w2 : World} {o o1 : Nat → τ} (h : QT A w o w1 o1) (hb : Below w1.heap.size w1 w2) : QT A w o w2 o1 :=
  ⟨h.touch.trans (Touch.ofBelow hb), h.same⟩
/-- New blocks get the owners that are wanted. -/
def own2q (o : Nat → τ) (s : Nat) (f : Nat → τ) : Nat → τ := fun q => if q < s then o q else f q
theorem own2q_low {o f : Nat → τ} {s q : Nat} (h : q < s) : own2q o s f q = o q := by simp [own2q, h]
theorem own2q_high {o f : Nat → τ} {s q : Nat} (h : s ≤ q) : own2q o s f q = f q := by simp [own2q, show ¬ q < s by omega]
theorem QT.belowNew {A : τ → Prop} {w w1 w2 : World} {o o1 : Nat → τ} (h : QT A w o w1 o1) (hb : Below w1.heap.size w1 w2) (f : Nat → τ) : QT A w o w2 (own2q o1 w1.heap.size f) :=
  ⟨h.touch.trans (Touch.ofBelow hb), fun q hq => by rw [own2q_low (by have := h.touch.size; omega)]; exact h.same q hq⟩
theorem QT.later {A : τ → Prop} {w w1 w2 : World} {o o1 : Nat → τ} {S : Nat → Prop} (h : QT A w o w1 o1) (ht : Touch S w1 w2) (hs : ∀ q, q < w1.heap.size → S q → A (o1 q)) (f : Nat → τ) : QT A w o w2 (own2q o1 w1.heap.size f) := by
  refine ⟨h.touch.trans (ht.mono fun q hq s => ?_), fun q hq => by rw [own2q_low (by have := h.touch.size; omega)]; exact h.same q hq⟩
  by_cases hw : q < w.heap.size
  · have a := hs q hq s
    rw [h.same q hw] at a
    exact Or.inl a
  · exact Or.inr (by omega)

variable {w w' : World} {o : Nat → τ} {t t' : τ} {e e' : TypeId} {size size' n n' b b' : Nat} {v v' u : Value} {xs xs' cs : List Value} {ty : TypeId}
theorem Qc.lt (h : Qc w o t e size v n xs) {q : Nat} (hq : v.ownBlock = some q) : q < w.heap.size := h.row.lt hq
theorem Qc.move {o' : Nat → τ} (h : Qc w o t e size v n xs) (hb : ∀ q, q < w.heap.size → o q = t → w'.heap[q]? = w.heap[q]?) (ho : ∀ q, q < w.heap.size → o' q = o q) : Qc w' o' t e size v n xs :=
  ⟨h.row.move fun k hk => hb k (h.lt hk) (h.tag k hk), fun q hq => by rw [ho q (h.lt hq)]; exact h.tag q hq⟩
theorem Qb.move {o' : Nat → τ} (h : Qb w o t b cs ty) (hb : ∀ q, q < w.heap.size → o q = t → w'.heap[q]? = w.heap[q]?) (ho : ∀ q, q < w.heap.size → o' q = o q) : Qb w' o' t b cs ty :=
  ⟨h.blk.move (hb b h.blk.lt h.tag), by rw [ho b h.blk.lt]; exact h.tag⟩
theorem Qc.touch {A : τ → Prop} {o' : Nat → τ} (h : Qc w o t e size v n xs) (k : QT A w o w' o') (ht : ¬ A t) : Qc w' o' t e size v n xs :=
  h.move (fun q hq e => k.touch.block q hq (by rw [e]; exact ht)) k.same
theorem Qb.touch {A : τ → Prop} {o' : Nat → τ} (h : Qb w o t b cs ty) (k : QT A w o w' o') (ht : ¬ A t) : Qb w' o' t b cs ty :=
  h.move (fun q hq e => k.touch.block q hq (by rw [e]; exact ht)) k.same
theorem Qc.grew {row : Option Nat} (h : Qc w o t e size v n xs) (hg : w.grownBy w' row) (hr : ∀ q, row = some q → o q = t') (hne : t ≠ t') : Qc w' (updq o w.heap.size t') t e size v n xs :=
  h.move (fun q hq e => hg.block q hq (fun c => hne (by rw [← e, hr q c.symm]))) (fun q hq => updq_other (by omega))
theorem Qb.grew {row : Option Nat} (h : Qb w o t b cs ty) (hg : w.grownBy w' row) (hr : ∀ q, row = some q → o q = t') (hne : t ≠ t') : Qb w' (updq o w.heap.size t') t b cs ty :=
  h.move (fun q hq e => hg.block q hq (fun c => hne (by rw [← e, hr q c.symm]))) (fun q hq => updq_other (by omega))
theorem Qc.app (h : Qc w o t e size v n xs) (hrow : w'.ownsRow 0 e size v' n' xs') (hat : v'.ownBlock = v.ownBlock ∨ v'.ownBlock = some w.heap.size) : Qc w' (updq o w.heap.size t) t e size v' n' xs' := by
  refine ⟨hrow, fun q hq => ?_⟩
  rcases hat with a | a
  · have hq' : v.ownBlock = some q := by rw [← a]; exact hq
    rw [updq_other (by have := h.lt hq'; omega)]; exact h.tag q hq'
  · rw [a] at hq; cases hq; exact updq_same _ _ _
theorem Qc.set (h : Qc w o t e size v n xs) {p : Addr} (hp : o p.block = t') (hne : t ≠ t') (x : Value) : Qc (w.setCell p x) o t e size v n xs :=
  ⟨h.row.other (fun c => hne (by rw [← h.tag _ c, hp])) x, h.tag⟩
theorem Qb.other (h : Qb w o t b cs ty) {p : Addr} (hp : o p.block = t') (hne : t ≠ t') (x : Value) : Qb (w.setCell p x) o t b cs ty :=
  ⟨h.blk.other (fun c => hne (by rw [← h.tag, c, hp])) x, h.tag⟩
theorem Qb.set (h : Qb w o t b cs ty) (j : Nat) (x : Value) : Qb (w.setCell ⟨b, j, none⟩ x) o t b (cs.set j x) ty := ⟨h.blk.set j x, h.tag⟩
theorem Qc.alloc (h : Qc w o t e size v n xs) (ob : Obj) : Qc (w.alloc ob) o t e size v n xs := ⟨World.ownsRow.alloc h.row ob, h.tag⟩
theorem Qb.alloc (h : Qb w o t b cs ty) (ob : Obj) : Qb (w.alloc ob) o t b cs ty := ⟨h.blk.alloc ob, h.tag⟩
theorem Qc.drew (h : Qc w o t e size v n xs) : Qc w.drew o t e size v n xs := ⟨h.row, h.tag⟩
theorem Qb.drew (h : Qb w o t b cs ty) : Qb w.drew o t b cs ty := ⟨h.blk, h.tag⟩
theorem Qc.below (h : Qc w o t e size v n xs) (hb : Below w.heap.size w w') : Qc w' o t e size v n xs := ⟨h.row.below hb, h.tag⟩
theorem Qb.below (h : Qb w o t b cs ty) (hb : Below w.heap.size w w') : Qb w' o t b cs ty := ⟨h.blk.below hb, h.tag⟩
/-- A new list gets an owner. -/
theorem Qc.new {s : Nat} {f : Nat → τ} (h : w.ownsRow s e size v n xs) (hf : ∀ q, v.ownBlock = some q → f q = t) : Qc w (own2q o s f) t e size v n xs :=
  ⟨ownsRow_low h (Nat.zero_le _), fun q hq => by rw [own2q_high (h.lt q hq).1]; exact hf q hq⟩

theorem Qc.move2 {o' : Nat → τ} (h : Qc w o t e size v n xs) (hb : ∀ q, q < w.heap.size → o q = t → w'.heap[q]? = w.heap[q]? ∧ o' q = t) : Qc w' o' t e size v n xs :=
  ⟨h.row.move fun k hk => (hb k (h.lt hk) (h.tag k hk)).1, fun q hq => (hb q (h.lt hq) (h.tag q hq)).2⟩
theorem Qb.move2 {o' : Nat → τ} (h : Qb w o t b cs ty) (hb : ∀ q, q < w.heap.size → o q = t → w'.heap[q]? = w.heap[q]? ∧ o' q = t) : Qb w' o' t b cs ty :=
  ⟨h.blk.move (hb b h.blk.lt h.tag).1, (hb b h.blk.lt h.tag).2⟩
end

end Go.Proofs.YtiplgdkpnhamaaaGreatDoor
