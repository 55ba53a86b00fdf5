/- The texts ZK1, ZK2, U45, ZK3, U46, ZK4, U47, ZK8, ZK7, ZK6, ZK5, ZK10, U48, ZK9, joined. -/
import Derived.Test.YtiplgdkpnhamaaaGreatDoorJ23
import Derived.Test.YtiplgdkpnhamaaaGreatDoorJ38
import Derived.Test.YtiplgdkpnhamaaaGreatDoorJ37
import Derived.Test.YtiplgdkpnhamaaaGreatDoorJ25

namespace Go.Proofs.YtiplgdkpnhamaaaGreatDoor.Tv
open Go.RowKit
structure DX where
  kn : Nat → Vec
  gone : Nat → Nat
def newX : DX := ⟨fun _ => noVec, fun _ => 0⟩
def trOf (u : RTx) : Tr := ⟨u.rep.toNat, u.seq, vecOf u.saw, ownOf u.ops⟩
def heldOf (hs : List RTx) (r g : Nat) : List RTx := (hs.filter fun u => decide (u.rep = (r : Int))).drop g
structure HeldP (w : World) (p : Nat → Own) (r : Nat) (v : Value) (l : List RTx) : Prop where
  ex : ∃ ys : List (Tr × Nat), ys.map Prod.fst = l.map trOf ∧ Qc w p (.held r) 139 8 v ys.length (ys.flatMap trCells) ∧ ∀ y, y ∈ ys → p y.2 = .held 5 ∧ TrIn w y
theorem HeldP.move2 {w w' : World} {p p' : Nat → Own} {r : Nat} {v : Value} {l : List RTx} (h : HeldP w p r v l) (hm : ∀ q, q < w.heap.size → (p q = .held r ∨ p q = .held 5) → w'.heap[q]? = w.heap[q]? ∧ p' q = p q) : HeldP w' p' r v l := by
  obtain ⟨ys, h1, h2, h3⟩ := h.ex
  refine ⟨ys, h1, h2.move2 fun q hq e => ?_, fun y hy => ?_⟩
  · have := hm q hq (Or.inl e); exact ⟨this.1, this.2.trans e⟩
  · obtain ⟨a, b⟩ := h3 y hy
    have := hm y.2 b.lt (Or.inr a)
    exact ⟨this.2.trans a, MapIn.move b this.1⟩
theorem HeldP.touch {A : Own → Prop} {w w' : World} {p p' : Nat → Own} {r : Nat} {v : Value} {l : List RTx} (h : HeldP w p r v l) (k : QT A w p w' p') (h1 : ¬ A (.held r)) (h2 : ¬ A (.held 5)) : HeldP w' p' r v l :=
  h.move2 fun q hq e => ⟨k.touch.block q hq (by rcases e with e | e <;> rw [e] <;> assumption), k.same q hq⟩
structure RepP (xq : DX) (w : World) (p : Nat → Own) (b n i : Nat) (d : DRep) (sb : Nat) (st : St) (sl tbs mbs : Nat → Nat) (hv kn : List Value) : Prop where
  blk : Qb w p .rep b (repCells i n sb hv kn (opvs d tbs)) 114
  hlen : hv.length = 5
  klen : kn.length = 25
  sto : StIn w p sb (48 * d.hs.length) st
  ok : RepOk n i d st sl
  held : ∀ r (h : r < hv.length), HeldP w p r hv[r] (heldOf d.hs r (xq.gone r))
  tx : ∀ k t, d.opn k = some t → TxP w p k (sl k) (tbs k) (mbs k) t
  snp : ∀ c, c ∈ st.snaps.map Snap.blk → ∃ j, (d.opn j).isSome ∧ c = sl j
  known : kn = latCells xq.kn
  gle : ∀ r, xq.gone r ≤ cntR d.hs r
def RepIn (xq : DX) (w : World) (p : Nat → Own) (b n i : Nat) (d : DRep) : Prop := ∃ sb st sl tbs mbs hv kn, RepP xq w p b n i d sb st sl tbs mbs hv kn
section
variable {xq : DX} {w w' : World} {p p' : Nat → Own} {b n i k : Nat} {d : DRep} {sb : Nat} {st : St} {sl tbs mbs : Nat → Nat} {hv kn : List Value} {t : RTx} {nb tb mb : Nat}
theorem RepP.move (h : RepP xq w p b n i d sb st sl tbs mbs hv kn) (hm : ∀ q, q < w.heap.size → p q ≠ .other → w'.heap[q]? = w.heap[q]? ∧ p' q = p q) : RepP xq w' p' b n i d sb st sl tbs mbs hv kn := by
  have f : ∀ u, u ≠ Own.other → ∀ q, q < w.heap.size → p q = u → w'.heap[q]? = w.heap[q]? ∧ p' q = u := fun u hu q hq e => by
    have := hm q hq (by rw [e]; exact hu)
    exact ⟨this.1, this.2.trans e⟩
  obtain ⟨vb, cb, eb, ov, cv, ev, kv, hs⟩ := h.sto
  exact ⟨h.blk.move2 (f _ (by simp)), h.hlen, h.klen, ⟨vb, cb, eb, ov, cv, ev, kv, hs.move fun q hq e => hm q hq (fun c => by rw [c] at e; exact e)⟩, h.ok, fun r hr => (h.held r hr).move2 fun q hq e => hm q hq (by rcases e with e | e <;> rw [e] <;> simp), fun k t e => (h.tx k t e).move hm, h.snp, h.known, h.gle⟩
theorem RepIn.move (h : RepIn xq w p b n i d) (hm : ∀ q, q < w.heap.size → p q ≠ .other → w'.heap[q]? = w.heap[q]? ∧ p' q = p q) : RepIn xq w' p' b n i d := by
  obtain ⟨sb, st, sl, tbs, mbs, hv, kn, h⟩ := h
  exact ⟨sb, st, sl, tbs, mbs, hv, kn, h.move hm⟩
theorem RepP.below (h : RepP xq w p b n i d sb st sl tbs mbs hv kn) (hb : Below w.heap.size w w') : RepP xq w' p b n i d sb st sl tbs mbs hv kn := h.move fun q hq _ => ⟨hb.block q hq, rfl⟩
theorem RepP.opn6 (h : RepP xq w p b n i d sb st sl tbs mbs hv kn) (e : d.opn k = some t) : k < 6 := by
  by_cases c : k < 6
  · exact c
  · rw [h.ok.six k (by omega)] at e; cases e
theorem RepP.snaps6 (h : RepP xq w p b n i d sb st sl tbs mbs hv kn) : st.snaps.length ≤ 6 := by
  have a := nodup_len (l := st.snaps.map Snap.blk) (m := (List.range 6).map sl) h.ok.ginv.wf.blks (fun c hc => by
    obtain ⟨j, h1, h2⟩ := h.snp c hc
    obtain ⟨t, ht⟩ := Option.isSome_iff_exists.1 h1
    exact List.mem_map.2 ⟨j, List.mem_range.2 (h.opn6 ht), h2.symm⟩)
  simpa using a
theorem RepP.cellOp (h : RepP xq w p b n i d sb st sl tbs mbs hv kn) (hk : k < 6) : w.cell? ⟨b, 33 + k, none⟩ = some (opv d tbs k) := by
  rw [h.blk.blk.cell (33 + k), repCells_op h.hlen h.klen, opvs_get hk]
theorem RepP.cellOf (h : RepP xq w p b n i d sb st sl tbs mbs hv kn) : w.cell? ⟨b, 0, none⟩ = some (.int .i64 i) ∧ w.cell? ⟨b, 1, none⟩ = some (.int .i64 n) ∧ w.cell? ⟨b, 2, none⟩ = some (bptr sb) := by
  refine ⟨?_, ?_, ?_⟩
  · rw [h.blk.blk.cell 0]; rfl
  · rw [h.blk.blk.cell 1]; rfl
  · rw [h.blk.blk.cell 2]; rfl
theorem RepP.find_none (h : RepP xq w p b n i d sb st sl tbs mbs hv kn) {tx : Int} (e : opnAt d tx = none) :
    Calls Tryz.prog 60 #[bptr b, .int .i64 tx] w fun e w' => e = .returned (.pointer none) ∧ w' = w := by
  by_cases hr : tx < 0 ∨ 6 ≤ tx
  · exact find_no w b tx hr
  · obtain ⟨k, rfl⟩ : ∃ k : Nat, tx = k := ⟨tx.toNat, by omega⟩
    have hk : k < 6 := by omega
    unfold opnAt at e
    rw [if_pos (by omega)] at e
    have hc := h.cellOp hk
    unfold opv at hc
    rw [show (k : Int).toNat = k by omega] at e
    rw [e] at hc
    exact find_at w b k _ hk hc
theorem RepP.find_some (h : RepP xq w p b n i d sb st sl tbs mbs hv kn) {tx : Int} (e : opnAt d tx = some t) :
    ∃ k : Nat, tx = k ∧ k < 6 ∧ d.opn k = some t ∧ Calls Tryz.prog 60 #[bptr b, .int .i64 tx] w fun e w' => e = .returned (bptr (tbs k)) ∧ w' = w := by
  unfold opnAt at e
  split at e
  · rename_i h0
    obtain ⟨k, rfl⟩ : ∃ k : Nat, tx = k := ⟨tx.toNat, by omega⟩
    rw [show (k : Int).toNat = k by omega] at e
    have hk := h.opn6 e
    have hc := h.cellOp hk
    unfold opv at hc
    rw [e] at hc
    exact ⟨k, rfl, hk, e, find_at w b k _ hk hc⟩
  · cases e
end
structure QW (w : World) (p : Nat → Own) (w' : World) (p' : Nat → Own) : Prop where
  touch : Touch (fun q => p q ≠ .other) w w'
  stay : ∀ q, q < w.heap.size → p' q ≠ .other → p q ≠ .other
theorem QT.qw {w w' : World} {p p' : Nat → Own} (h : QT notOther w p w' p') : QW w p w' p' := ⟨h.touch, fun q hq e => by rw [← h.same q hq]; exact e⟩
theorem QW.trans {w w1 w2 : World} {p p1 p2 : Nat → Own} (h : QW w p w1 p1) (k : QW w1 p1 w2 p2) : QW w p w2 p2 := by
  refine ⟨h.touch.trans (k.touch.mono fun q hq ha => ?_), fun q hq e => h.stay q hq (k.stay q (Nat.lt_of_lt_of_le hq h.touch.size) e)⟩
  by_cases hw : q < w.heap.size
  · exact Or.inl (h.stay q hw ha)
  · exact Or.inr (by omega)
def PR (xq : DX) (w : World) (o : Nat → Tag) (t : Tag) (b n i : Nat) (d : DRep) : Prop := ∃ p : Nat → Own, (∀ q, q < w.heap.size → p q ≠ .other → o q = t) ∧ RepIn xq w p b n i d
theorem PR.move {xq : DX} {w w' : World} {o o' : Nat → Tag} {t : Tag} {b n i : Nat} {d : DRep} (h : PR xq w o t b n i d) (hm : ∀ q, q < w.heap.size → o q = t → w'.heap[q]? = w.heap[q]? ∧ o' q = t) : PR xq w' o' t b n i d := by
  obtain ⟨p, h1, h2⟩ := h
  refine ⟨fun q => if q < w.heap.size then p q else .other, fun q hq hne => ?_, h2.move fun q hq hne => ⟨(hm q hq (h1 q hq hne)).1, by simp [hq]⟩⟩
  dsimp only at hne
  split at hne
  · rename_i c; exact (hm q c (h1 q c hne)).2
  · exact absurd rfl hne
theorem PR.outW {xq : DX} {w w' : World} {o : Nat → Tag} {t : Tag} {b n i : Nat} {d' : DRep} {p p' : Nat → Own} (h1 : ∀ q, q < w.heap.size → p q ≠ .other → o q = t) (h : RepIn xq w' p' b n i d') (k : QW w p w' p') : ∃ o', PR xq w' o' t b n i d' ∧ TouchT (· = t) w o w' o' := by
  refine ⟨own2 o w.heap.size fun _ => t, ⟨p', fun q hq hne => ?_, h⟩, ⟨k.touch.mono fun q hq e => h1 q hq e, fun q hq => own2_low hq⟩⟩
  by_cases c : q < w.heap.size
  · rw [own2_low c]; exact h1 q c (k.stay q c hne)
  · rw [own2_high (by omega)]
theorem PR.out {xq : DX} {w w' : World} {o : Nat → Tag} {t : Tag} {b n i : Nat} {d' : DRep} {p p' : Nat → Own} (h1 : ∀ q, q < w.heap.size → p q ≠ .other → o q = t) (h : RepIn xq w' p' b n i d') (k : QT notOther w p w' p') : ∃ o', PR xq w' o' t b n i d' ∧ TouchT (· = t) w o w' o' := PR.outW h1 h (QT.qw k)
end Go.Proofs.YtiplgdkpnhamaaaGreatDoor.Tv

namespace Go.Proofs.YtiplgdkpnhamaaaGreatDoor.Tv
open Go.RowKit
theorem kept_room {n i : Nat} {d : DRep} {st : St} {sl : Nat → Nat} (h : RepOk n i d st sl) (hR : d.hs.length ≤ 1100000) {m : Nat} (hm : m ≤ 40000000) : KeptRoom st m := fun s hs => by
  have := h.kept_len s hs
  omega
set_option maxRecDepth 100000 in
set_option maxHeartbeats 4000000 in
theorem end_any {xq : DX} {w : World} {p : Nat → Own} {b n i k : Nat} {d : DRep} {sb : Nat} {st : St} {sl tbs mbs : Nat → Nat} {hv kn : List Value} {t : RTx} (h : RepP xq w p b n i d sb st sl tbs mbs hv kn) (hR : d.hs.length ≤ 1100000) (ht : d.opn k = some t) :
    Calls Tryz.prog 65 #[bptr b, .int .i64 k] w fun e w' => e = .returned (.tuple #[]) ∧ ∃ p' st', RepP xq w' p' b n i { d with opn := setSlot d.opn k none } sb st' sl tbs mbs hv kn ∧ QT notOther w p w' p' ∧ TxP w' p' k (sl k) (tbs k) (mbs k) t ∧
      Blk w' (sl k) [bptr sb, .int .i64 (vecOf t.saw).a, .int .i64 (vecOf t.saw).b, .int .i64 (vecOf t.saw).c, .int .i64 (vecOf t.saw).d, .int .i64 (vecOf t.saw).e, .slice none 0 0] 186 := by
  have hk := h.opn6 ht
  obtain ⟨hto, s, hs, hb, hsaw⟩ := h.ok.opn k t ht
  have hT := h.tx k t ht
  have hcl := close_st h.sto h.ok.ginv.wf hs (kept_room h.ok hR (by have := h.ok.kept_len s hs; omega)) (by omega)
  rw [hb] at hcl
  have c1 := h.cellOp hk
  unfold opv at c1
  rw [ht] at c1
  have c1' : w.cell? ⟨b, 33 + k, none⟩ = some (bptr (tbs k)) := c1
  have c2 : w.cell? ⟨tbs k, 0, none⟩ = some (bptr (sl k)) := hT.blk.blk.cell 0
  have l1 := h.blk.blk.lt
  have l2 := hT.blk.blk.lt
  have e1 : ¬ (k : Int) < 0 := by omega
  have e2 : (k : Int) < 6 := by omega
  have HCL := hide hcl
  have HH := hide (⟨h, hT, hs, hb, hsaw⟩ : _ ∧ _ ∧ _ ∧ _ ∧ _)
  have HT := hide ht
  clear h hT hs hb hsaw hto hcl c1 ht
  go_enter Tryz.func65, Tryz.ntmps65
  go_wp2_with fail
  refine HCL.out.mono ?_
  rintro e w1 ⟨rfl, p1, hI1, hq1, hB1⟩
  obtain ⟨h, hT, hs, hb, hsaw⟩ := HH.out
  have b1 := h.blk.touch hq1 (by simp [stoTag])
  have d1 : w1.cell? ⟨b, 33 + k, none⟩ = some (bptr (tbs k)) := by
    rw [b1.blk.cell (33 + k), repCells_op h.hlen h.klen, opvs_get hk]
    unfold opv; rw [HT.out]; rfl
  have f1 : w1.frozen? ⟨b, 33 + k, none⟩ = false := b1.blk.frozen (33 + k)
  have l3 : b < w1.heap.size := b1.blk.lt
  have H1 := hide (⟨hI1, hq1, hB1, b1⟩ : _ ∧ _ ∧ _ ∧ _)
  clear h hT hs hb hsaw hI1 hq1 hB1 b1 c1' c2
  go_wp2_with fail
  go_end0
  obtain ⟨h, hT, hs, hb, hsaw⟩ := HH.out
  obtain ⟨hI1, hq1, hB1, b1⟩ := H1.out
  have q2 : QT (· = .rep) w1 p1 (w1.setCell ⟨b, 33 + k, none⟩ (.pointer none)) p1 := (QT.refl _ _ _).set (p := ⟨b, 33 + k, none⟩) b1.tag _
  have qf : QT notOther w p (w1.setCell ⟨b, 33 + k, none⟩ (.pointer none)) p1 := (hq1.mono fun u hu => sto_not hu).trans (q2.mono fun u hu => by rw [hu]; simp [notOther])
  have b2 := b1.set (33 + k) (.pointer none)
  rw [repCells_set h.hlen h.klen, opvs_end hk] at b2
  have hI2 : StIn (w1.setCell ⟨b, 33 + k, none⟩ (.pointer none)) p1 sb (48 * d.hs.length) (closeSt st s) := by
    obtain ⟨vb, cb, eb, ov, cv, ev, kv, hs1⟩ := hI1
    exact ⟨vb, cb, eb, ov, cv, ev, kv, hs1.touch q2 (fun u hu e => by rw [e] at hu; exact hu)⟩
  have mv : ∀ {k' nb' tb' mb' : Nat} {t' : RTx}, TxP w p k' nb' tb' mb' t' → TxP (w1.setCell ⟨b, 33 + k, none⟩ (.pointer none)) p1 k' nb' tb' mb' t' := fun {k' nb' tb' mb' t'} hx => by
    have o1 : p1 mb' = .own k' := (hq1.same _ hx.own.lt).trans hx.ownT
    have m1 : MapIn w1 129 mb' t'.ops.length Place.val Wr.val (ownOf t'.ops) := hx.own.movet hq1 (by rw [hx.ownT]; simp [stoTag])
    exact ⟨(hx.blk.touch hq1 (by simp [stoTag])).touch q2 (by simp), o1, m1.movet q2 (by rw [o1]; simp)⟩
  refine ⟨rfl, p1, closeSt st s, ⟨b2, h.hlen, h.klen, hI2, h.ok.close (by omega) HT.out hs hb, fun r hr => ?_, fun k' t' e' => ?_, fun c hc => ?_, h.known, h.gle⟩, qf, mv hT, ?_⟩
  · exact ((h.held r hr).touch hq1 (by simp [stoTag]) (by simp [stoTag])).touch q2 (by simp) (by simp)
  · by_cases c : k' = k
    · subst c; rw [show ({ d with opn := setSlot d.opn k' none } : DRep).opn k' = none from setSlot_same _ _ _] at e'; cases e'
    · rw [show ({ d with opn := setSlot d.opn k none } : DRep).opn k' = d.opn k' from setSlot_other c] at e'
      exact mv (h.tx k' t' e')
  · have hc' : c ∈ (closeSt st s).snaps.map Snap.blk := hc
    unfold closeSt at hc'
    rw [(entrusts_but s.kept _).2.1] at hc'
    obtain ⟨s0, g1, rfl⟩ := List.mem_map.1 hc'
    obtain ⟨g2, g3⟩ := List.mem_filter.1 g1
    obtain ⟨j, j1, j2⟩ := h.snp s0.blk (List.mem_map.2 ⟨s0, g2, rfl⟩)
    refine ⟨j, ?_, j2⟩
    have : j ≠ k := fun e => by subst e; rw [← hb] at j2; simp [j2] at g3
    show (setSlot d.opn k none j).isSome
    rw [setSlot_other this]; exact j1
  · rw [hsaw] at hB1
    rw [← hb] at hB1 ⊢
    refine hB1.other (fun e => ?_) _
    have hsn : p s.blk = .snap s.blk := by
      obtain ⟨vb, cb, eb, ov, cv, ev, kv, hs1⟩ := h.sto
      exact (hs1.snap s hs).tag
    have hbt := h.blk.tag
    have e' : s.blk = b := by first | exact e | exact e.symm
    rw [e', hbt] at hsn
    cases hsn
set_option maxRecDepth 100000 in
theorem abort_any {xq : DX} {w : World} {p : Nat → Own} {b n i : Nat} {d : DRep} (h : RepIn xq w p b n i d) (hR : d.hs.length ≤ 1100000) (tx : Int) :
    Calls Tryz.prog 34 #[bptr b, .int .i64 tx] w fun e w' => e = .returned (abortAns d tx) ∧ ∃ p', RepIn xq w' p' b n i (abortD d tx) ∧ QT notOther w p w' p' := by
  obtain ⟨sb, st, sl, tbs, mbs, hv, kn, h⟩ := h
  cases ho : opnAt d tx with
  | none =>
    have hf := h.find_none ho
    have HF := hide hf
    have HH := hide h
    have ea : abortAns d tx = .int .i64 4 := by unfold abortAns; rw [ho]; rfl
    have ed : abortD d tx = d := by unfold abortD; rw [ho]; rfl
    rw [ea, ed]
    clear hf h ho
    go_enter Tryz.func34, Tryz.ntmps34
    go_wp2_with (go_at_call 60; refine HF.out.mono ?_; rintro e w1 ⟨rfl, rfl⟩)
    go_ret
    exact ⟨rfl, p, ⟨sb, st, sl, tbs, mbs, hv, kn, HH.out⟩, QT.refl _ _ _⟩
  | some t =>
    obtain ⟨k, rfl, hk, hok, hf⟩ := h.find_some ho
    have he := end_any h hR hok
    have HF := hide hf
    have HE := hide he
    have ea : abortAns d k = .int .i64 0 := by unfold abortAns; rw [ho]; rfl
    have ed : abortD d k = { d with opn := setSlot d.opn k none } := by unfold abortD endD; rw [ho]; simp
    rw [ea, ed]
    clear hf h ho he
    go_enter Tryz.func34, Tryz.ntmps34
    go_wp2_with (first | (go_at_call 60; refine HF.out.mono ?_; rintro e w1 ⟨rfl, rfl⟩) | (go_at_call 65; refine HE.out.mono ?_; rintro e w2 ⟨rfl, p2, st2, h2, q2, -, -⟩))
    go_ret
    exact ⟨rfl, p2, ⟨sb, st2, sl, tbs, mbs, hv, kn, h2⟩, q2⟩
end Go.Proofs.YtiplgdkpnhamaaaGreatDoor.Tv

namespace Go.Proofs.YtiplgdkpnhamaaaGreatDoor
open Go.RowKit Go.Sort
abbrev par (k : Nat) : Nat := (k - 1) / 2
def sw {α : Type} (f : Nat → α) (i j : Nat) : Nat → α := fun k => if k = j then f i else if k = i then f j else f k
structure OrdLt {α : Type} (lt : α → α → Bool) : Prop where
  irr : ∀ a, lt a a = false
  tot : ∀ a b, lt a b = true → lt b a = false
  tr : ∀ a b c, lt b a = false → lt c b = false → lt c a = false
def HeapF {α : Type} (lt : α → α → Bool) (f : Nat → α) (n : Nat) : Prop := ∀ k, 1 ≤ k → k < n → lt (f k) (f (par k)) = false
structure UpF {α : Type} (lt : α → α → Bool) (f : Nat → α) (n j : Nat) : Prop where
  away : ∀ k, 1 ≤ k → k < n → k ≠ j → lt (f k) (f (par k)) = false
  kids : ∀ k, 1 ≤ k → k < n → par k = j → 1 ≤ j → lt (f k) (f (par j)) = false
theorem UpF.done {α : Type} {lt : α → α → Bool} {f : Nat → α} {n j : Nat} (h : UpF lt f n j) (hj : j = 0 ∨ lt (f j) (f (par j)) = false) : HeapF lt f n := fun k h1 h2 => by
  by_cases e : k = j
  · subst e; rcases hj with rfl | hj
    · omega
    · exact hj
  · exact h.away k h1 h2 e
theorem UpF.step {α : Type} {lt : α → α → Bool} (o : OrdLt lt) {f : Nat → α} {n j : Nat} (h : UpF lt f n j) (hj : 1 ≤ j) (hn : j < n) (hl : lt (f j) (f (par j)) = true) : UpF lt (sw f (par j) j) n (par j) := by
  have hij : par j < j := by unfold par; omega
  constructor
  · intro k h1 h2 hk
    have hpk : par k < k := by unfold par; omega
    by_cases e : k = j
    · subst e
      unfold sw
      rw [if_pos rfl, if_neg (by omega), if_pos rfl]
      exact o.tot _ _ hl
    · by_cases e1 : par k = j
      · unfold sw
        rw [if_neg e, if_neg hk, if_pos e1]
        exact h.kids k h1 h2 e1 hj
      · by_cases e2 : par k = par j
        · unfold sw
          rw [if_neg e, if_neg hk, if_neg e1, if_pos e2]
          have a := h.away k h1 h2 e
          rw [e2] at a
          exact o.tr _ _ _ (o.tot _ _ hl) a
        · unfold sw
          rw [if_neg e, if_neg hk, if_neg e1, if_neg e2]
          exact h.away k h1 h2 e
  · intro k h1 h2 hk hi
    have hii : par (par j) < par j := by unfold par at *; omega
    have hpk : par k < k := by unfold par; omega
    have a := h.away (par j) hi (by omega) (by omega)
    unfold sw
    rw [if_neg (show ¬ par (par j) = j by omega), if_neg (show ¬ par (par j) = par j by omega)]
    by_cases e : k = j
    · rw [if_pos e]; exact a
    · rw [if_neg e, if_neg (by omega)]
      have b := h.away k h1 h2 e
      rw [hk] at b
      exact o.tr _ _ _ a b
structure DownF {α : Type} (lt : α → α → Bool) (f : Nat → α) (n i : Nat) : Prop where
  away : ∀ k, 1 ≤ k → k < n → par k ≠ i → lt (f k) (f (par k)) = false
  kids : 1 ≤ i → ∀ k, 1 ≤ k → k < n → par k = i → lt (f k) (f (par i)) = false
theorem DownF.leaf {α : Type} {lt : α → α → Bool} {f : Nat → α} {n i : Nat} (h : DownF lt f n i) (hi : n ≤ 2 * i + 1) : HeapF lt f n := fun k h1 h2 => h.away k h1 h2 (by unfold par; omega)
theorem DownF.done {α : Type} {lt : α → α → Bool} (o : OrdLt lt) {f : Nat → α} {n i j : Nat} (h : DownF lt f n i) (hj : lt (f j) (f i) = false) (hk : ∀ k, 1 ≤ k → k < n → par k = i → lt (f k) (f j) = false) : HeapF lt f n := fun k h1 h2 => by
  by_cases e : par k = i
  · rw [e]; exact o.tr _ _ _ hj (hk k h1 h2 e)
  · exact h.away k h1 h2 e
theorem DownF.step {α : Type} {lt : α → α → Bool} (o : OrdLt lt) {f : Nat → α} {n i j : Nat} (h : DownF lt f n i) (h1 : 1 ≤ j) (hn : j < n) (hp : par j = i) (hl : lt (f j) (f i) = true) (hk : ∀ k, 1 ≤ k → k < n → par k = i → lt (f k) (f j) = false) : DownF lt (sw f i j) n j := by
  have hij : i < j := by unfold par at hp; omega
  constructor
  · intro k k1 k2 hkj
    have hpk : par k < k := by unfold par; omega
    unfold sw
    rw [if_neg hkj]
    by_cases e : k = j
    · rw [if_pos e, e, hp, if_pos rfl]; exact o.tot _ _ hl
    · rw [if_neg e]
      by_cases e1 : par k = i
      · rw [if_pos e1, if_neg (by omega)]; exact hk k k1 k2 e1
      · rw [if_neg e1]
        by_cases e2 : k = i
        · rw [if_pos e2, e2]; exact h.kids (by omega) j h1 hn hp
        · rw [if_neg e2]; exact h.away k k1 k2 e1
  · intro _ k k1 k2 hkj
    have hpk : par k < k := by unfold par; omega
    unfold sw
    rw [hp, if_neg (by omega), if_neg (by omega), if_neg (by omega), if_pos rfl]
    have := h.away k k1 k2 (by omega)
    rw [hkj] at this
    exact this
theorem HeapF.min {α : Type} {lt : α → α → Bool} (o : OrdLt lt) {f : Nat → α} {n : Nat} (h : HeapF lt f n) : ∀ k, k < n → lt (f k) (f 0) = false := by
  intro k
  induction k using Nat.strongRecOn with
  | _ k ih =>
    intro hk
    by_cases e : k = 0
    · subst e; exact o.irr _
    · have hp : par k < k := by unfold par; omega
      exact o.tr _ _ _ (ih (par k) hp (by omega)) (h k (by omega) hk)
theorem HeapF.grow {α : Type} {lt : α → α → Bool} {f g : Nat → α} {n : Nat} (h : HeapF lt f n) (he : ∀ k, k < n → g k = f k) : UpF lt g (n + 1) n :=
  ⟨fun k h1 h2 hk => by rw [he k (by omega), he (par k) (by unfold par; omega)]; exact h k h1 (by omega),
   fun k h1 h2 hk _ => by unfold par at hk; omega⟩
theorem HeapF.pop {α : Type} {lt : α → α → Bool} {f g : Nat → α} {n : Nat} (h : HeapF lt f (n + 1)) (he : ∀ k, 1 ≤ k → k < n → g k = f k) : DownF lt g n 0 :=
  ⟨fun k h1 h2 hk => by rw [he k h1 h2, he (par k) (by unfold par at *; omega) (by unfold par; omega)]; exact h k h1 (by omega),
   fun h0 => by omega⟩
theorem HeapF.cut {α : Type} {lt : α → α → Bool} {f g : Nat → α} {n m : Nat} (h : HeapF lt f n) (hm : m ≤ n) (he : ∀ k, k < m → g k = f k) : HeapF lt g m := fun k h1 h2 => by
  rw [he k h2, he (par k) (by unfold par; omega)]; exact h k h1 (by omega)
abbrev vw {α : Type} (d : α) (l : List α) : Nat → α := fun k => l.getD k d
theorem vw_swap {α : Type} (d : α) (l : List α) {i j : Nat} (hi : i < l.length) (hj : j < l.length) : vw d ((l.set i l[j]).set j l[i]) = sw (vw d l) i j := by
  funext k
  unfold sw vw
  simp only [List.getD_eq_getElem?_getD, List.getElem?_set, List.length_set]
  by_cases e : k = j
  · subst e; simp [hi, hj]
  · rw [if_neg (fun x => e x.symm), if_neg e]
    by_cases e2 : k = i
    · subst e2; simp [hi, hj]
    · rw [if_neg (fun x => e2 x.symm), if_neg e2]
theorem swap_perm {α : Type} (l : List α) {i j : Nat} (hi : i < l.length) (hj : j < l.length) : ((l.set i l[j]).set j l[i]).Perm l := by
  exact List.set_set_perm hi hj
theorem wLt_iff (a b : Wt) : wLt a b = true ↔ (a.nd < b.nd ∨ (a.nd = b.nd ∧ (a.dot.rep < b.dot.rep ∨ (a.dot.rep = b.dot.rep ∧ a.dot.seq < b.dot.seq)))) := by
  unfold wLt
  by_cases e : a.nd = b.nd
  · rw [if_pos e, decide_eq_true_eq]; unfold dotLt; constructor
    · exact fun h => Or.inr ⟨e, h⟩
    · rintro (h | h)
      · omega
      · exact h.2
  · rw [if_neg e, decide_eq_true_eq]; constructor
    · exact Or.inl
    · rintro (h | h)
      · exact h
      · exact absurd h.1 e
theorem wLt_no (a b : Wt) : wLt a b = false ↔ ¬ (a.nd < b.nd ∨ (a.nd = b.nd ∧ (a.dot.rep < b.dot.rep ∨ (a.dot.rep = b.dot.rep ∧ a.dot.seq < b.dot.seq)))) := by
  rw [← wLt_iff]; simp
theorem wLt_ord : OrdLt wLt := by
  refine ⟨fun a => ?_, fun a b h => ?_, fun a b c h1 h2 => ?_⟩
  · rw [wLt_no]; omega
  · rw [wLt_iff] at h; rw [wLt_no]; omega
  · rw [wLt_no] at h1 h2 ⊢; omega
abbrev dWt : Wt := ⟨(⟨0, 0, noVec, fun _ => none⟩, 0), 0⟩
end Go.Proofs.YtiplgdkpnhamaaaGreatDoor

namespace Go.Proofs.YtiplgdkpnhamaaaGreatDoor.Tv
open Go.RowKit
theorem write_in {xq : DX} {w : World} {p : Nat → Own} {b n i k : Nat} {d : DRep} {sb : Nat} {st : St} {sl tbs mbs : Nat → Nat} {hv kn : List Value} {t : RTx} (h : RepP xq w p b n i d sb st sl tbs mbs hv kn) (ht : d.opn k = some t) {o : ROp} (ho : OpOk o) (hvs : ¬ o.kind = 1 → o.value.size ≤ 8) (has : o.kind = 1 → -1000000 ≤ o.amount ∧ o.amount ≤ 1000000) :
    Calls Tryz.prog 62 #[bptr (tbs k), (plOf o).val, (wrOf o).val] w fun e w' => e = .returned (.int .i64 (if 16 ≤ t.ops.length then 5 else 0)) ∧ ∃ p', RepIn xq w' p' b n i (wroteD d k t o) ∧ QT notOther w p w' p' := by
  have hT := h.tx k t ht
  obtain ⟨hto, -⟩ := h.ok.opn k t ht
  have hfew := hto.ops.few
  unfold wroteD
  by_cases c : 16 ≤ t.ops.length
  · rw [if_pos c, if_pos c]
    have e16 : ((t.ops.length : Nat) : Int) = 16 := by omega
    have hB := hT.blk.blk
    rw [e16] at hB
    refine (twrite_full w (tbs k) _ _ (plOf o) (wrOf o) hB).mono ?_
    rintro e w' ⟨rfl, hb⟩
    exact ⟨rfl, p, ⟨sb, st, sl, tbs, mbs, hv, kn, h.below hb⟩, QT.ofBelow hb⟩
  · rw [if_neg c, if_neg c]
    obtain ⟨s1, s2⟩ := plOf_ok (small_max (key_small ho)) (fun c => small_max (hvs c))
    have hne : tbs k ≠ mbs k := fun e => by have := hT.blk.tag; rw [e, hT.ownT] at this; cases this
    refine (twrite_ok w (tbs k) (mbs k) t.ops.length _ _ (ownOf t.ops) (plOf o) (wrOf o) hT.blk.blk hT.own hne (by omega) (by omega) s1 s2 (by unfold maxLen; omega)).mono ?_
    rintro e w' ⟨rfl, hB1, hM1, hT1⟩
    have q1 : QT (fun u => u = .tx k ∨ u = .own k) w p w' p := ⟨hT1.mono fun q _ e => by rcases e with rfl | rfl; exact Or.inl hT.blk.tag; exact Or.inr hT.ownT, fun _ _ => rfl⟩
    have hlen : (t.ops ++ [o]).length = t.ops.length + 1 := by simp
    refine ⟨rfl, p, ⟨sb, st, sl, tbs, mbs, hv, kn, ?_, h.hlen, h.klen, ?_, h.ok.does ht ho hvs has (by omega), fun r hr => ?_, fun k' t' e' => ?_, fun c hc => ?_, h.known, h.gle⟩, q1.mono fun u hu => by rcases hu with rfl | rfl <;> simp [notOther]⟩
    · rw [opvs_same ht]; exact h.blk.touch q1 (by simp)
    · obtain ⟨vb, cb, eb, ov, cv, ev, kv, hs1⟩ := h.sto
      exact ⟨vb, cb, eb, ov, cv, ev, kv, hs1.touch q1 (fun u hu e => by rcases e with rfl | rfl <;> exact hu)⟩
    · exact (h.held r hr).touch q1 (by simp) (by simp)
    · by_cases c' : k' = k
      · subst c'
        rw [show ({ d with opn := setSlot d.opn k' (some { t with ops := t.ops ++ [o] }) } : DRep).opn k' = some { t with ops := t.ops ++ [o] } from setSlot_same _ _ _] at e'
        cases e'
        refine ⟨⟨?_, hT.blk.tag⟩, hT.ownT, ?_⟩
        · show Blk w' (tbs k') [bptr (sl k'), .int .i64 ((t.ops ++ [o]).length : Nat), .map (some (mbs k'))] _
          rw [hlen]
          exact hB1
        · show MapIn w' _ (mbs k') (t.ops ++ [o]).length Place.val Wr.val (ownOf (t.ops ++ [o]))
          rw [hlen, ownOf_snoc]
          exact hM1
      · rw [show ({ d with opn := setSlot d.opn k (some { t with ops := t.ops ++ [o] }) } : DRep).opn k' = d.opn k' from setSlot_other c'] at e'
        have hx := h.tx k' t' e'
        exact ⟨hx.blk.touch q1 (by simp [c']), hx.ownT, hx.own.movet q1 (by rw [hx.ownT]; simp [c'])⟩
    · obtain ⟨j, j1, j2⟩ := h.snp c hc
      refine ⟨j, ?_, j2⟩
      show (setSlot d.opn k (some { t with ops := t.ops ++ [o] }) j).isSome
      by_cases c' : j = k
      · subst c'; rw [setSlot_same]; rfl
      · rw [setSlot_other c']; exact j1
theorem write_after {xq : DX} {w : World} {p : Nat → Own} {b n i k : Nat} {d : DRep} {sb : Nat} {st : St} {sl tbs mbs : Nat → Nat} {hv kn : List Value} {t : RTx} (h : RepP xq w p b n i d sb st sl tbs mbs hv kn) (ht : d.opn k = some t) {o : ROp} (ho : OpOk o) (hvs : ¬ o.kind = 1 → o.value.size ≤ 8) (has : o.kind = 1 → -1000000 ≤ o.amount ∧ o.amount ≤ 1000000) {W : World} (hB : Below w.heap.size w W) :
    Calls Tryz.prog 62 #[bptr (tbs k), (plOf o).val, (wrOf o).val] W fun e w' => e = .returned (.int .i64 (if 16 ≤ t.ops.length then 5 else 0)) ∧ ∃ p', RepIn xq w' p' b n i (wroteD d k t o) ∧ QT notOther w p w' p' :=
  (write_in (h.below hB) ht ho hvs has).mono (by
    rintro e w' ⟨rfl, p', h1, h2⟩
    exact ⟨rfl, p', h1, (QT.ofBelow hB).trans h2⟩)
set_option maxRecDepth 100000 in
set_option maxHeartbeats 4000000 in
theorem add_call {xq : DX} {w : World} {p : Nat → Own} {b n i : Nat} {d : DRep} (h : RepIn xq w p b n i d) (tx : Int) (o : ROp) (hkd : o.kind = 1) (hks : o.key.size ≤ maxLen) :
    Calls Tryz.prog 28 #[bptr b, .int .i64 tx, .string o.key, .int .i64 o.amount] w fun e w' => e = .returned (.int .i64 (doesErr (opnAt d tx) o)) ∧ ∃ p', RepIn xq w' p' b n i (doesD d tx o) ∧ QT notOther w p w' p' := by
  obtain ⟨sb, st, sl, tbs, mbs, hv, kn, h⟩ := h
  have hth := fun W => thing_any o.key W hks
  have HTH := hide hth
  have HH := hide h
  clear hth
  cases ho : opnAt d tx with
  | none =>
    have hf := h.find_none ho
    have HF := hide hf
    have ed : doesD d tx o = d := by unfold doesD; rw [ho]
    have ea : doesErr none o = 4 := rfl
    rw [ed, ea]
    clear hf h ho ed ea
    go_enter Tryz.func28, Tryz.ntmps28
    go_wp2_with (go_at_call 60; refine HF.out.mono ?_; rintro e w1 ⟨rfl, rfl⟩)
    go_ret
    exact ⟨rfl, p, ⟨sb, st, sl, tbs, mbs, hv, kn, HH.out⟩, QT.refl _ _ _⟩
  | some t =>
    obtain ⟨k, rfl, hk, hok, hf⟩ := h.find_some ho
    have HF := hide hf
    have HOK := hide hok
    have kb : kindByte o.kind = 99 := by rw [hkd]; rfl
    by_cases c1 : kindOf o.key = 99
    · by_cases c2 : o.amount < -1000000 ∨ 1000000 < o.amount
      · have ea : doesErr (some t) o = 3 := by unfold doesErr; simp only; rw [if_neg (by rw [kb, c1]; simp), if_pos (Or.inl ⟨hkd, c2⟩)]
        have ed : doesD d k o = d := by unfold doesD; rw [ho]; simp only; rw [ea]; rfl
        rw [ea, ed]
        have e1 : ((kindOf o.key : Int) != 99) = false := by rw [c1]; rfl
        rw [c1] at HTH
        clear hf h ho ea ed hok kb e1
        by_cases c3 : o.amount < -1000000
        · clear c2
          go_enter Tryz.func28, Tryz.ntmps28
          go_wp2_with (first | (go_at_call 60; refine HF.out.mono ?_; rintro e w1 ⟨rfl, rfl⟩) | (go_at_call 61; refine (HTH.out _).mono ?_; rintro e w1 ⟨rfl, rfl⟩))
          go_ret
          exact ⟨rfl, p, ⟨sb, st, sl, tbs, mbs, hv, kn, HH.out⟩, QT.refl _ _ _⟩
        · have c4 : 1000000 < o.amount := by omega
          clear c2
          go_enter Tryz.func28, Tryz.ntmps28
          go_wp2_with (first | (go_at_call 60; refine HF.out.mono ?_; rintro e w1 ⟨rfl, rfl⟩) | (go_at_call 61; refine (HTH.out _).mono ?_; rintro e w1 ⟨rfl, rfl⟩))
          go_ret
          exact ⟨rfl, p, ⟨sb, st, sl, tbs, mbs, hv, kn, HH.out⟩, QT.refl _ _ _⟩
      · have hop : OpOk o := ⟨Or.inl hkd, by rw [kb]; exact c1⟩
        have ea : doesErr (some t) o = if 16 ≤ t.ops.length then 5 else 0 := by
          unfold doesErr; simp only; rw [if_neg (by rw [kb, c1]; simp), if_neg (by rintro (⟨-, e⟩ | ⟨e, -⟩); exact c2 e; exact e hkd)]
        have ed : doesD d k o = wroteD d k t o := by
          unfold doesD wroteD; rw [ho]; simp only; rw [ea]
          by_cases c : 16 ≤ t.ops.length
          · rw [if_pos c, if_pos c, if_neg (by omega)]
          · rw [if_neg c, if_neg c, if_pos rfl]; rfl
        rw [ea, ed]
        rw [c1] at HTH
        have hcl := fun W => clone_any o.key (by have := key_small hop; omega) W
        have hwr : ∀ W, Below w.heap.size w W → Calls Tryz.prog 62 #[bptr (tbs k), .agg #[.string o.key, .string ⟨#[]⟩], .agg #[.int .i64 0, .int .i64 o.amount, .string ⟨#[]⟩]] W fun e w' => e = .returned (.int .i64 (if 16 ≤ t.ops.length then 5 else 0)) ∧ ∃ p', RepIn xq w' p' b n i (wroteD d k t o) ∧ QT notOther w p w' p' := fun W hB => by
          have a := write_after h hok hop (fun e => absurd hkd e) (fun _ => ⟨by omega, by omega⟩) hB
          have e1 : (plOf o).val = .agg #[.string o.key, .string ⟨#[]⟩] := by unfold plOf; rw [if_pos (Or.inl hkd)]; rfl
          have e2 : (wrOf o).val = .agg #[.int .i64 0, .int .i64 o.amount, .string ⟨#[]⟩] := by unfold wrOf; rw [if_pos hkd]
          rw [e1, e2] at a
          exact a
        obtain ⟨er, her⟩ : ∃ er : Int, (if 16 ≤ t.ops.length then 5 else 0) = er := ⟨_, rfl⟩
        rw [her] at hwr ⊢
        have HCL := hide hcl
        have HWR := hide hwr
        have c3 : ¬ o.amount < -1000000 := fun e => c2 (Or.inl e)
        have c4 : ¬ 1000000 < o.amount := fun e => c2 (Or.inr e)
        clear hf h ho ea ed hok kb hcl hwr c2 hop her
        go_enter Tryz.func28, Tryz.ntmps28
        go_wp2_with (first | (go_at_call 60; refine HF.out.mono ?_; rintro e w1 ⟨rfl, rfl⟩) | (go_at_call 61; refine (HTH.out _).mono ?_; rintro e w1 ⟨rfl, rfl⟩) | (go_at_call 63; refine (HCL.out _).mono ?_; rintro e w2 ⟨rfl, hB2⟩) | (go_at_call 62; refine (HWR.out _ hB2).mono ?_; rintro e w3 ⟨rfl, hpost⟩; have HP := hide hpost; clear hpost))
        go_ret
        exact ⟨rfl, HP.out⟩
    · have ea : doesErr (some t) o = 2 := by unfold doesErr; simp only; rw [if_pos (by rw [kb]; exact c1)]
      have ed : doesD d k o = d := by unfold doesD; rw [ho]; simp only; rw [ea]; rfl
      rw [ea, ed]
      clear hf h ho ea ed hok kb
      go_enter Tryz.func28, Tryz.ntmps28
      go_wp2_with (first | (go_at_call 60; refine HF.out.mono ?_; rintro e w1 ⟨rfl, rfl⟩) | (go_at_call 61; refine (HTH.out _).mono ?_; rintro e w1 ⟨rfl, rfl⟩))
      go_ret
      exact ⟨rfl, p, ⟨sb, st, sl, tbs, mbs, hv, kn, HH.out⟩, QT.refl _ _ _⟩
end Go.Proofs.YtiplgdkpnhamaaaGreatDoor.Tv

namespace Go.Proofs.YtiplgdkpnhamaaaGreatDoor
open Go.RowKit Go.Sort
structure QIn (B : Nat) (w : World) (qb : Nat) (sv : Value) (l : List Wt) : Prop where
  blk : Blk w qb [sv] 208
  row : QRow B w sv l
theorem QIn.cell {B : Nat} {w : World} {qb : Nat} {sv : Value} {l : List Wt} (h : QIn B w qb sv l) : w.cell? ⟨qb, 0, none⟩ = some sv := h.blk.cell 0
theorem QIn.later {B : Nat} {w w' : World} {qb : Nat} {sv : Value} {l : List Wt} (h : QIn B w qb sv l) (hb : Below w.heap.size w w') : QIn B w' qb sv l := ⟨h.blk.below hb, ownsRow_below h.row hb⟩
theorem QIn.ne {B : Nat} {w : World} {qb : Nat} {sv : Value} {l : List Wt} (h : QIn B w qb sv l) : sv.ownBlock ≠ some qb := own_other h.blk h.row (by decide)
structure QPerm (B : Nat) (w : World) (qb g cap : Nat) (l l' : List Wt) (wr : World) : Prop where
  len : l'.length = l.length
  perm : l'.Perm l
  q : QIn B wr qb (.slice (some ⟨g, 0, none⟩) l.length cap) l'
  tch : Touch (fun q => q = g) w wr
theorem QPerm.later {B : Nat} {w : World} {qb g cap : Nat} {l l' : List Wt} {wr w' : World} (h : QPerm B w qb g cap l l' wr) (hb : Below wr.heap.size wr w') : QPerm B w qb g cap l l' w' :=
  ⟨h.len, h.perm, h.q.later hb, h.tch.then (Touch.ofBelow hb)⟩
theorem QPerm.swap {B : Nat} {w : World} {qb g cap : Nat} {l l' : List Wt} {wr w' : World} (h : QPerm B w qb g cap l l' wr) {i j : Nat} (hi : i < l'.length) (hj : j < l'.length) (hr : QRow B w' (.slice (some ⟨g, 0, none⟩) (swapL l' i j hi hj).length cap) (swapL l' i j hi hj)) (ht : Touch (fun q => q = g) wr w') : QPerm B w qb g cap l (swapL l' i j hi hj) w' := by
  have e : (swapL l' i j hi hj).length = l'.length := by simp [swapL]
  refine ⟨e.trans h.len, (swap_perm l' hi hj).trans h.perm, ⟨h.q.blk.touch ht fun c => h.q.ne (by rw [c]; rfl), ?_⟩, h.tch.then ht⟩
  rw [e, h.len] at hr
  exact hr
theorem vw_get {l : List Wt} {k : Nat} (hk : k < l.length) : vw dWt l k = l[k] := by simp [vw, hk]
abbrev lt2 (l : List Wt) (i j : Nat) (hi : i < l.length) (hj : j < l.length) : Bool := wLt l[i] l[j]
set_option maxRecDepth 100000 in
set_option maxHeartbeats 800000 in
theorem heap_up (B : Nat) (w : World) (qb g cap : Nat) (l : List Wt) (hq : QIn B w qb (.slice (some ⟨g, 0, none⟩) l.length cap) l) (hl : l.length ≤ 100000000) {j : Nat} (hj : j < l.length) (hu : UpF wLt (vw dWt l) l.length j) :
    Calls Tryz.prog 172 #[qIface qb, .int .i64 j] w fun e w' => e = .returned (.tuple #[]) ∧ ∃ l', QPerm B w qb g cap l l' w' ∧ HeapF wLt (vw dWt l') l'.length := by
  have H0 : Hid (QPerm B w qb g cap l l w ∧ UpF wLt (vw dWt l) l.length j) := ⟨⟨rfl, List.Perm.refl _, hq, Touch.refl _ _⟩, hu⟩
  obtain ⟨n, hn⟩ : ∃ n, l.length = n := ⟨_, rfl⟩
  have HN := hide hn
  have hj' : j < n := by omega
  have hl' : n ≤ 100000000 := by omega
  clear hq hu hl hj hn
  go_enter Tryz.func172, Tryz.ntmps172
  go_wp2
  go_loopw [1] (fun jv wr => ∃ (k : Nat) (l' : List Wt), k < n ∧ jv = .int .i64 k ∧ Hid (QPerm B w qb g cap l l' wr ∧ UpF wLt (vw dWt l') l.length k)) (fun jv _ => (intOf jv).toNat)
  case atStart => exact ⟨j, l, hj', rfl, H0⟩
  case round =>
    obtain ⟨k, l', hk, rfl, HR⟩ := hrel
    have hln : l'.length = n := HR.out.1.len.trans HN.out
    have cq := HR.out.1.q.cell
    have hm1 := meth_less qb wr cq
    by_cases hk0 : k = 0
    · subst hk0
      go_wp2_with fail
      go_end0
      refine ⟨rfl, l', HR.out.1, ?_⟩
      rw [HR.out.1.len]
      exact HR.out.2.done (Or.inl rfl)
    · obtain ⟨m, hm⟩ : ∃ m, par k = m := ⟨_, rfl⟩
      have hmk : m < k := by unfold par at hm; omega
      have em : ((k : Int) - 1) / 2 = (m : Int) := by unfold par at hm; omega
      have hne : ((m : Int) == (k : Int)) = false := beq_false_of_ne (by omega)
      have hkl : k < l'.length := by omega
      have hpl : m < l'.length := by omega
      have hrw : QRow B wr (.slice (some ⟨g, 0, none⟩) l'.length cap) l' := by have := HR.out.1.q.row; rw [← HR.out.1.len] at this; exact this
      have hls := q_less B wr g cap l' hrw (by omega) hkl hpl
      have hup : lt2 l' k m hkl hpl = wLt (vw dWt l' k) (vw dWt l' (par k)) := by rw [hm, vw_get hkl, vw_get hpl]
      rw [HR.out.1.len] at hls
      have HLS := hide hls
      have HM := hide hm
      clear hls hm
      go_upto_region 0 with (fail)
      go_cut [4] (fun iv wc => iv = .int .i64 m ∧ wc = wr)
      case first =>
        go_wp2_with fail
        go_meet
        exact ⟨by rw [em], rfl⟩
      case rest =>
        obtain ⟨rfl, rfl⟩ := hcut
        clear em
        cases hb : lt2 l' k m hkl hpl with
        | false =>
          unfold lt2 at hb
          rw [hb] at HLS
          go_wp2_with (go_at_call 292; refine HLS.out.mono ?_; rintro e w1 ⟨rfl, hB1⟩; have HB1 := hide hB1; clear hB1)
          go_end0
          refine ⟨rfl, l', HR.out.1.later HB1.out, ?_⟩
          rw [HR.out.1.len]
          exact HR.out.2.done (Or.inr (by rw [← hup]; exact hb))
        | true =>
          unfold lt2 at hb
          rw [hb] at HLS
          have hsw := fun w1 (hB1 : Below wc.heap.size wc w1) => q_swap B w1 g cap l' (ownsRow_below hrw hB1) (by omega) hpl hkl (by omega)
          rw [HR.out.1.len] at hsw
          have HSW := hide hsw
          clear hsw hrw
          go_wp2_with (first | (go_at_call 292; refine HLS.out.mono ?_; rintro e w1 ⟨rfl, hB1⟩; have hm2 := meth_swap qb w1 (HR.out.1.later hB1).q.cell; have HB1 := hide hB1; clear hB1) | (go_at_call 295; refine (HSW.out w1 HB1.out).mono ?_; rintro e w2 ⟨rfl, hr2, ht2⟩; have HR2 := hide (⟨hr2, ht2⟩ : _ ∧ _); clear hr2 ht2))
          have hQ := (HR.out.1.later HB1.out).swap hpl hkl HR2.out.1 HR2.out.2
          have hU : UpF wLt (vw dWt (swapL l' m k hpl hkl)) l.length m := by
            have a := HR.out.2.step wLt_ord (by omega) (by have := HN.out; omega) (by rw [← hup]; exact hb)
            rw [HM.out] at a
            have e := vw_swap dWt l' hpl hkl
            unfold swapL
            rw [e]
            exact a
          exact ⟨⟨m, swapL l' m k hpl hkl, by omega, rfl, hQ, hU⟩, by simp only [intOf]; omega⟩
end Go.Proofs.YtiplgdkpnhamaaaGreatDoor

namespace Go.Proofs.YtiplgdkpnhamaaaGreatDoor.Tv
open Go.RowKit
set_option maxRecDepth 100000 in
set_option maxHeartbeats 4000000 in
theorem writer_bad {xq : DX} {w : World} {p : Nat → Own} {b n i : Nat} {d : DRep} {sb : Nat} {st : St} {sl tbs mbs : Nat → Nat} {hv kn : List Value} (h : RepP xq w p b n i d sb st sl tbs mbs hv kn) (tx th : Int) (key val : ByteArray) (hks : key.size ≤ maxLen) (hbad : ¬ werr (opnAt d tx) th key val = 0) :
    Calls Tryz.prog 64 #[bptr b, .int .i64 tx, .int .u8 th, .string key, .string val] w fun e w' => e = .returned (.tuple #[.pointer none, .int .i64 (werr (opnAt d tx) th key val)]) ∧ w' = w := by
  have hth := fun W => thing_any key W hks
  have HTH := hide hth
  clear hth
  cases ho : opnAt d tx with
  | none =>
    have hf := h.find_none ho
    have HF := hide hf
    have ea : werr none th key val = 4 := rfl
    rw [ea]
    clear hf h ho ea hbad
    go_enter Tryz.func64, Tryz.ntmps64
    go_wp2_with (first | (go_at_call 60; refine HF.out.mono ?_; rintro e w1 ⟨rfl, rfl⟩))
    go_ret2
    exact ⟨rfl, rfl⟩
  | some t =>
    obtain ⟨k, rfl, hk, hok, hf⟩ := h.find_some ho
    rw [ho] at hbad
    have HF := hide hf
    by_cases c1 : kindOf key = th
    · have c2 : 8 < val.size := by
        by_cases c : 8 < val.size
        · exact c
        · exact absurd (by unfold werr; simp [c1, c]) hbad
      have ea : werr (some t) th key val = 3 := by unfold werr; simp [c1, c2]
      rw [ea]
      rw [c1] at HTH
      clear hf h ho ea hok hbad c1
      go_enter Tryz.func64, Tryz.ntmps64
      go_wp2_with (first | (go_at_call 60; refine HF.out.mono ?_; rintro e w1 ⟨rfl, rfl⟩) | (go_at_call 61; refine (HTH.out _).mono ?_; rintro e w1 ⟨rfl, rfl⟩))
      go_ret2
      exact ⟨rfl, rfl⟩
    · have ea : werr (some t) th key val = 2 := by unfold werr; simp [c1]
      rw [ea]
      clear hf h ho ea hok hbad
      go_enter Tryz.func64, Tryz.ntmps64
      go_wp2_with (first | (go_at_call 60; refine HF.out.mono ?_; rintro e w1 ⟨rfl, rfl⟩) | (go_at_call 61; refine (HTH.out _).mono ?_; rintro e w1 ⟨rfl, rfl⟩))
      go_ret2
      exact ⟨rfl, rfl⟩
set_option maxRecDepth 100000 in
set_option maxHeartbeats 4000000 in
theorem writer_ok {xq : DX} {w : World} {p : Nat → Own} {b n i : Nat} {d : DRep} {sb : Nat} {st : St} {sl tbs mbs : Nat → Nat} {hv kn : List Value} (h : RepP xq w p b n i d sb st sl tbs mbs hv kn) (tx th : Int) (key val : ByteArray) (hks : key.size ≤ maxLen) (hgood : werr (opnAt d tx) th key val = 0) :
    ∃ (k : Nat) (t : RTx), tx = k ∧ d.opn k = some t ∧ opnAt d tx = some t ∧ kindOf key = th ∧ val.size ≤ 8 ∧ Calls Tryz.prog 64 #[bptr b, .int .i64 tx, .int .u8 th, .string key, .string val] w fun e w' => e = .returned (.tuple #[bptr (tbs k), .int .i64 0]) ∧ w' = w := by
  cases ho : opnAt d tx with
  | none => rw [ho] at hgood; cases hgood
  | some t =>
    rw [ho] at hgood
    unfold werr at hgood
    simp only at hgood
    have c1 : kindOf key = th := by
      by_cases c : kindOf key = th
      · exact c
      · rw [if_pos c] at hgood; cases hgood
    rw [if_neg (by simp [c1])] at hgood
    have c2 : ¬ 8 < val.size := fun c => by rw [if_pos c] at hgood; cases hgood
    obtain ⟨k, rfl, hk, hok, hf⟩ := h.find_some ho
    refine ⟨k, t, rfl, hok, rfl, c1, by omega, ?_⟩
    have hth := fun W => thing_any key W hks
    rw [c1] at hth
    have HTH := hide hth
    have HF := hide hf
    clear hth hf hgood h ho hok c1
    go_enter Tryz.func64, Tryz.ntmps64
    go_wp2_with (first | (go_at_call 60; refine HF.out.mono ?_; rintro e w1 ⟨rfl, rfl⟩) | (go_at_call 61; refine (HTH.out _).mono ?_; rintro e w1 ⟨rfl, rfl⟩))
    go_ret2
    exact ⟨rfl, rfl⟩
set_option maxRecDepth 100000 in
set_option maxHeartbeats 4000000 in
theorem write_call {xq : DX} {w : World} {p : Nat → Own} {b n i : Nat} {d : DRep} (h : RepIn xq w p b n i d) (tx : Int) (o : ROp) (hkd : o.kind = 2) (hks : o.key.size ≤ maxLen) (_ : o.value.size ≤ maxLen) :
    Calls Tryz.prog 30 #[bptr b, .int .i64 tx, .string o.key, .string o.value] w fun e w' => e = .returned (.int .i64 (doesErr (opnAt d tx) o)) ∧ ∃ p', RepIn xq w' p' b n i (doesD d tx o) ∧ QT notOther w p w' p' := by
  obtain ⟨sb, st, sl, tbs, mbs, hv, kn, h⟩ := h
  have hk1 : ¬ o.kind = 1 := by omega
  have kb : kindByte o.kind = 114 := by rw [hkd]; rfl
  by_cases hg : werr (opnAt d tx) 114 o.key o.value = 0
  · obtain ⟨k, t, rfl, hok, ho, c1, c2, hw⟩ := writer_ok h tx 114 o.key o.value hks hg
    obtain ⟨ea, ed⟩ := does_wrote ho hk1 (by rw [kb]; exact hg)
    rw [ea, ed]
    have hop : OpOk o := ⟨Or.inr (Or.inl hkd), by rw [kb]; exact c1⟩
    have hcl1 := fun W => clone_any o.key (by have := key_small hop; omega) W
    have hcl2 := fun W => clone_any o.value (by omega) W
    have hwr : ∀ W, Below w.heap.size w W → Calls Tryz.prog 62 #[bptr (tbs k), .agg #[.string o.key, .string ⟨#[]⟩], .agg #[.int .i64 1, .int .i64 0, .string o.value]] W fun e w' => e = .returned (.int .i64 (if 16 ≤ t.ops.length then 5 else 0)) ∧ ∃ p', RepIn xq w' p' b n i (wroteD d k t o) ∧ QT notOther w p w' p' := fun W hB => by
      have a := write_after h hok hop (fun _ => c2) (fun e => absurd e hk1) hB
      have e1 : (plOf o).val = .agg #[.string o.key, .string ⟨#[]⟩] := by unfold plOf; rw [if_pos (Or.inr hkd)]; rfl
      have e2 : (wrOf o).val = .agg #[.int .i64 1, .int .i64 0, .string o.value] := by unfold wrOf; rw [if_neg hk1, if_pos hkd]
      rw [e1, e2] at a
      exact a
    obtain ⟨er, her⟩ : ∃ er : Int, (if 16 ≤ t.ops.length then 5 else 0) = er := ⟨_, rfl⟩
    rw [her] at hwr ⊢
    have HW := hide hw
    have HC1 := hide hcl1
    have HC2 := hide hcl2
    have HWR := hide hwr
    clear h hg hok ho c1 c2 hw ea ed hop hcl1 hcl2 hwr her
    go_enter Tryz.func30, Tryz.ntmps30
    go_wp2_with (first | (go_at_call 64; refine HW.out.mono ?_; rintro e w1 ⟨rfl, rfl⟩))
    refine (HC1.out _).mono ?_
    rintro e w2 ⟨rfl, hB2⟩
    go_wp2_with fail
    refine (HC2.out _).mono ?_
    rintro e w3 ⟨rfl, hB3⟩
    have hB := hB2.trans (hB3.mono hB2.size)
    clear hB2 hB3
    go_wp2_with fail
    refine (HWR.out _ hB).mono ?_
    rintro e w4 ⟨rfl, hpost⟩
    have HP := hide hpost
    clear hpost
    go_wp2_with fail
    go_ret
    exact ⟨rfl, HP.out⟩
  · have hw := writer_bad h tx 114 o.key o.value hks hg
    obtain ⟨ea, ed⟩ := does_bad (d := d) (tx := tx) hk1 (by rw [kb]; exact hg)
    rw [ea, ed, kb]
    obtain ⟨er, her⟩ : ∃ er : Int, werr (opnAt d tx) 114 o.key o.value = er := ⟨_, rfl⟩
    rw [her] at hw hg ⊢
    have hne : (er != 0) = true := by simpa using hg
    have HW := hide hw
    have HH := hide h
    clear h hg ea ed hw her
    go_enter Tryz.func30, Tryz.ntmps30
    go_wp2_with (first | (go_at_call 64; refine HW.out.mono ?_; rintro e w1 ⟨rfl, rfl⟩))
    go_ret
    exact ⟨rfl, p, ⟨sb, st, sl, tbs, mbs, hv, kn, HH.out⟩, QT.refl _ _ _⟩
set_option maxRecDepth 100000 in
set_option maxHeartbeats 4000000 in
theorem change_call {xq : DX} {w : World} {p : Nat → Own} {b n i : Nat} {d : DRep} (h : RepIn xq w p b n i d) (tx : Int) (o : ROp) (kd : Int) (hkd : (o.kind = 3 ∧ kd = 2) ∨ (o.kind = 4 ∧ kd = 3)) (hks : o.key.size ≤ maxLen) (_ : o.value.size ≤ maxLen) :
    Calls Tryz.prog 73 #[bptr b, .int .i64 tx, .string o.key, .string o.value, .int .i64 kd] w fun e w' => e = .returned (.int .i64 (doesErr (opnAt d tx) o)) ∧ ∃ p', RepIn xq w' p' b n i (doesD d tx o) ∧ QT notOther w p w' p' := by
  obtain ⟨sb, st, sl, tbs, mbs, hv, kn, h⟩ := h
  have hk1 : ¬ o.kind = 1 := by omega
  have hk2 : ¬ o.kind = 2 := by omega
  have kb : kindByte o.kind = 115 := by unfold kindByte; rw [if_neg hk1, if_neg hk2]
  by_cases hg : werr (opnAt d tx) 115 o.key o.value = 0
  · obtain ⟨k, t, rfl, hok, ho, c1, c2, hw⟩ := writer_ok h tx 115 o.key o.value hks hg
    obtain ⟨ea, ed⟩ := does_wrote ho hk1 (by rw [kb]; exact hg)
    rw [ea, ed]
    have hop : OpOk o := ⟨by omega, by rw [kb]; exact c1⟩
    have hcl1 := fun W => clone_any o.key (by have := key_small hop; omega) W
    have hcl2 := fun W => clone_any o.value (by omega) W
    have hwr : ∀ W, Below w.heap.size w W → Calls Tryz.prog 62 #[bptr (tbs k), .agg #[.string o.key, .string o.value], .agg #[.int .i64 kd, .int .i64 0, .string ⟨#[]⟩]] W fun e w' => e = .returned (.int .i64 (if 16 ≤ t.ops.length then 5 else 0)) ∧ ∃ p', RepIn xq w' p' b n i (wroteD d k t o) ∧ QT notOther w p w' p' := fun W hB => by
      have a := write_after h hok hop (fun _ => c2) (fun e => absurd e hk1) hB
      have e1 : (plOf o).val = .agg #[.string o.key, .string o.value] := by unfold plOf; rw [if_neg (by omega)]; rfl
      have e2 : (wrOf o).val = .agg #[.int .i64 kd, .int .i64 0, .string ⟨#[]⟩] := by
        unfold wrOf; rw [if_neg hk1, if_neg hk2]
        rcases hkd with ⟨c, rfl⟩ | ⟨c, rfl⟩
        · rw [if_pos c]
        · rw [if_neg (by omega)]
      rw [e1, e2] at a
      exact a
    obtain ⟨er, her⟩ : ∃ er : Int, (if 16 ≤ t.ops.length then 5 else 0) = er := ⟨_, rfl⟩
    rw [her] at hwr ⊢
    have HW := hide hw
    have HC1 := hide hcl1
    have HC2 := hide hcl2
    have HWR := hide hwr
    clear h hg hok ho c1 c2 hw ea ed hop hcl1 hcl2 hwr her hkd
    go_enter Tryz.func73, Tryz.ntmps73
    go_wp2_with (first | (go_at_call 64; refine HW.out.mono ?_; rintro e w1 ⟨rfl, rfl⟩))
    refine (HC1.out _).mono ?_
    rintro e w2 ⟨rfl, hB2⟩
    go_wp2_with fail
    refine (HC2.out _).mono ?_
    rintro e w3 ⟨rfl, hB3⟩
    have hB := hB2.trans (hB3.mono hB2.size)
    clear hB2 hB3
    go_wp2_with fail
    refine (HWR.out _ hB).mono ?_
    rintro e w4 ⟨rfl, hpost⟩
    have HP := hide hpost
    clear hpost
    go_wp2_with fail
    go_ret
    exact ⟨rfl, HP.out⟩
  · have hw := writer_bad h tx 115 o.key o.value hks hg
    obtain ⟨ea, ed⟩ := does_bad (d := d) (tx := tx) hk1 (by rw [kb]; exact hg)
    rw [ea, ed, kb]
    obtain ⟨er, her⟩ : ∃ er : Int, werr (opnAt d tx) 115 o.key o.value = er := ⟨_, rfl⟩
    rw [her] at hw hg ⊢
    have hne : (er != 0) = true := by simpa using hg
    have HW := hide hw
    have HH := hide h
    clear h hg ea ed hw her hkd
    go_enter Tryz.func73, Tryz.ntmps73
    go_wp2_with (first | (go_at_call 64; refine HW.out.mono ?_; rintro e w1 ⟨rfl, rfl⟩))
    go_ret
    exact ⟨rfl, p, ⟨sb, st, sl, tbs, mbs, hv, kn, HH.out⟩, QT.refl _ _ _⟩
set_option maxRecDepth 100000 in
theorem insert_call {xq : DX} {w : World} {p : Nat → Own} {b n i : Nat} {d : DRep} (h : RepIn xq w p b n i d) (tx : Int) (o : ROp) (hkd : o.kind = 3) (hks : o.key.size ≤ maxLen) (hvs : o.value.size ≤ maxLen) :
    Calls Tryz.prog 38 #[bptr b, .int .i64 tx, .string o.key, .string o.value] w fun e w' => e = .returned (.int .i64 (doesErr (opnAt d tx) o)) ∧ ∃ p', RepIn xq w' p' b n i (doesD d tx o) ∧ QT notOther w p w' p' := by
  have HC := hide (change_call h tx o 2 (Or.inl ⟨hkd, rfl⟩) hks hvs)
  clear h
  obtain ⟨er, her⟩ : ∃ er, doesErr (opnAt d tx) o = er := ⟨_, rfl⟩
  unfold Hid at HC
  rw [her] at HC ⊢
  have HC' := hide HC
  clear HC her
  go_enter Tryz.func38, Tryz.ntmps38
  go_wp2_with fail
  refine HC'.out.mono ?_
  rintro e w4 ⟨rfl, hpost⟩
  have HP := hide hpost
  clear hpost
  go_wp2_with fail
  go_ret
  exact ⟨rfl, HP.out⟩
set_option maxRecDepth 100000 in
theorem remove_call {xq : DX} {w : World} {p : Nat → Own} {b n i : Nat} {d : DRep} (h : RepIn xq w p b n i d) (tx : Int) (o : ROp) (hkd : o.kind = 4) (hks : o.key.size ≤ maxLen) (hvs : o.value.size ≤ maxLen) :
    Calls Tryz.prog 44 #[bptr b, .int .i64 tx, .string o.key, .string o.value] w fun e w' => e = .returned (.int .i64 (doesErr (opnAt d tx) o)) ∧ ∃ p', RepIn xq w' p' b n i (doesD d tx o) ∧ QT notOther w p w' p' := by
  have HC := hide (change_call h tx o 3 (Or.inr ⟨hkd, rfl⟩) hks hvs)
  clear h
  obtain ⟨er, her⟩ : ∃ er, doesErr (opnAt d tx) o = er := ⟨_, rfl⟩
  unfold Hid at HC
  rw [her] at HC ⊢
  have HC' := hide HC
  clear HC her
  go_enter Tryz.func44, Tryz.ntmps44
  go_wp2_with fail
  refine HC'.out.mono ?_
  rintro e w4 ⟨rfl, hpost⟩
  have HP := hide hpost
  clear hpost
  go_wp2_with fail
  go_ret
  exact ⟨rfl, HP.out⟩
end Go.Proofs.YtiplgdkpnhamaaaGreatDoor.Tv

namespace Go.Proofs.YtiplgdkpnhamaaaGreatDoor
open Go.RowKit Go.Sort
theorem QPerm.row {B : Nat} {w : World} {qb g cap : Nat} {l l' : List Wt} {wr : World} (h : QPerm B w qb g cap l l' wr) : QRow B wr (.slice (some ⟨g, 0, none⟩) l'.length cap) l' := by have := h.q.row; rw [← h.len] at this; exact this
theorem QPerm.less {B : Nat} {w : World} {qb g cap : Nat} {l l' : List Wt} {wr : World} (h : QPerm B w qb g cap l l' wr) (hl : l.length ≤ 100000000) {i j : Nat} (hi : i < l'.length) (hj : j < l'.length) :
    Calls Tryz.prog 292 #[.slice (some ⟨g, 0, none⟩) l.length cap, .int .i64 i, .int .i64 j] wr fun e w' => e = .returned (.bool (wLt (vw dWt l' i) (vw dWt l' j))) ∧ Below wr.heap.size wr w' := by
  have a := q_less B wr g cap l' h.row (by rw [h.len]; exact hl) hi hj
  rw [h.len] at a
  rw [vw_get hi, vw_get hj]
  exact a
theorem QPerm.swp {B : Nat} {w : World} {qb g cap : Nat} {l l' : List Wt} {wr : World} (h : QPerm B w qb g cap l l' wr) (hl : l.length ≤ 100000000) {i j : Nat} (hi : i < l'.length) (hj : j < l'.length) (hij : i ≠ j) :
    Calls Tryz.prog 295 #[.slice (some ⟨g, 0, none⟩) l.length cap, .int .i64 i, .int .i64 j] wr fun e w' => e = .returned (.tuple #[]) ∧ QPerm B w qb g cap l (swapL l' i j hi hj) w' := by
  have a := q_swap B wr g cap l' h.row (by rw [h.len]; exact hl) hi hj hij
  rw [h.len] at a
  refine a.mono ?_
  rintro e w' ⟨rfl, h1, h2⟩
  exact ⟨rfl, h.swap hi hj h1 h2⟩
structure Least (l : List Wt) (n i j : Nat) : Prop where
  lt : j < n
  pos : 1 ≤ j
  par : par j = i
  min : ∀ k, 1 ≤ k → k < n → Go.Proofs.YtiplgdkpnhamaaaGreatDoor.par k = i → wLt (vw dWt l k) (vw dWt l j) = false
theorem kid_is {i k : Nat} (h1 : 1 ≤ k) (h : par k = i) : k = 2 * i + 1 ∨ k = 2 * i + 2 := by unfold par at h; omega
structure DownAt (B : Nat) (w : World) (qb g cap : Nat) (l : List Wt) (n : Nat) (l' : List Wt) (i : Nat) (wr : World) : Prop where
  q : QPerm B w qb g cap l l' wr
  d : DownF wLt (vw dWt l') n i
  bey : ∀ k, n ≤ k → vw dWt l' k = vw dWt l k
theorem DownAt.later {B : Nat} {w : World} {qb g cap : Nat} {l : List Wt} {n : Nat} {l' : List Wt} {i : Nat} {wr w' : World} (h : DownAt B w qb g cap l n l' i wr) (hb : Below wr.heap.size wr w') : DownAt B w qb g cap l n l' i w' := ⟨h.q.later hb, h.d, h.bey⟩
def DownPost (B : Nat) (w : World) (qb g cap : Nat) (l : List Wt) (n : Nat) (e : Ending) (w' : World) : Prop := (∃ b, e = .returned (.bool b)) ∧ ∃ l', QPerm B w qb g cap l l' w' ∧ HeapF wLt (vw dWt l') n ∧ ∀ k, n ≤ k → vw dWt l' k = vw dWt l k
set_option maxRecDepth 100000 in
set_option maxHeartbeats 2000000 in
theorem heap_down (B : Nat) (w : World) (qb g cap : Nat) (l : List Wt) (hq : QIn B w qb (.slice (some ⟨g, 0, none⟩) l.length cap) l) (hl : l.length ≤ 100000000) {n : Nat} (hn : n ≤ l.length) (hd : DownF wLt (vw dWt l) n 0) :
    Calls Tryz.prog 173 #[qIface qb, .int .i64 0, .int .i64 n] w (DownPost B w qb g cap l n) := by
  have H0 : DownAt B w qb g cap l n l 0 w := ⟨⟨rfl, List.Perm.refl _, hq, Touch.refl _ _⟩, hd, fun _ _ => rfl⟩
  have HL := hide (⟨hn, hl⟩ : _ ∧ _)
  have hn8 : n ≤ 100000000 := by omega
  clear hq hd hl hn
  go_enter Tryz.func173, Tryz.ntmps173
  go_wp2
  go_loopw [7] (fun iv wr => ∃ (i : Nat) (l' : List Wt), i ≤ n ∧ iv = .int .i64 i ∧ Hid (DownAt B w qb g cap l n l' i wr)) (fun iv _ => n - (intOf iv).toNat)
  case atStart => exact ⟨0, l, Nat.zero_le _, rfl, H0⟩
  case round =>
    obtain ⟨i, l', hin, rfl, HR⟩ := hrel
    by_cases hA : n ≤ 2 * i + 1
    · go_wp2_with fail
      go_ret
      exact ⟨⟨_, rfl⟩, l', HR.out.q, HR.out.d.leaf (by omega), HR.out.bey⟩
    · have hll : l'.length = l.length := HR.out.q.len
      have hnl := HL.out.1
      have h1l : 2 * i + 1 < l'.length := by omega
      have hil : i < l'.length := by omega
      obtain ⟨j1, hj1⟩ : ∃ j1 : Nat, 2 * i + 1 = j1 := ⟨_, rfl⟩
      have ej1 : (2 : Int) * i + 1 = (j1 : Nat) := by omega
      rw [hj1] at hA h1l
      have H1 := hide hj1
      have hA' : j1 < n := by omega
      clear hA hj1 hnl
      go_upto_region 4 with (fail)
      go_cut [9] (fun jv wc => jv = .int .i64 j1 ∧ wc = wr)
      case first =>
        go_wp2_with fail
        go_meet
        exact ⟨rfl, rfl⟩
      case rest =>
        obtain ⟨rfl, rfl⟩ := hcut
        apply_assumption
        apply wp_seq_k
        intro _ _
        go_cut [9] (fun jv w2 => ∃ j : Nat, jv = .int .i64 j ∧ Hid (Least l' n i j ∧ Below wc.heap.size wc w2))
        case first =>
          obtain ⟨j2, hj2⟩ : ∃ j2 : Nat, j1 + 1 = j2 := ⟨_, rfl⟩
          have ej2 : (j1 : Int) + 1 = (j2 : Nat) := by omega
          have h1 := H1.out
          have hp1 : par j1 = i := by unfold par; omega
          have hp2 : par j2 = i := by unfold par; omega
          by_cases hB : j2 < n
          · have hm1 := meth_less qb wc HR.out.q.q.cell
            have hls := HR.out.q.less HL.out.2 (i := j2) (j := j1) (by have := HL.out.1; omega) h1l
            have HLS := hide hls
            have HJ := hide (⟨hj2, h1, hp1, hp2⟩ : _ ∧ _ ∧ _ ∧ _)
            clear hls hj2 h1 hp1 hp2 ej1
            cases hb : wLt (vw dWt l' j2) (vw dWt l' j1) with
            | true =>
              rw [hb] at HLS
              have HBB := hide hb
              clear hb
              go_wp2_with (go_at_call 292; refine HLS.out.mono ?_; rintro e w1 ⟨rfl, hB1⟩; have HB1 := hide hB1; clear hB1)
              go_meet
              obtain ⟨hj2, h1, hp1, hp2⟩ := HJ.out
              refine ⟨j2, rfl, ⟨hB, by omega, hp2, fun k k1 k2 k3 => ?_⟩, HB1.out⟩
              rcases kid_is k1 k3 with c | c
              · rw [show k = j1 by omega]; exact wLt_ord.tot _ _ HBB.out
              · rw [show k = j2 by omega]; exact wLt_ord.irr _
            | false =>
              rw [hb] at HLS
              have HBB := hide hb
              clear hb
              go_wp2_with (go_at_call 292; refine HLS.out.mono ?_; rintro e w1 ⟨rfl, hB1⟩; have HB1 := hide hB1; clear hB1)
              go_meet
              obtain ⟨hj2, h1, hp1, hp2⟩ := HJ.out
              refine ⟨j1, rfl, ⟨hA', by omega, hp1, fun k k1 k2 k3 => ?_⟩, HB1.out⟩
              rcases kid_is k1 k3 with c | c
              · rw [show k = j1 by omega]; exact wLt_ord.irr _
              · rw [show k = j2 by omega]; exact HBB.out
          · have HJ := hide (⟨hj2, h1, hp1⟩ : _ ∧ _ ∧ _)
            clear hj2 h1 hp1 hp2 ej1
            go_wp2_with fail
            go_meet
            obtain ⟨hj2, h1, hp1⟩ := HJ.out
            refine ⟨j1, rfl, ⟨hA', by omega, hp1, fun k k1 k2 k3 => ?_⟩, Below.refl _ _⟩
            rcases kid_is k1 k3 with c | c
            · rw [show k = j1 by omega]; exact wLt_ord.irr _
            · omega
        case rest =>
          obtain ⟨j, rfl, HJ⟩ := hcut
          have hR2 := HR.out.later HJ.out.2
          have hjl : j < l'.length := by have := HJ.out.1.lt; have := HL.out.1; omega
          have hjn := HJ.out.1.lt
          have hij : i ≠ j := fun c => by have h2 := HJ.out.1.par; have h3 := HJ.out.1.pos; unfold par at h2; omega
          have hm1 := meth_less qb _ hR2.q.q.cell
          have hls := hR2.q.less HL.out.2 hjl hil
          have HLS := hide hls
          have HR2 := hide hR2
          clear hls hR2 ej1
          cases hb : wLt (vw dWt l' j) (vw dWt l' i) with
          | false =>
            rw [hb] at HLS
            have HBB := hide hb
            clear hb
            go_wp2_with (go_at_call 292; refine HLS.out.mono ?_; rintro e w1 ⟨rfl, hB1⟩; have HB1 := hide hB1; clear hB1)
            go_ret
            exact ⟨⟨_, rfl⟩, l', HR2.out.q.later HB1.out, HR2.out.d.done wLt_ord HBB.out HJ.out.1.min, HR2.out.bey⟩
          | true =>
            rw [hb] at HLS
            have HBB := hide hb
            clear hb
            have HSW : Hid (∀ w1, Below _ _ w1 → _) := fun w1 hB1 => (HR2.out.later hB1).q.swp HL.out.2 hil hjl hij
            go_wp2_with (first | (go_at_call 292; refine HLS.out.mono ?_; rintro e w1 ⟨rfl, hB1⟩; have hm2 := meth_swap qb w1 (HR2.out.later hB1).q.q.cell; have HB1 := hide hB1; clear hB1) | (go_at_call 295; refine (HSW.out w1 HB1.out).mono ?_; rintro e w3 ⟨rfl, hQ3⟩; have HQ3 := hide hQ3; clear hQ3))
            have hlt : i < j := by have h2 := HJ.out.1.par; have h3 := HJ.out.1.pos; unfold par at h2; omega
            have hD : DownF wLt (vw dWt (swapL l' i j hil hjl)) n j := by
              have a := HR2.out.d.step wLt_ord HJ.out.1.pos HJ.out.1.lt HJ.out.1.par HBB.out HJ.out.1.min
              have e := vw_swap dWt l' hil hjl
              unfold swapL
              rw [e]
              exact a
            have hE : ∀ k, n ≤ k → vw dWt (swapL l' i j hil hjl) k = vw dWt l k := fun k hk => by
              have e := vw_swap dWt l' hil hjl
              unfold swapL
              rw [e, ← HR2.out.bey k hk]
              unfold sw
              rw [if_neg (by omega), if_neg (by omega)]
            exact ⟨⟨j, swapL l' i j hil hjl, by omega, rfl, ⟨HQ3.out, hD, hE⟩⟩, by simp only [intOf]; omega⟩
end Go.Proofs.YtiplgdkpnhamaaaGreatDoor

namespace Go.Proofs.YtiplgdkpnhamaaaGreatDoor.Tv
open Go.RowKit
def HeldPost (w : World) (p : Nat → Own) (b r m : Nat) (cs xs ys : List Value) (w' : World) : Prop :=
  ∃ p' v', Qb w' p' .rep b (cs.set (3 + r) v') 114 ∧ Qc w' p' (.held r) 139 8 v' (m + 1) (xs ++ ys) ∧ QT (fun u => u = .rep ∨ u = .held r) w p w' p'
set_option maxRecDepth 100000 in
set_option maxHeartbeats 16000000 in
theorem held_add {w : World} {p : Nat → Own} {b r m : Nat} {cs : List Value} {v : Value} {xs : List Value} (hB : Qb w p .rep b cs 114) (hc : w.cell? ⟨b, 3 + r, none⟩ = some v) (hr : r < 5) (hrow : Qc w p (.held r) 139 8 v m xs) (hm : m ≤ 2000000) (seq a b2 c d e : Int) (mb : Nat) :
    Calls Tryz.prog 106 #[.pointer (some ⟨b, 3, none⟩), .agg #[.int .i64 r, .int .i64 seq, .int .i64 a, .int .i64 b2, .int .i64 c, .int .i64 d, .int .i64 e, .map (some mb)]] w fun e' w' => e' = .returned (.tuple #[]) ∧ HeldPost w p b r m cs xs [.int .i64 r, .int .i64 seq, .int .i64 a, .int .i64 b2, .int .i64 c, .int .i64 d, .int .i64 e, .map (some mb)] w' := by
  obtain ⟨i0, hi, hz0, hz1, hz2⟩ := info_parts Tryz.infoTrx
  have HI := hide (⟨hi, hz0, hz1, hz2⟩ : _ ∧ _ ∧ _ ∧ _)
  clear hi hz0 hz1 hz2
  generalize hW0 : w.alloc (.cells #[.int .i64 r, .int .i64 seq, .int .i64 a, .int .i64 b2, .int .i64 c, .int .i64 d, .int .i64 e, .map (some mb)] 139) = W0
  have hB0 : Below w.heap.size w W0 := by rw [← hW0]; exact (Below.refl _ _).alloc (Nat.le_refl _) _
  have bx : Blk W0 w.heap.size [.int .i64 r, .int .i64 seq, .int .i64 a, .int .i64 b2, .int .i64 c, .int .i64 d, .int .i64 e, .map (some mb)] 139 := by rw [← hW0]; exact heap_alloc_new w _
  have x0 : W0.cell? ⟨w.heap.size, 0, none⟩ = some (.int .i64 r) := bx.cell 0
  have x1 : W0.cell? ⟨w.heap.size, 1, none⟩ = some (.int .i64 seq) := bx.cell 1
  have x2 : W0.cell? ⟨w.heap.size, 2, none⟩ = some (.int .i64 a) := bx.cell 2
  have x3 : W0.cell? ⟨w.heap.size, 3, none⟩ = some (.int .i64 b2) := bx.cell 3
  have x4 : W0.cell? ⟨w.heap.size, 4, none⟩ = some (.int .i64 c) := bx.cell 4
  have x5 : W0.cell? ⟨w.heap.size, 5, none⟩ = some (.int .i64 d) := bx.cell 5
  have x6 : W0.cell? ⟨w.heap.size, 6, none⟩ = some (.int .i64 e) := bx.cell 6
  have x7 : W0.cell? ⟨w.heap.size, 7, none⟩ = some (.map (some mb)) := bx.cell 7
  have hc0 : W0.cell? ⟨b, 3 + r, none⟩ = some v := cell_later hB0 hc
  have bB0 := hB.below hB0
  have hrow0 := hrow.below hB0
  have hl : w.heap.size < W0.heap.size := bx.lt
  have hbl : b < W0.heap.size := bB0.blk.lt
  have e1 : ¬ (r : Int) < 0 := by omega
  have e2 : (r : Int) < 5 := by omega
  obtain ⟨ao, cap, hsh, hcap, hmx, -⟩ := hrow.row.shape
  subst hsh
  have htag : ∀ q, (Value.slice ao m cap).ownBlock = some q → p q = .held r := hrow.tag
  have hne : ¬ (Value.slice ao m cap).ownBlock = some b := fun e => by have := htag b e; rw [hB.tag] at this; cases this
  have hlt : ∀ q, (Value.slice ao m cap).ownBlock = some q → q < w.heap.size := fun q hq => hrow.lt hq
  have hW8 : Blk (W0.alloc (.cells #[.int .i64 r, .int .i64 seq, .int .i64 a, .int .i64 b2, .int .i64 c, .int .i64 d, .int .i64 e, .map (some mb)] 139)).drew W0.heap.size [.int .i64 r, .int .i64 seq, .int .i64 a, .int .i64 b2, .int .i64 c, .int .i64 d, .int .i64 e, .map (some mb)] 139 := heap_alloc_new W0 _
  have HNEW := hide (news_at hW8)
  have HK : Hid (∀ w5, (W0.alloc (.cells #[.int .i64 r, .int .i64 seq, .int .i64 a, .int .i64 b2, .int .i64 c, .int .i64 d, .int .i64 e, .map (some mb)] 139)).drew.grownBy w5 (Value.slice ao m cap).ownBlock → w5.cell? ⟨b, 3 + r, none⟩ = some (.slice ao m cap) ∧ w5.frozen? ⟨b, 3 + r, none⟩ = false ∧ b < w5.heap.size ∧ w5.cell? ⟨w.heap.size, 0, none⟩ = some (.int .i64 r) ∧ w.heap.size < w5.heap.size) := fun w5 g => by
    have g' : ∀ q, q < W0.heap.size → ¬ (Value.slice ao m cap).ownBlock = some q → w5.heap[q]? = W0.heap[q]? := fun q hq hn => (g.block q (by show q < (W0.alloc _).heap.size; simp; omega) (fun e => hn e.symm)).trans (Below.heap_alloc _ _ _ hq)
    have b5 : Blk w5 b cs 114 := bB0.blk.move (g' b hbl hne)
    have x5' : Blk w5 w.heap.size _ 139 := bx.move (g' _ hl (fun e => by have := hlt _ e; omega))
    exact ⟨cell_blk (g' b hbl hne) hc0, b5.frozen _, b5.lt, x5'.cell 0, x5'.lt⟩
  have HH := hide (⟨hB, hrow, hB0, bB0, hrow0, htag⟩ : _ ∧ _ ∧ _ ∧ _ ∧ _ ∧ _)
  have HW0 := hide hW0
  have HM := hide hm
  clear hB hrow hB0 bB0 hrow0 hW0 hW8 bx hc htag hne hlt hm hcap hmx
  go_enter Tryz.func106, Tryz.ntmps106
  go_upto_region 1 with (fail)
  rw [HW0.out]
  go_region_law (refine step_append_own rfl _ _ 106 rfl 139 i0 (.agg #[.int .i64 0, .int .i64 0, .int .i64 0, .int .i64 0, .int .i64 0, .int .i64 0, .int .i64 0, .map none]) 8 64 Tryz.underlying106 HI.out.1 HI.out.2.1 HI.out.2.2.1 HI.out.2.2.2 rfl (by decide) (.slice ao m cap) m xs (by simp [Act.eval]) (by exact World.ownsRow.alloc HH.out.2.2.2.2.1.row _) ⟨W0.heap.size, 0, none⟩ 1 1 [.int .i64 r, .int .i64 seq, .int .i64 a, .int .i64 b2, .int .i64 c, .int .i64 d, .int .i64 e, .map (some mb)] (by simp [Act.eval]) rfl (by exact HNEW.out) (by intro u hu; simp at hu; rcases hu with rfl | rfl | rfl | rfl | rfl | rfl | rfl | rfl <;> rfl) (by have := HM.out; unfold maxLen; omega) (by have := HM.out; omega) ?_; intro v5 w5 r1 r2 r3; obtain ⟨k1, k2, k3, k4, k5⟩ := HK.out w5 r2; obtain ⟨g5, cap5, rfl, -, -, -, -, -⟩ := Row.pos r1 (by omega); have HR5 := hide (⟨r1, r2, r3⟩ : _ ∧ _ ∧ _); clear r1 r2 r3)
  all_goals go_wp2_with fail
  all_goals
    go_end0
    obtain ⟨r1, r2, r3⟩ := HR5.out
    obtain ⟨hB, hrow, hB0, bB0, hrow0, htag⟩ := HH.out
    have r2' : (W0.alloc (.cells #[.int .i64 r, .int .i64 seq, .int .i64 a, .int .i64 b2, .int .i64 c, .int .i64 d, .int .i64 e, .map (some mb)] 139)).grownBy w5 (Value.slice ao m cap).ownBlock := ⟨r2.os, r2.tape, r2.output, r2.size, r2.block⟩
    have k5' := (bB0.alloc (.cells #[.int .i64 r, .int .i64 seq, .int .i64 a, .int .i64 b2, .int .i64 c, .int .i64 d, .int .i64 e, .map (some mb)] 139)).grew r2' htag (by simp)
    have q1 := (((QT.ofBelow (A := fun u => u = Own.rep ∨ u = .held r) (o := p) hB0)).alloc (.cells #[.int .i64 r, .int .i64 seq, .int .i64 a, .int .i64 b2, .int .i64 c, .int .i64 d, .int .i64 e, .map (some mb)] 139)).grew r2' htag (Or.inr rfl)
    have q2 := q1.set (p := ⟨b, 3 + r, none⟩) (by show _ ∨ _; rw [k5'.tag]; exact Or.inl rfl) (.slice (some ⟨g5, 0, none⟩) (m + 1) cap5)
    have R5 := ((hrow0.alloc (.cells #[.int .i64 r, .int .i64 seq, .int .i64 a, .int .i64 b2, .int .i64 c, .int .i64 d, .int .i64 e, .map (some mb)] 139)).app r1 r3).set (p := ⟨b, 3 + r, none⟩) k5'.tag (by simp) (.slice (some ⟨g5, 0, none⟩) (m + 1) cap5)
    exact ⟨rfl, _, _, k5'.set (3 + r) (.slice (some ⟨g5, 0, none⟩) (m + 1) cap5), R5, q2⟩
end Go.Proofs.YtiplgdkpnhamaaaGreatDoor.Tv

namespace Go.Proofs.YtiplgdkpnhamaaaGreatDoor.Tv
open Go.RowKit
theorem begun_meet {xq : DX} {w W : World} {p p3 : Nat → Own} {b n i k : Nat} {d : DRep} {sb : Nat} {st : St} {sl tbs mbs : Nat → Nat} {hv kn : List Value} {nb tb mb : Nat} (h : RepP xq w p b n i d sb st sl tbs mbs hv kn) (hk : k < 6) (hf : d.opn k = none) (hB : BegIn w p k sb (48 * d.hs.length) nb tb mb st W p3) :
    RepIn xq (W.setCell ⟨b, 33 + k, none⟩ (bptr tb)) p3 b n i { d with opn := setSlot d.opn k (some ⟨0, 0, d.vis, []⟩) } ∧ QT notOther w p (W.setCell ⟨b, 33 + k, none⟩ (bptr tb)) p3 := by
  have b1 := h.blk.touch hB.qt (by simp [stoTag])
  have q2 : QT (· = .rep) W p3 (W.setCell ⟨b, 33 + k, none⟩ (bptr tb)) p3 := (QT.refl _ _ _).set (p := ⟨b, 33 + k, none⟩) b1.tag _
  have qf : QT notOther w p (W.setCell ⟨b, 33 + k, none⟩ (bptr tb)) p3 := (hB.qt.mono fun u hu => sto_not hu).trans (q2.mono fun u hu => by rw [hu]; simp [notOther])
  have hnb : nb ∉ st.snaps.map Snap.blk := fun hc => by
    obtain ⟨s, hs, e⟩ := List.mem_map.1 hc
    obtain ⟨vb, cb, eb, ov, cv, ev, kv, hst⟩ := h.sto
    have := (hst.snap s hs).blk.lt
    have := hB.fresh
    omega
  have b2 := b1.set (33 + k) (bptr tb)
  rw [repCells_set h.hlen h.klen] at b2
  have eo := opvs_set (d := d) (tbs := tbs) (t? := some ⟨0, 0, d.vis, []⟩) hk tb
  simp only [Option.isSome_some, if_true] at eo
  rw [eo] at b2
  refine ⟨⟨sb, openSt st nb, fun q => if q = k then nb else sl q, fun q => if q = k then tb else tbs q, fun q => if q = k then mb else mbs q, hv, kn, b2, h.hlen, h.klen, ?_, h.ok.begin_ hk hf hnb, fun r hr => ?_, fun k' t' e' => ?_, fun c hc => ?_, h.known, h.gle⟩, qf⟩
  · obtain ⟨vb, cb, eb, ov, cv, ev, kv, hs1⟩ := hB.sto
    exact ⟨vb, cb, eb, ov, cv, ev, kv, hs1.touch q2 (fun u hu e => by rw [e] at hu; exact hu)⟩
  · exact ((h.held r hr).touch hB.qt (by simp [stoTag]) (by simp [stoTag])).touch q2 (by simp) (by simp)
  · by_cases c' : k' = k
    · subst c'
      rw [show ({ d with opn := setSlot d.opn k' (some ⟨0, 0, d.vis, []⟩) } : DRep).opn k' = some ⟨0, 0, d.vis, []⟩ from setSlot_same _ _ _] at e'
      cases e'
      simp only [if_true]
      exact ⟨hB.tx.touch q2 (by simp), hB.ownT, hB.own.movet q2 (by rw [hB.ownT]; simp)⟩
    · rw [show ({ d with opn := setSlot d.opn k (some ⟨0, 0, d.vis, []⟩) } : DRep).opn k' = d.opn k' from setSlot_other c'] at e'
      have hx := h.tx k' t' e'
      simp only [c', if_false]
      have o1 : p3 (mbs k') = .own k' := (hB.qt.same _ hx.own.lt).trans hx.ownT
      exact ⟨(hx.blk.touch hB.qt (by simp [stoTag])).touch q2 (by simp), o1, (hx.own.movet hB.qt (by rw [hx.ownT]; simp [stoTag])).movet q2 (by rw [o1]; simp)⟩
  · have hc' : c ∈ (st.snaps ++ [(⟨nb, st.vis, []⟩ : Snap)]).map Snap.blk := hc
    rw [List.map_append, List.mem_append] at hc'
    rcases hc' with hc' | hc'
    · obtain ⟨j, j1, j2⟩ := h.snp c hc'
      refine ⟨j, ?_, ?_⟩
      · show (setSlot d.opn k _ j).isSome
        by_cases c'' : j = k
        · subst c''; rw [setSlot_same]; rfl
        · rw [setSlot_other c'']; exact j1
      · have : j ≠ k := fun e => by subst e; rw [hf] at j1; cases j1
        simp [this, j2]
    · refine ⟨k, ?_, by simpa using hc'⟩
      show (setSlot d.opn k _ k).isSome
      rw [setSlot_same]; rfl
theorem open_a {xq : DX} {w : World} {p : Nat → Own} {b n i k : Nat} {d : DRep} {sb : Nat} {st : St} {sl tbs mbs : Nat → Nat} {hv kn : List Value} (h : RepP xq w p b n i d sb st sl tbs mbs hv kn) (hk : k < 6) (hf : d.opn k = none) :
    Calls Tryz.prog 59 #[bptr sb] w.drew fun e w' => e = .returned (bptr w.heap.size) ∧ w'.cell? ⟨b, 33 + k, none⟩ = some (.pointer none) ∧ w'.frozen? ⟨b, 33 + k, none⟩ = false ∧ b < w'.heap.size ∧ Hid (∃ p1, StIn w' p1 sb (48 * d.hs.length) (openSt st w.heap.size) ∧ QT stoTag w p w' p1) := by
  have hI : StIn w.drew p sb (48 * d.hs.length) st := by
    obtain ⟨vb, cb, eb, ov, cv, ev, kv, hs⟩ := h.sto
    exact ⟨vb, cb, eb, ov, cv, ev, kv, hs.move fun q hq _ => ⟨rfl, rfl⟩⟩
  refine (open_st hI (by have := h.snaps6; omega)).mono ?_
  rintro e w' ⟨rfl, p1, h1, h2⟩
  have b1 := h.blk.touch h2.undrew (by simp [stoTag])
  refine ⟨rfl, ?_, b1.blk.frozen _, b1.blk.lt, p1, h1, h2.undrew⟩
  rw [b1.blk.cell (33 + k), repCells_op h.hlen h.klen, opvs_get hk]
  unfold opv; rw [hf]; rfl
theorem open_b {xq : DX} {w : World} {p : Nat → Own} {b n i k : Nat} {d : DRep} {sb : Nat} {st : St} {sl tbs mbs : Nat → Nat} {hv kn : List Value} (h : RepP xq w p b n i d sb st sl tbs mbs hv kn) (hk : k < 6) (hf : d.opn k = none) :
    Calls Tryz.prog 59 #[bptr sb] (w.alloc (.map #[] 0)).drew fun e w' => e = .returned (bptr (w.heap.size + 1)) ∧ w'.cell? ⟨b, 33 + k, none⟩ = some (.pointer none) ∧ w'.frozen? ⟨b, 33 + k, none⟩ = false ∧ b < w'.heap.size ∧ Hid (∃ p2, StIn w' p2 sb (48 * d.hs.length) (openSt st (w.heap.size + 1)) ∧ QT stoTag (w.alloc (.map #[] 0)) (updq p w.heap.size (.own k)) w' p2) := by
  have hz : (w.alloc (.map #[] 0)).drew.heap.size = w.heap.size + 1 := by simp [World.drew]
  have hh : RepP xq (w.alloc (.map #[] 0)) (updq p w.heap.size (.own k)) b n i d sb st sl tbs mbs hv kn := h.move fun q hq _ => ⟨Below.heap_alloc _ _ _ hq, updq_other (by omega)⟩
  have hI : StIn (w.alloc (.map #[] 0)).drew (updq p w.heap.size (.own k)) sb (48 * d.hs.length) st := by
    obtain ⟨vb, cb, eb, ov, cv, ev, kv, hs⟩ := hh.sto
    exact ⟨vb, cb, eb, ov, cv, ev, kv, hs.move fun q hq _ => ⟨rfl, rfl⟩⟩
  have a := open_st hI (by have := h.snaps6; omega)
  rw [hz] at a
  refine a.mono ?_
  rintro e w' ⟨rfl, p1, h1, h2⟩
  have b1 := hh.blk.touch h2.undrew (by simp [stoTag])
  refine ⟨rfl, ?_, b1.blk.frozen _, b1.blk.lt, p1, h1, h2.undrew⟩
  rw [b1.blk.cell (33 + k), repCells_op h.hlen h.klen, opvs_get hk]
  unfold opv; rw [hf]; rfl
set_option maxRecDepth 100000 in
set_option maxHeartbeats 8000000 in
theorem begin_call {xq : DX} {w : World} {p : Nat → Own} {b n i : Nat} {d : DRep} (h : RepIn xq w p b n i d) :
    Calls Tryz.prog 27 #[bptr b] w fun e w' => e = .returned (beginAns d) ∧ ∃ p', RepIn xq w' p' b n i (beginD d) ∧ QT notOther w p w' p' := by
  obtain ⟨sb, st, sl, tbs, mbs, hv, kn, h⟩ := h
  have hmm := @run_makeMap Tryz.prog
  have c2 := h.cellOf.2.2
  have o0 : w.cell? ⟨b, 33, none⟩ = some (opv d tbs 0) := h.cellOp (k := 0) (by omega)
  have o1 : w.cell? ⟨b, 34, none⟩ = some (opv d tbs 1) := h.cellOp (k := 1) (by omega)
  have o2 : w.cell? ⟨b, 35, none⟩ = some (opv d tbs 2) := h.cellOp (k := 2) (by omega)
  have o3 : w.cell? ⟨b, 36, none⟩ = some (opv d tbs 3) := h.cellOp (k := 3) (by omega)
  have o4 : w.cell? ⟨b, 37, none⟩ = some (opv d tbs 4) := h.cellOp (k := 4) (by omega)
  have o5 : w.cell? ⟨b, 38, none⟩ = some (opv d tbs 5) := h.cellOp (k := 5) (by omega)
  have hl := h.blk.blk.lt
  have hf : ∀ j, w.frozen? ⟨b, j, none⟩ = false := fun j => h.blk.blk.frozen j
  have hopn : ∀ j, ((d.opn j).isSome = true ∧ opv d tbs j = bptr (tbs j)) ∨ (d.opn j = none ∧ opv d tbs j = .pointer none) := fun j => by
    unfold opv
    cases e : d.opn j with
    | none => exact Or.inr ⟨rfl, rfl⟩
    | some t => exact Or.inl ⟨rfl, rfl⟩
  generalize e0 : opv d tbs 0 = v0 at *
  generalize e1 : opv d tbs 1 = v1 at *
  generalize e2 : opv d tbs 2 = v2 at *
  generalize e3 : opv d tbs 3 = v3 at *
  generalize e4 : opv d tbs 4 = v4 at *
  generalize e5 : opv d tbs 5 = v5 at *
  have HE := hide (⟨e0, e1, e2, e3, e4, e5⟩ : _ ∧ _ ∧ _ ∧ _ ∧ _ ∧ _)
  have HO := hide hopn
  have HH := hide h
  have HFZ := hide hf
  clear e0 e1 e2 e3 e4 e5 hopn h hf
  go_enter Tryz.func27, Tryz.ntmps27
  go_wp2_with fail
  go_loopw [10] (fun j wr => ∃ k : Nat, k ≤ 6 ∧ j = .int .i64 k ∧ wr = w ∧ Hid (∀ q, q < k → (d.opn q).isSome = true)) (fun j _ => 6 - (intOf j).toNat)
  case atStart => exact ⟨0, by omega, rfl, rfl, fun q hq => by omega⟩
  case round =>
    obtain ⟨k, hk6, rfl, rfl, hall⟩ := hrel
    have hk7 : k = 6 ∨ k = 0 ∨ k = 1 ∨ k = 2 ∨ k = 3 ∨ k = 4 ∨ k = 5 := by omega
    rcases hk7 with rfl | hk7
    · have EA := hide (begin_none (d := d) (fun j hj => hall.out j hj))
      go_wp2_with fail
      go_ret2
      exact ⟨by rw [EA.out.1]; rfl, p, by rw [EA.out.2]; exact ⟨sb, st, sl, tbs, mbs, hv, kn, HH.out⟩, QT.refl _ _ _⟩
    · rcases hk7 with rfl | rfl | rfl | rfl | rfl | rfl
      · rw [show ((0 : Nat) : Int) = 0 from rfl]
        have hix := idx6_0
        rcases HO.out 0 with ⟨hs, e⟩ | ⟨hs, e⟩
        · rw [HE.out.1] at e
          subst e
          have hnx : ∀ q, q < 1 → (d.opn q).isSome = true := fun q hq => by
            rcases Nat.lt_or_ge q 0 with c | c
            · exact hall.out q c
            · have : q = 0 := by omega
              subst this; exact hs
          have HNX := hide hnx
          clear hs hnx
          go_wp2_with fail
          exact ⟨⟨1, by omega, by go_num, by first | rfl | trivial, HNX.out⟩, by simp [intOf]⟩
        · rw [HE.out.1] at e
          subst e
          have EA := hide (begin_at (d := d) (k := 0) (by omega) hall.out hs)
          have HA := hide (open_a HH.out (k := 0) (by omega) hs)
          have HB := hide (open_b HH.out (k := 0) (by omega) hs)
          have HS := hide hs
          clear hs
          go_wp2_with fail
          go_region_with (first | (go_at_call 59; show Calls _ _ _ (World.drew (World.alloc _ _)) _; refine HB.out.mono ?_; rintro e w5 ⟨rfl, k1, k2, k3, k4⟩) | (go_at_call 59; refine HA.out.mono ?_; rintro e w5 ⟨rfl, k1, k2, k3, k4⟩))
          all_goals go_wp2_with fail
          all_goals go_ret2
          all_goals
            refine ⟨by rw [EA.out.1]; rfl, ?_⟩
            rw [EA.out.2]
            obtain ⟨p5, g1, g2⟩ := k4.out
            first
              | (have M := begun_meet (k := 0) HH.out (by omega) HS.out (beg_open g1 g2); rw [World.setCell_alloc_past _ _ _ _ (by simp; omega), World.setCell_alloc_past _ _ _ _ k3] at M; exact ⟨_, M⟩)
              | (have M := begun_meet (k := 0) HH.out (by omega) HS.out (beg_map g1 g2); rw [World.setCell_alloc_past _ _ _ _ k3] at M; exact ⟨_, M⟩)
      · rw [show ((1 : Nat) : Int) = 1 from rfl]
        have hix := idx6_1
        rcases HO.out 1 with ⟨hs, e⟩ | ⟨hs, e⟩
        · rw [HE.out.2.1] at e
          subst e
          have hnx : ∀ q, q < 2 → (d.opn q).isSome = true := fun q hq => by
            rcases Nat.lt_or_ge q 1 with c | c
            · exact hall.out q c
            · have : q = 1 := by omega
              subst this; exact hs
          have HNX := hide hnx
          clear hs hnx
          go_wp2_with fail
          exact ⟨⟨2, by omega, by go_num, by first | rfl | trivial, HNX.out⟩, by simp [intOf]⟩
        · rw [HE.out.2.1] at e
          subst e
          have EA := hide (begin_at (d := d) (k := 1) (by omega) hall.out hs)
          have HA := hide (open_a HH.out (k := 1) (by omega) hs)
          have HB := hide (open_b HH.out (k := 1) (by omega) hs)
          have HS := hide hs
          clear hs
          go_wp2_with fail
          go_region_with (first | (go_at_call 59; show Calls _ _ _ (World.drew (World.alloc _ _)) _; refine HB.out.mono ?_; rintro e w5 ⟨rfl, k1, k2, k3, k4⟩) | (go_at_call 59; refine HA.out.mono ?_; rintro e w5 ⟨rfl, k1, k2, k3, k4⟩))
          all_goals go_wp2_with fail
          all_goals go_ret2
          all_goals
            refine ⟨by rw [EA.out.1]; rfl, ?_⟩
            rw [EA.out.2]
            obtain ⟨p5, g1, g2⟩ := k4.out
            first
              | (have M := begun_meet (k := 1) HH.out (by omega) HS.out (beg_open g1 g2); rw [World.setCell_alloc_past _ _ _ _ (by simp; omega), World.setCell_alloc_past _ _ _ _ k3] at M; exact ⟨_, M⟩)
              | (have M := begun_meet (k := 1) HH.out (by omega) HS.out (beg_map g1 g2); rw [World.setCell_alloc_past _ _ _ _ k3] at M; exact ⟨_, M⟩)
      · rw [show ((2 : Nat) : Int) = 2 from rfl]
        have hix := idx6_2
        rcases HO.out 2 with ⟨hs, e⟩ | ⟨hs, e⟩
        · rw [HE.out.2.2.1] at e
          subst e
          have hnx : ∀ q, q < 3 → (d.opn q).isSome = true := fun q hq => by
            rcases Nat.lt_or_ge q 2 with c | c
            · exact hall.out q c
            · have : q = 2 := by omega
              subst this; exact hs
          have HNX := hide hnx
          clear hs hnx
          go_wp2_with fail
          exact ⟨⟨3, by omega, by go_num, by first | rfl | trivial, HNX.out⟩, by simp [intOf]⟩
        · rw [HE.out.2.2.1] at e
          subst e
          have EA := hide (begin_at (d := d) (k := 2) (by omega) hall.out hs)
          have HA := hide (open_a HH.out (k := 2) (by omega) hs)
          have HB := hide (open_b HH.out (k := 2) (by omega) hs)
          have HS := hide hs
          clear hs
          go_wp2_with fail
          go_region_with (first | (go_at_call 59; show Calls _ _ _ (World.drew (World.alloc _ _)) _; refine HB.out.mono ?_; rintro e w5 ⟨rfl, k1, k2, k3, k4⟩) | (go_at_call 59; refine HA.out.mono ?_; rintro e w5 ⟨rfl, k1, k2, k3, k4⟩))
          all_goals go_wp2_with fail
          all_goals go_ret2
          all_goals
            refine ⟨by rw [EA.out.1]; rfl, ?_⟩
            rw [EA.out.2]
            obtain ⟨p5, g1, g2⟩ := k4.out
            first
              | (have M := begun_meet (k := 2) HH.out (by omega) HS.out (beg_open g1 g2); rw [World.setCell_alloc_past _ _ _ _ (by simp; omega), World.setCell_alloc_past _ _ _ _ k3] at M; exact ⟨_, M⟩)
              | (have M := begun_meet (k := 2) HH.out (by omega) HS.out (beg_map g1 g2); rw [World.setCell_alloc_past _ _ _ _ k3] at M; exact ⟨_, M⟩)
      · rw [show ((3 : Nat) : Int) = 3 from rfl]
        have hix := idx6_3
        rcases HO.out 3 with ⟨hs, e⟩ | ⟨hs, e⟩
        · rw [HE.out.2.2.2.1] at e
          subst e
          have hnx : ∀ q, q < 4 → (d.opn q).isSome = true := fun q hq => by
            rcases Nat.lt_or_ge q 3 with c | c
            · exact hall.out q c
            · have : q = 3 := by omega
              subst this; exact hs
          have HNX := hide hnx
          clear hs hnx
          go_wp2_with fail
          exact ⟨⟨4, by omega, by go_num, by first | rfl | trivial, HNX.out⟩, by simp [intOf]⟩
        · rw [HE.out.2.2.2.1] at e
          subst e
          have EA := hide (begin_at (d := d) (k := 3) (by omega) hall.out hs)
          have HA := hide (open_a HH.out (k := 3) (by omega) hs)
          have HB := hide (open_b HH.out (k := 3) (by omega) hs)
          have HS := hide hs
          clear hs
          go_wp2_with fail
          go_region_with (first | (go_at_call 59; show Calls _ _ _ (World.drew (World.alloc _ _)) _; refine HB.out.mono ?_; rintro e w5 ⟨rfl, k1, k2, k3, k4⟩) | (go_at_call 59; refine HA.out.mono ?_; rintro e w5 ⟨rfl, k1, k2, k3, k4⟩))
          all_goals go_wp2_with fail
          all_goals go_ret2
          all_goals
            refine ⟨by rw [EA.out.1]; rfl, ?_⟩
            rw [EA.out.2]
            obtain ⟨p5, g1, g2⟩ := k4.out
            first
              | (have M := begun_meet (k := 3) HH.out (by omega) HS.out (beg_open g1 g2); rw [World.setCell_alloc_past _ _ _ _ (by simp; omega), World.setCell_alloc_past _ _ _ _ k3] at M; exact ⟨_, M⟩)
              | (have M := begun_meet (k := 3) HH.out (by omega) HS.out (beg_map g1 g2); rw [World.setCell_alloc_past _ _ _ _ k3] at M; exact ⟨_, M⟩)
      · rw [show ((4 : Nat) : Int) = 4 from rfl]
        have hix := idx6_4
        rcases HO.out 4 with ⟨hs, e⟩ | ⟨hs, e⟩
        · rw [HE.out.2.2.2.2.1] at e
          subst e
          have hnx : ∀ q, q < 5 → (d.opn q).isSome = true := fun q hq => by
            rcases Nat.lt_or_ge q 4 with c | c
            · exact hall.out q c
            · have : q = 4 := by omega
              subst this; exact hs
          have HNX := hide hnx
          clear hs hnx
          go_wp2_with fail
          exact ⟨⟨5, by omega, by go_num, by first | rfl | trivial, HNX.out⟩, by simp [intOf]⟩
        · rw [HE.out.2.2.2.2.1] at e
          subst e
          have EA := hide (begin_at (d := d) (k := 4) (by omega) hall.out hs)
          have HA := hide (open_a HH.out (k := 4) (by omega) hs)
          have HB := hide (open_b HH.out (k := 4) (by omega) hs)
          have HS := hide hs
          clear hs
          go_wp2_with fail
          go_region_with (first | (go_at_call 59; show Calls _ _ _ (World.drew (World.alloc _ _)) _; refine HB.out.mono ?_; rintro e w5 ⟨rfl, k1, k2, k3, k4⟩) | (go_at_call 59; refine HA.out.mono ?_; rintro e w5 ⟨rfl, k1, k2, k3, k4⟩))
          all_goals go_wp2_with fail
          all_goals go_ret2
          all_goals
            refine ⟨by rw [EA.out.1]; rfl, ?_⟩
            rw [EA.out.2]
            obtain ⟨p5, g1, g2⟩ := k4.out
            first
              | (have M := begun_meet (k := 4) HH.out (by omega) HS.out (beg_open g1 g2); rw [World.setCell_alloc_past _ _ _ _ (by simp; omega), World.setCell_alloc_past _ _ _ _ k3] at M; exact ⟨_, M⟩)
              | (have M := begun_meet (k := 4) HH.out (by omega) HS.out (beg_map g1 g2); rw [World.setCell_alloc_past _ _ _ _ k3] at M; exact ⟨_, M⟩)
      · rw [show ((5 : Nat) : Int) = 5 from rfl]
        have hix := idx6_5
        rcases HO.out 5 with ⟨hs, e⟩ | ⟨hs, e⟩
        · rw [HE.out.2.2.2.2.2] at e
          subst e
          have hnx : ∀ q, q < 6 → (d.opn q).isSome = true := fun q hq => by
            rcases Nat.lt_or_ge q 5 with c | c
            · exact hall.out q c
            · have : q = 5 := by omega
              subst this; exact hs
          have HNX := hide hnx
          clear hs hnx
          go_wp2_with fail
          exact ⟨⟨6, by omega, by go_num, by first | rfl | trivial, HNX.out⟩, by simp [intOf]⟩
        · rw [HE.out.2.2.2.2.2] at e
          subst e
          have EA := hide (begin_at (d := d) (k := 5) (by omega) hall.out hs)
          have HA := hide (open_a HH.out (k := 5) (by omega) hs)
          have HB := hide (open_b HH.out (k := 5) (by omega) hs)
          have HS := hide hs
          clear hs
          go_wp2_with fail
          go_region_with (first | (go_at_call 59; show Calls _ _ _ (World.drew (World.alloc _ _)) _; refine HB.out.mono ?_; rintro e w5 ⟨rfl, k1, k2, k3, k4⟩) | (go_at_call 59; refine HA.out.mono ?_; rintro e w5 ⟨rfl, k1, k2, k3, k4⟩))
          all_goals go_wp2_with fail
          all_goals go_ret2
          all_goals
            refine ⟨by rw [EA.out.1]; rfl, ?_⟩
            rw [EA.out.2]
            obtain ⟨p5, g1, g2⟩ := k4.out
            first
              | (have M := begun_meet (k := 5) HH.out (by omega) HS.out (beg_open g1 g2); rw [World.setCell_alloc_past _ _ _ _ (by simp; omega), World.setCell_alloc_past _ _ _ _ k3] at M; exact ⟨_, M⟩)
              | (have M := begun_meet (k := 5) HH.out (by omega) HS.out (beg_map g1 g2); rw [World.setCell_alloc_past _ _ _ _ k3] at M; exact ⟨_, M⟩)
end Go.Proofs.YtiplgdkpnhamaaaGreatDoor.Tv

namespace Go.Proofs.YtiplgdkpnhamaaaGreatDoor.Tv
open Go.RowKit
set_option maxRecDepth 100000 in
set_option maxHeartbeats 4000000 in
theorem new_ok (w : World) (i n : Nat) (h : fitsB i n = true) : Calls Tryz.prog 48 #[.int .i64 i, .int .i64 n] w fun e w' => ∃ b, e = .returned (.tuple #[ptr b, .int .i64 0]) ∧ Below w.heap.size w w' ∧ ∀ (o : Nat → Tag) (t : Tag), PR newX w' (own2 o w.heap.size fun _ => t) t b n i (newD n) := by
  have hf : (1 : Int) ≤ n ∧ (n : Int) ≤ 5 ∧ (0 : Int) ≤ i ∧ (i : Int) < n := of_decide_eq_true h
  clear h
  obtain ⟨f1, f2, f3, f4⟩ := hf
  have hn := snew_any w (fun q => if q = w.heap.size + 4 then .rep else .other)
  have HN := hide hn
  have g1 : ¬ (n : Int) < 1 := by omega
  have g2 : ¬ (5 : Int) < n := by omega
  have g3 : ¬ (i : Int) < 0 := by omega
  have g4 : ¬ (n : Int) ≤ i := by omega
  clear hn
  go_enter Tryz.func48, Tryz.ntmps48
  go_wp2_with (go_at_call 86; refine HN.out.mono ?_; rintro e w1 ⟨rfl, hpost⟩; have HP := hide hpost; clear hpost)
  go_ret2
  obtain ⟨hB, hz, hS⟩ := HP.out
  have hblk := heap_alloc_new w1 (.cells (repCells i n (w.heap.size + 3) [nilSlice, nilSlice, nilSlice, nilSlice, nilSlice] (List.replicate 25 (.int .i64 0)) (List.replicate 6 (.pointer none))).toArray 114)
  have hBf : Below w.heap.size w (w1.alloc (.cells (repCells i n (w.heap.size + 3) [nilSlice, nilSlice, nilSlice, nilSlice, nilSlice] (List.replicate 25 (.int .i64 0)) (List.replicate 6 (.pointer none))).toArray 114)) := hB.alloc hB.size _
  refine ⟨w1.heap.size, rfl, hBf, fun o t => ?_⟩
  have hB1 : Below w1.heap.size w1 (w1.alloc (.cells (repCells i n (w.heap.size + 3) [nilSlice, nilSlice, nilSlice, nilSlice, nilSlice] (List.replicate 25 (.int .i64 0)) (List.replicate 6 (.pointer none))).toArray 114)) := (Below.refl _ _).alloc (Nat.le_refl _) _
  refine ⟨_, fun q hq hne => ?_, w.heap.size + 3, noSt, fun _ => 0, fun _ => 0, fun _ => 0, [nilSlice, nilSlice, nilSlice, nilSlice, nilSlice], List.replicate 25 (.int .i64 0), ⟨hblk, ?_⟩, rfl, rfl, hS.below hB1, RepOk.new (by omega) (by omega) _, fun r hr => ⟨[], rfl, ?_, fun y hy => by simp at hy⟩, fun k u e => ?_, fun c hc => by simp [noSt] at hc, rfl, fun r => Nat.zero_le _⟩
  · by_cases c : q < w.heap.size
    · exfalso
      apply hne
      simp [show q ≠ w.heap.size by omega, show q ≠ w.heap.size + 1 by omega, show q ≠ w.heap.size + 2 by omega, show q ≠ w.heap.size + 3 by omega, show q ≠ w.heap.size + 4 by omega]
    · rw [own2_high (by omega)]
  · rw [hz]; simp
  · have : r = 0 ∨ r = 1 ∨ r = 2 ∨ r = 3 ∨ r = 4 := by simp at hr; omega
    rcases this with rfl | rfl | rfl | rfl | rfl <;> exact ⟨⟨rfl, .inl ⟨rfl, rfl⟩⟩, fun q hq => by simp [Value.ownBlock, nilSlice] at hq⟩
  · cases e
set_option maxRecDepth 100000 in
set_option maxHeartbeats 4000000 in
theorem visible_call {xq : DX} {w : World} {p : Nat → Own} {b n i : Nat} {d : DRep} (h : RepIn xq w p b n i d) :
    Calls Tryz.prog 22 #[bptr b] w fun e w' => ∃ lv, e = .returned lv ∧ w'.ownsRow w.heap.size 3 1 lv d.vis.length (ints d.vis) ∧ Below w.heap.size w w' := by
  obtain ⟨sb, st, sl, tbs, mbs, hv, kn, h⟩ := h
  obtain ⟨-, c1, c2⟩ := h.cellOf
  have hl := h.blk.blk.lt
  have hvl : d.vis.length = n := by rw [h.ok.vis, visOf_len]
  have hn5 := h.ok.hist.n5
  have hi := h.ok.hi
  have hvis := h.ok.svis
  have hcall : Calls Tryz.prog 57 #[bptr sb] w fun e w' => e = .returned (vecOf d.vis).val ∧ Below w.heap.size w w' := by
    obtain ⟨vb, cb, eb, ov, cv, ev, kv, hs⟩ := h.sto
    rw [← hvis]
    exact visible_any w sb st.vis (hs.blk.blk.cell 0) (hs.blk.blk.cell 1) (hs.blk.blk.cell 2) (hs.blk.blk.cell 3) (hs.blk.blk.cell 4)
  have HC := hide hcall
  have HV := hide hvl
  have HT := hide (vec_take hvl hn5)
  have g1 : ¬ (n : Int) < 0 := by omega
  have g2 : (n : Int) ≤ 5 := by omega
  have g3 : ¬ (5 : Int) < n := by omega
  obtain ⟨v, hvv⟩ : ∃ v, vecOf d.vis = v := ⟨_, rfl⟩
  unfold Hid at HC HT
  rw [hvv] at HC HT
  have HC' := hide HC
  have HT' := hide HT
  clear hcall hvl hvis HC HT hvv
  have HH := hide h
  clear h
  go_enter Tryz.func22, Tryz.ntmps22
  go_wp2_with (go_at_call 57; refine HC'.out.mono ?_; rintro e w1 ⟨rfl, hB1⟩; have c1' := cell_later hB1 c1; have hl1 : b < w1.heap.size := Nat.lt_of_lt_of_le hl hB1.size; have HB1 := hide hB1; clear hB1)
  generalize hW2 : w1.alloc (.cells #[.int .i64 v.a, .int .i64 v.b, .int .i64 v.c, .int .i64 v.d, .int .i64 v.e] 104) = W2
  have hB2 : Below w1.heap.size w1 W2 := by rw [← hW2]; exact (Below.refl _ _).alloc (Nat.le_refl _) _
  have b2 : Blk W2 w1.heap.size [.int .i64 v.a, .int .i64 v.b, .int .i64 v.c, .int .i64 v.d, .int .i64 v.e] 104 := by rw [← hW2]; exact heap_alloc_new w1 _
  have hcl := clone_ints W2 w1.heap.size 5 n (ints d.vis) (by rw [ints_len, HV.out]; simp) (fun j u hu => by
    rw [← HT'.out] at hu
    rw [List.getElem?_take] at hu
    split at hu
    · rw [Addr.add_lit, Nat.zero_add, b2.cell j]; exact hu
    · cases hu) (fun u hu => by
    unfold ints at hu
    obtain ⟨x, -, rfl⟩ := List.mem_map.1 hu
    rfl) (by omega)
  have HCL := hide hcl
  have HB2 := hide hB2
  clear hcl hB2 b2 hW2 c1' hl1
  refine HCL.out.mono ?_
  rintro e w3 ⟨v', rfl, hown, hB3⟩
  have HF := hide (⟨hown, hB3⟩ : _ ∧ _)
  clear hown hB3
  go_wp2_with fail
  go_ret
  have hB12 : Below w.heap.size w W2 := HB1.out.trans (HB2.out.mono HB1.out.size)
  refine ⟨_, rfl, ?_, hB12.trans (HF.out.2.mono hB12.size)⟩
  rw [HV.out]
  exact ownsRow_low HF.out.1 hB12.size
end Go.Proofs.YtiplgdkpnhamaaaGreatDoor.Tv

namespace Go.Proofs.YtiplgdkpnhamaaaGreatDoor.Tv
open Go.RowKit
theorem RepP.snapIn {xq : DX} {w : World} {p : Nat → Own} {b n i k : Nat} {d : DRep} {sb : Nat} {st : St} {sl tbs mbs : Nat → Nat} {hv kn : List Value} {t : RTx} (h : RepP xq w p b n i d sb st sl tbs mbs hv kn) (hR : d.hs.length ≤ 1100000) (ht : d.opn k = some t) :
    (∃ kept, SnapIn w p sb (48 * d.hs.length) (sl k) st (vecOf t.saw) kept) ∧ OpenTx w (tbs k) (sl k) (mbs k) t.ops.length (t.ops.length : Nat) (ownOf t.ops) ∧ TxOk n d.hs t ∧ ∃ s, s ∈ st.snaps ∧ s.saw = vecOf t.saw := by
  obtain ⟨hto, s, hs, hb, hsaw⟩ := h.ok.opn k t ht
  have hT := h.tx k t ht
  refine ⟨?_, ⟨hT.blk.blk, hT.own⟩, hto, s, hs, hsaw⟩
  obtain ⟨vb, cb, eb, ov, cv, ev, kv, hst⟩ := h.sto
  refine ⟨kv s.blk, ⟨vb, cb, eb, ov, cv, ev, kv, hst⟩, ?_, h.ok.ginv.wf, fun q => Nat.le_trans (h.ok.came_len q) (by omega)⟩
  have a := (hst.snap s hs).blk
  rw [hsaw, hb] at a
  rw [hb]
  exact a
set_option maxRecDepth 100000 in
set_option maxHeartbeats 4000000 in
theorem read_call {xq : DX} {w : World} {p : Nat → Own} {b n i : Nat} {d : DRep} (h : RepIn xq w p b n i d) (hR : d.hs.length ≤ 1100000) (tx : Int) (key : ByteArray) (hks : key.size ≤ maxLen) :
    Calls Tryz.prog 33 #[bptr b, .int .i64 tx, .string key] w fun e w' => ∃ lv, e = .returned (valAgg (readAns (opnAt d tx) key d.hs n).1 lv (readAns (opnAt d tx) key d.hs n).2.2) ∧
      w'.ownsRow w.heap.size 9 1 lv (readAns (opnAt d tx) key d.hs n).2.1.length (strs (readAns (opnAt d tx) key d.hs n).2.1) ∧ Below w.heap.size w w' := by
  obtain ⟨sb, st, sl, tbs, mbs, hv, kn, h⟩ := h
  have hth := fun W => thing_any key W hks
  have HTH := hide hth
  clear hth
  generalize hW0 : w.alloc (.cells #[.int .i64 0, .slice none 0 0] 66) = W0
  have hB0 : Below w.heap.size w W0 := by rw [← hW0]; exact (Below.refl _ _).alloc (Nat.le_refl _) _
  have hz0 : W0.heap.size = w.heap.size + 1 := by rw [← hW0]; simp
  have bv : Blk W0 w.heap.size [.int .i64 0, .slice none 0 0] 66 := by rw [← hW0]; exact heap_alloc_new w _
  have h0 := h.below hB0
  clear h
  cases ho : opnAt d tx with
  | none =>
    have HF := hide (h0.find_none ho)
    have ea : readAns none key d.hs n = (0, [], 4) := rfl
    rw [ea]
    have HW0 := hide hW0
    have HB := hide (⟨hB0, bv⟩ : _ ∧ _)
    have v0 : W0.cell? ⟨w.heap.size, 0, none⟩ = some (.int .i64 0) := bv.cell 0
    have v1 : W0.cell? ⟨w.heap.size, 1, none⟩ = some (.slice none 0 0) := bv.cell 1
    have f0 : W0.frozen? ⟨w.heap.size, 0, none⟩ = false := bv.frozen 0
    have f1 : W0.frozen? ⟨w.heap.size, 1, none⟩ = false := bv.frozen 1
    have hl : w.heap.size < W0.heap.size := bv.lt
    clear h0 ho ea hW0 hB0 bv hz0
    go_enter Tryz.func33, Tryz.ntmps33
    go_upto_region 1 with (fail)
    rw [HW0.out]
    go_wp2_with (go_at_call 60; refine HF.out.mono ?_; rintro e w1 ⟨rfl, rfl⟩)
    refine bodyPost_ret (v := valAgg 0 (.slice none 0 0) 4) (by simp [results, Tryz.results33, go_sem, v0, v1]) rfl ⟨_, rfl, by simpa [strs] using World.ownsRow_nil _ _ _ _, (HB.out.1.setCell (Nat.le_refl _) _).setCell (Nat.le_refl _) _⟩
  | some t =>
    obtain ⟨k, rfl, hk, hok, hf⟩ := h0.find_some ho
    obtain ⟨⟨kept, hS⟩, hT, hto, s, hs, hsaw⟩ := h0.snapIn hR hok
    have HF := hide hf
    have HW0 := hide hW0
    have HB := hide (⟨hB0, bv⟩ : _ ∧ _)
    have v0 : W0.cell? ⟨w.heap.size, 0, none⟩ = some (.int .i64 0) := bv.cell 0
    have v1 : W0.cell? ⟨w.heap.size, 1, none⟩ = some (.slice none 0 0) := bv.cell 1
    have f0 : W0.frozen? ⟨w.heap.size, 0, none⟩ = false := bv.frozen 0
    have f1 : W0.frozen? ⟨w.heap.size, 1, none⟩ = false := bv.frozen 1
    have hl : w.heap.size < W0.heap.size := bv.lt
    have hops : ∀ o, o ∈ t.ops → OpOk o := fun o h => (hto.ops.ops o h).1
    have hRO := h0.ok
    by_cases c1 : kindOf key = 99
    · have ea : readAns (some t) key d.hs n = (wrap64 (counterOf t.saw key d.hs + sumOf key t.ops), [], 0) := by unfold readAns; simp only; rw [if_pos c1]
      rw [ea]
      obtain ⟨g1, g2⟩ := own_cnt c1 t.ops hops
      have hc := tsum_any hS hT key hks
      rw [wr_amount g2, g1, show sumTold st.vers ⟨key, noEl⟩ (toldRaw (vecOf t.saw) st ⟨key, noEl⟩) = counterOf t.saw key d.hs from hRO.tellsSum (by omega) hto hs hsaw c1 (List.Perm.refl _)] at hc
      have HC := hide hc
      rw [c1] at HTH
      generalize wrap64 (counterOf t.saw key d.hs + sumOf key t.ops) = res at *
      clear h0 ho ea hW0 hB0 bv hz0 hf hS hT hto hs hsaw hok hc hRO hops g1 g2
      go_enter Tryz.func33, Tryz.ntmps33
      go_upto_region 1 with (fail)
      rw [HW0.out]
      go_wp2_with (first | (go_at_call 60; refine HF.out.mono ?_; rintro e w1 ⟨rfl, rfl⟩) | (go_at_call 61; refine (HTH.out _).mono ?_; rintro e w1 ⟨rfl, rfl⟩))
      refine HC.out.mono ?_
      rintro e w2 ⟨rfl, hB2⟩
      have bv2 := HB.out.2.below hB2
      have r0 : w2.cell? ⟨w.heap.size, 0, none⟩ = some (.int .i64 0) := bv2.cell 0
      have r1 : w2.cell? ⟨w.heap.size, 1, none⟩ = some (.slice none 0 0) := bv2.cell 1
      have rf0 : w2.frozen? ⟨w.heap.size, 0, none⟩ = false := bv2.frozen 0
      have rf1 : w2.frozen? ⟨w.heap.size, 1, none⟩ = false := bv2.frozen 1
      have rl : w.heap.size < w2.heap.size := bv2.lt
      have hBf : Below w.heap.size w w2 := HB.out.1.trans (hB2.mono HB.out.1.size)
      have HBF := hide hBf
      clear v0 v1 f0 f1 hl bv2 hB2 hBf
      go_wp2_with fail
      refine bodyPost_ret (v := valAgg res (.slice none 0 0) 0) (by simp [results, Tryz.results33, go_sem, r0, r1]) rfl ⟨_, rfl, by simpa [strs] using World.ownsRow_nil _ _ _ _, (HBF.out.setCell (Nat.le_refl _) _).setCell (Nat.le_refl _) _⟩
    · by_cases c2 : kindOf key = 114
      · have ea : readAns (some t) key d.hs n = (0, (match lastOf key noEl t.ops with | some o => [o.value] | none => registerOf t.saw key d.hs n), 0) := by unfold readAns; simp only; rw [if_neg c1, if_pos c2]; rfl
        rw [ea]
        obtain ⟨res, hres⟩ : ∃ res, (match lastOf key noEl t.ops with | some o => [o.value] | none => registerOf t.saw key d.hs n) = res := ⟨_, rfl⟩
        have hc : Calls Tryz.prog 69 #[bptr (tbs k), .string key] W0 fun e w' => ∃ v, e = .returned v ∧ w'.ownsRow W0.heap.size 9 1 v res.length (strs res) ∧ Below W0.heap.size W0 w' := by
          have hor := own_reg c2 t.ops hops
          cases hlast : lastOf key noEl t.ops with
          | some o =>
            rw [hlast] at hor hres
            refine (tvalues_own hT key hks hor).mono ?_
            rintro e w' ⟨v, rfl, a1, a2⟩
            refine ⟨v, rfl, ?_, a2⟩
            rw [← hres]; exact a1
          | none =>
            rw [hlast] at hor hres
            refine (tvalues_told hS hT key hks hor).mono ?_
            rintro e w' ⟨v, l, a1, a2, rfl, a3, a4⟩
            refine ⟨v, rfl, ?_, a4⟩
            have e1 : valsTold st.vers ⟨key, noEl⟩ l = registerOf t.saw key d.hs n := hRO.tellsReg (by omega) hto hs hsaw c2 a1 a2
            rw [← hres, ← e1]; exact a3
        rw [hres]
        have HC := hide hc
        rw [c2] at HTH
        clear h0 ho ea hW0 hB0 bv hz0 hf hS hT hto hs hsaw hok hc hRO hops hres
        go_enter Tryz.func33, Tryz.ntmps33
        go_upto_region 1 with (fail)
        rw [HW0.out]
        go_wp2_with (first | (go_at_call 60; refine HF.out.mono ?_; rintro e w1 ⟨rfl, rfl⟩) | (go_at_call 61; refine (HTH.out _).mono ?_; rintro e w1 ⟨rfl, rfl⟩))
        refine HC.out.mono ?_
        rintro e w2 ⟨v, rfl, hown, hB2⟩
        obtain ⟨lo, lcap, hlv, -, -, -⟩ := Row.shape (ownsRow_low hown (Nat.zero_le _))
        subst hlv
        have bv2 := HB.out.2.below hB2
        have r0 : w2.cell? ⟨w.heap.size, 0, none⟩ = some (.int .i64 0) := bv2.cell 0
        have r1 : w2.cell? ⟨w.heap.size, 1, none⟩ = some (.slice none 0 0) := bv2.cell 1
        have rf0 : w2.frozen? ⟨w.heap.size, 0, none⟩ = false := bv2.frozen 0
        have rf1 : w2.frozen? ⟨w.heap.size, 1, none⟩ = false := bv2.frozen 1
        have rl : w.heap.size < w2.heap.size := bv2.lt
        have hBf : Below w.heap.size w w2 := HB.out.1.trans (hB2.mono HB.out.1.size)
        have HBF := hide (⟨hBf, hown⟩ : _ ∧ _)
        clear v0 v1 f0 f1 bv2 hB2 hBf hown
        go_wp2_with fail
        refine bodyPost_ret (v := valAgg 0 (.slice lo res.length lcap) 0) (by simp [results, Tryz.results33, go_sem, r0, r1]) rfl ⟨_, rfl, ?_, (HBF.out.1.setCell (Nat.le_refl _) _).setCell (Nat.le_refl _) _⟩
        exact ownsRow_low (ownsRow_setCell_below (ownsRow_setCell_below HBF.out.2 (a := ⟨w.heap.size, 0, none⟩) hl _) (a := ⟨w.heap.size, 1, none⟩) hl _) (Nat.le_of_lt hl)
      · by_cases c3 : kindOf key = 115
        · have ea : readAns (some t) key d.hs n = (0, readSet key t.ops (setOf t.saw key d.hs), 0) := by unfold readAns; simp only; rw [if_neg c1, if_neg c2, if_pos c3]
          rw [ea]
          have hc : Calls Tryz.prog 70 #[bptr (tbs k), .string key] W0 fun e w' => ∃ v, e = .returned v ∧ w'.ownsRow W0.heap.size 9 1 v (readSet key t.ops (setOf t.saw key d.hs)).length (strs (readSet key t.ops (setOf t.saw key d.hs))) ∧ Below W0.heap.size W0 w' := by
            refine (telements_any hS hT (fun q x hq => (own_kinds t.ops hto.ops.old x hq).2) key hks (by have := hto.ops.few; omega)).mono ?_
            rintro e w' ⟨v, l, rfl, a1, a2, -, a3, a4⟩
            have e1 : l = readSet key t.ops (setOf t.saw key d.hs) := readSet_eq c3 hops a1 (fun a => by
              rw [a2 a]
              obtain ⟨t1, t2⟩ := hRO.tellsSet (by omega) hto hs hsaw c3 a
              rw [← t1]
              constructor
              · rintro (⟨⟨-, x2⟩, x3⟩ | x)
                · exact Or.inl ⟨x2, x3⟩
                · exact Or.inr x
              · rintro (⟨x2, x3⟩ | x)
                · exact Or.inl ⟨⟨t2 x2, x2⟩, x3⟩
                · exact Or.inr x)
            exact ⟨v, rfl, by rw [← e1]; exact a3, a4⟩
          obtain ⟨res, hres⟩ : ∃ res, readSet key t.ops (setOf t.saw key d.hs) = res := ⟨_, rfl⟩
          rw [hres] at hc
          rw [hres]
          have HC := hide hc
          rw [c3] at HTH
          clear h0 ho ea hW0 hB0 bv hz0 hf hS hT hto hs hsaw hok hc hRO hops hres
          go_enter Tryz.func33, Tryz.ntmps33
          go_upto_region 1 with (fail)
          rw [HW0.out]
          go_wp2_with (first | (go_at_call 60; refine HF.out.mono ?_; rintro e w1 ⟨rfl, rfl⟩) | (go_at_call 61; refine (HTH.out _).mono ?_; rintro e w1 ⟨rfl, rfl⟩))
          refine HC.out.mono ?_
          rintro e w2 ⟨v, rfl, hown, hB2⟩
          obtain ⟨lo, lcap, hlv, -, -, -⟩ := Row.shape (ownsRow_low hown (Nat.zero_le _))
          subst hlv
          have bv2 := HB.out.2.below hB2
          have r0 : w2.cell? ⟨w.heap.size, 0, none⟩ = some (.int .i64 0) := bv2.cell 0
          have r1 : w2.cell? ⟨w.heap.size, 1, none⟩ = some (.slice none 0 0) := bv2.cell 1
          have rf0 : w2.frozen? ⟨w.heap.size, 0, none⟩ = false := bv2.frozen 0
          have rf1 : w2.frozen? ⟨w.heap.size, 1, none⟩ = false := bv2.frozen 1
          have rl : w.heap.size < w2.heap.size := bv2.lt
          have hBf : Below w.heap.size w w2 := HB.out.1.trans (hB2.mono HB.out.1.size)
          have HBF := hide (⟨hBf, hown⟩ : _ ∧ _)
          clear v0 v1 f0 f1 bv2 hB2 hBf hown
          go_wp2_with fail
          refine bodyPost_ret (v := valAgg 0 (.slice lo res.length lcap) 0) (by simp [results, Tryz.results33, go_sem, r0, r1]) rfl ⟨_, rfl, ?_, (HBF.out.1.setCell (Nat.le_refl _) _).setCell (Nat.le_refl _) _⟩
          exact ownsRow_low (ownsRow_setCell_below (ownsRow_setCell_below HBF.out.2 (a := ⟨w.heap.size, 0, none⟩) hl _) (a := ⟨w.heap.size, 1, none⟩) hl _) (Nat.le_of_lt hl)
        · have ea : readAns (some t) key d.hs n = (0, [], 2) := by unfold readAns; simp only; rw [if_neg c1, if_neg c2, if_neg c3]
          rw [ea]
          have e1 : (kindOf key == 99) = false := beq_false_of_ne c1
          have e2 : (kindOf key == 114) = false := beq_false_of_ne c2
          have e3 : (kindOf key == 115) = false := beq_false_of_ne c3
          generalize kindOf key = kk at *
          clear h0 ho ea hW0 hB0 bv hz0 hf hS hT hto hs hsaw hok hRO hops c1 c2 c3
          go_enter Tryz.func33, Tryz.ntmps33
          go_upto_region 1 with (fail)
          rw [HW0.out]
          go_wp2_with (first | (go_at_call 60; refine HF.out.mono ?_; rintro e w1 ⟨rfl, rfl⟩) | (go_at_call 61; refine (HTH.out _).mono ?_; rintro e w1 ⟨rfl, rfl⟩))
          refine bodyPost_ret (v := valAgg 0 (.slice none 0 0) 2) (by simp [results, Tryz.results33, go_sem, v0, v1]) rfl ⟨_, rfl, by simpa [strs] using World.ownsRow_nil _ _ _ _, (HB.out.1.setCell (Nat.le_refl _) _).setCell (Nat.le_refl _) _⟩
end Go.Proofs.YtiplgdkpnhamaaaGreatDoor.Tv

namespace Go.Proofs.YtiplgdkpnhamaaaGreatDoor.Tv
open Go.RowKit
theorem put_vis {n : Nat} {l : List Int} (hl : l.length = n) (hn : n ≤ 5) {r : Nat} (hr : r < n) (s : Int) : (vecOf l).put r s = vecOf (l.set r s) := by
  refine vec_ext fun k hk => ?_
  rw [vec_put_get _ (by omega), vecOf_get (by omega), vecOf_get (by simp; omega)]
  simp only [Int.toNat_natCast, List.getD_eq_getElem?_getD, List.getElem?_set]
  by_cases c : k = r
  · subst c; rw [if_pos rfl, if_pos rfl, if_pos (by omega)]; rfl
  · rw [if_neg c, if_neg (fun e => c e.symm)]
theorem ap_step {n i : Nat} {d : DRep} {st : St} {sl : Nat → Nat} (h : RepOk n i d st sl) (hR : d.hs.length ≤ 1100000) {u : RTx} (hu : NewOk n d.hs u) :
    ApStep (fun left st' => MInv (histOf (d.hs ++ [u])) setPl d.hs.length left st st') (ownOf u.ops) (vecOf u.saw) ((histOf (d.hs ++ [u])).dot d.hs.length) := by
  have hW := h.wrOk (by omega) hu
  refine ⟨fun left st' hM => hM.wf, fun left st' q hM => ?_, fun left st' hM s hs => ?_, fun q x hx => ?_, fun left st' q x hM hl hx => write_inv hM hW (by rw [wr_new]; exact hx) hl⟩
  · have := came_bound (N := d.hs.length + 1) hM.wf (hM.pl q) (by split <;> omega)
    omega
  · have hH : HistG n (d.hs ++ [u]) := h.hist.snoc hu
    have hlen : (d.hs ++ [u]).length = d.hs.length + 1 := by simp
    have := kept_bound (H := histOf (d.hs ++ [u])) (N := d.hs.length + 1) hM.kn (fun p => ⟨_, by split <;> omega, hM.pl p⟩) (pl := fun j => (txAt (d.hs ++ [u]) j).ops.map plOf) (fun j => by
      rw [List.length_map]
      by_cases c : j < (d.hs ++ [u]).length
      · rw [txAt_eq c]; exact (hH.tx j c).ops.few
      · have e : (d.hs ++ [u])[j]? = none := List.getElem?_eq_none (by omega)
        have e2 : txAt (d.hs ++ [u]) j = ⟨0, 0, [], []⟩ := by unfold txAt; rw [List.getD_eq_getElem?_getD, e]; rfl
        rw [e2]; simp) (fun j p _ hw => wr_places _ j p hw) s hs
    omega
  · have := own_kinds u.ops hu.ops.old x hx
    refine ⟨?_, this.2⟩
    rcases this.1 with c | c | c
    · exact Or.inl c.1
    · exact Or.inr (Or.inl c.1)
    · rcases c.1 with c | c
      · exact Or.inr (Or.inr (Or.inl c))
      · exact Or.inr (Or.inr (Or.inr c))
abbrev trVal (r : Nat) (sq : Int) (v : Vec) (mb : Nat) : Value := .agg #[.int .i64 r, .int .i64 sq, .int .i64 v.a, .int .i64 v.b, .int .i64 v.c, .int .i64 v.d, .int .i64 v.e, .map (some mb)]
theorem apply_rep {xq : DX} {w : World} {p : Nat → Own} {b n i : Nat} {d : DRep} {sb : Nat} {st : St} {sl tbs mbs : Nat → Nat} {hv kn : List Value} {u : RTx} {mb : Nat} (h : RepP xq w p b n i d sb st sl tbs mbs hv kn) (hR : d.hs.length ≤ 1100000) (hu : NewOk n d.hs u) (hM : TrIn w (trOf u, mb)) (hmt : p mb = .held 5) {W : World} (hB : Below w.heap.size w W) :
    Calls Tryz.prog 105 #[bptr sb, trVal u.rep.toNat u.seq (vecOf u.saw) mb] W fun e w' => e = .returned (.tuple #[]) ∧
      ∃ p' st', StIn w' p' sb (48 * (d.hs.length + 1)) st' ∧ RepOk n i (showD d u) st' sl ∧ (st'.snaps.map Snap.blk = st.snaps.map Snap.blk) ∧ QT stoTag w p w' p' := by
  have hH : HistG n (d.hs ++ [u]) := h.ok.hist.snoc hu
  have hd : (histOf (d.hs ++ [u])).dot d.hs.length = ⟨(u.rep.toNat : Nat), u.seq⟩ := by
    rw [hH.dotJ (by simp), hu.repN]; simp
  have hS := ap_step h.ok hR hu
  rw [hd] at hS
  have h5 := h.ok.hist.n5
  have hrn := hu.rN
  have hc := cntR_le d.hs u.rep.toNat
  have hdo : (⟨(u.rep.toNat : Nat), u.seq⟩ : Dot).Ok := ⟨by show (0 : Int) ≤ ((u.rep.toNat : Nat) : Int); omega, by show ((u.rep.toNat : Nat) : Int) < 5; omega, seq_wf (by show (0 : Int) ≤ u.seq; rw [hu.seq]; omega) (by show u.seq ≤ 3000000; rw [hu.seq]; omega)⟩
  have hst := h.ok.start u
  have a := apply_st (P := fun left st' => MInv (histOf (d.hs ++ [u])) setPl d.hs.length left st st') (h.sto.below hB) (MapIn.move hM (hB.block _ hM.lt)) (by rw [hmt]; simp [stoTag]) (Nat.le_refl 16) hS hst hdo (by omega)
  refine a.mono ?_
  rintro e w' ⟨rfl, p', st', ⟨left, hMi, hl⟩, hI, hq⟩
  have hv : st'.vis.put (u.rep.toNat : Nat) u.seq = vecOf (visOf n (d.hs ++ [u])) := by
    rw [hMi.vis, h.ok.svis, h.ok.vis, put_vis (visOf_len _ _) h5 hrn, visOf_snoc hu.r0 hu.rn, visOf_get hrn, hu.seq]
  refine ⟨rfl, p', _, hI, ?_, ?_, (QT.ofBelow hB).trans hq⟩
  · show RepOk n i _ { st' with vis := st'.vis.put (u.rep.toNat : Nat) u.seq } sl
    rw [hv]
    exact h.ok.finish hu hMi hl
  · exact hMi.blks
end Go.Proofs.YtiplgdkpnhamaaaGreatDoor.Tv

namespace Go.Proofs.YtiplgdkpnhamaaaGreatDoor
open Go.RowKit Go.Sort
theorem info_wt : (Tryz.prog.info? 213).map (fun i => (i.zero, i.size, i.bytes)) = some (some (.agg #[.int .i64 0, .int .i64 0, .int .i64 0, .int .i64 0, .int .i64 0, .int .i64 0, .int .i64 0, .map none, .int .i64 0]), 9, 72) := by kernel_rfl
abbrev wtVal (y : Wt) : Value := .agg #[.int .i64 y.x.1.rep, .int .i64 y.x.1.seq, .int .i64 y.x.1.saw.a, .int .i64 y.x.1.saw.b, .int .i64 y.x.1.saw.c, .int .i64 y.x.1.saw.d, .int .i64 y.x.1.saw.e, .map (some y.x.2), .int .i64 y.nd]
theorem as_wt (v : Value) (W : World) : (Instr.typeAssert (.iface 213 v) 20 213 false).run Tryz.prog W = .ok v W := by kernel_rfl
def PushPost (w : World) (qb : Nat) (sv : Value) (l : List Wt) (y : Wt) (e : Ending) (w' : World) : Prop := e = .returned (.tuple #[]) ∧ ∃ sv', QIn 0 w' qb sv' (l ++ [y]) ∧ Touch (fun q => q = qb ∨ sv.ownBlock = some q) w w' ∧ ∀ q, sv'.ownBlock = some q → sv.ownBlock = some q ∨ w.heap.size ≤ q
set_option maxRecDepth 100000 in
set_option maxHeartbeats 8000000 in
theorem q_push (w : World) (qb : Nat) (sv : Value) (l : List Wt) (y : Wt) (hq : QIn 0 w qb sv l) (hl : l.length ≤ 100000000) :
    Calls Tryz.prog 294 #[bptr qb, .iface 213 (wtVal y)] w (PushPost w qb sv l y) := by
  have hta := as_wt
  obtain ⟨i0, hi, hz0, hz1, hz2⟩ := info_parts info_wt
  have HI := hide (⟨hi, hz0, hz1, hz2⟩ : _ ∧ _ ∧ _ ∧ _)
  clear hi hz0 hz1 hz2
  obtain ⟨⟨⟨r, sq, ⟨a, b, c, d, e⟩, wm⟩, mb⟩, nd⟩ := y
  show Calls _ _ #[bptr qb, .iface 213 (.agg #[.int .i64 r, .int .i64 sq, .int .i64 a, .int .i64 b, .int .i64 c, .int .i64 d, .int .i64 e, .map (some mb), .int .i64 nd])] _ _
  have hc := hq.cell
  have hlq : qb < w.heap.size := hq.blk.lt
  have hne := hq.ne
  obtain ⟨ao, cap, rfl, hcap, hmx, -⟩ := Row.shape (ownsRow_low hq.row (Nat.zero_le _))
  have hW : Blk (w.alloc (.cells #[.int .i64 r, .int .i64 sq, .int .i64 a, .int .i64 b, .int .i64 c, .int .i64 d, .int .i64 e, .map (some mb), .int .i64 nd] 213)).drew w.heap.size [.int .i64 r, .int .i64 sq, .int .i64 a, .int .i64 b, .int .i64 c, .int .i64 d, .int .i64 e, .map (some mb), .int .i64 nd] 213 := heap_alloc_new w _
  have HNEW := hide (news_at hW)
  have HK : Hid (∀ w5, (w.alloc (.cells #[.int .i64 r, .int .i64 sq, .int .i64 a, .int .i64 b, .int .i64 c, .int .i64 d, .int .i64 e, .map (some mb), .int .i64 nd] 213)).drew.grownBy w5 (Value.slice ao l.length cap).ownBlock → w5.cell? ⟨qb, 0, none⟩ = some (.slice ao l.length cap) ∧ w5.frozen? ⟨qb, 0, none⟩ = false ∧ qb < w5.heap.size ∧ Blk w5 qb [.slice ao l.length cap] 208) := fun w5 g => by
    have e5 : w5.heap[qb]? = w.heap[qb]? := (g.block qb (by show qb < (w.alloc _).heap.size; simp; omega) (fun e => hne e.symm)).trans (Below.heap_alloc _ _ _ hlq)
    have b5 : Blk w5 qb [.slice ao l.length cap] 208 := hq.blk.move e5
    exact ⟨b5.cell 0, b5.frozen _, b5.lt, b5⟩
  have HH := hide (⟨hq, hl⟩ : _ ∧ _)
  clear hq hl hW hne hcap hmx
  go_enter Tryz.func294, Tryz.ntmps294
  go_upto_region 0 with (fail)
  go_region_law (refine step_append_own rfl _ _ 208 rfl 213 i0 (.agg #[.int .i64 0, .int .i64 0, .int .i64 0, .int .i64 0, .int .i64 0, .int .i64 0, .int .i64 0, .map none, .int .i64 0]) 9 72 Tryz.underlying208 HI.out.1 HI.out.2.1 HI.out.2.2.1 HI.out.2.2.2 rfl (by decide) (.slice ao l.length cap) l.length (l.flatMap wtCells) (by simp [Act.eval]) (by exact World.ownsRow.alloc (ownsRow_low HH.out.1.row (Nat.zero_le _)) _) ⟨w.heap.size, 0, none⟩ 1 1 [.int .i64 r, .int .i64 sq, .int .i64 a, .int .i64 b, .int .i64 c, .int .i64 d, .int .i64 e, .map (some mb), .int .i64 nd] (by simp [Act.eval]) rfl (by exact HNEW.out) (by intro u hu; simp at hu; rcases hu with rfl | rfl | rfl | rfl | rfl | rfl | rfl | rfl | rfl <;> rfl) (by have := HH.out.2; unfold maxLen; omega) (by have := HH.out.2; omega) ?_; intro v5 w5 r1 r2 r3; obtain ⟨k1, k2, k3, k4⟩ := HK.out w5 r2; obtain ⟨g5, cap5, rfl, -, -, -, -, -⟩ := Row.pos r1 (by omega); have HR5 := hide (⟨r1, r2, r3, k4⟩ : _ ∧ _ ∧ _ ∧ _); clear r1 r2 r3 k4)
  all_goals go_wp2_with fail
  all_goals
    go_end0
    obtain ⟨r1, r2, r3, k4⟩ := HR5.out
    obtain ⟨hq, hl⟩ := HH.out
    have r3' : ∀ q, (Value.slice (some ⟨g5, 0, none⟩) (l.length + 1) cap5).ownBlock = some q → (Value.slice ao l.length cap).ownBlock = some q ∨ w.heap.size ≤ q := fun q hq' => by
      rcases r3 with c | c
      · rw [c] at hq'; exact Or.inl hq'
      · rw [c] at hq'; cases hq'; exact Or.inr (by show w.heap.size ≤ (w.alloc _).heap.size; simp)
    have hT : Touch (fun q => q = qb ∨ (Value.slice ao l.length cap).ownBlock = some q) w w5 := by
      have a0 : Touch (fun q => q = qb ∨ (Value.slice ao l.length cap).ownBlock = some q) w (w.alloc (.cells #[.int .i64 r, .int .i64 sq, .int .i64 a, .int .i64 b, .int .i64 c, .int .i64 d, .int .i64 e, .map (some mb), .int .i64 nd] 213)).drew := ((Touch.refl _ _).alloc _).drew
      exact a0.grown r2 fun k hk => Or.inl (Or.inr hk)
    refine ⟨rfl, .slice (some ⟨g5, 0, none⟩) (l.length + 1) cap5, ⟨k4.set 0 _, ?_⟩, hT.setCell (Or.inl (Or.inl rfl)) _, r3'⟩
    have hne5 : g5 ≠ qb := fun c => own_other k4 r1 (by decide) (by rw [c]; rfl)
    have hcells : (l ++ [(⟨(⟨r, sq, ⟨a, b, c, d, e⟩, wm⟩, mb), nd⟩ : Wt)]).flatMap wtCells = l.flatMap wtCells ++ [.int .i64 r, .int .i64 sq, .int .i64 a, .int .i64 b, .int .i64 c, .int .i64 d, .int .i64 e, .map (some mb), .int .i64 nd] := by rw [List.flatMap_append]; rfl
    show World.ownsRow _ _ _ _ _ (l ++ [_]).length _
    rw [hcells, List.length_append]
    exact own_move r1 fun q hq' => Below.heap_setCell _ _ _ _ fun c' => hne5 (by simp [Value.ownBlock] at hq'; rw [hq']; exact c')
end Go.Proofs.YtiplgdkpnhamaaaGreatDoor

namespace Go.Proofs.YtiplgdkpnhamaaaGreatDoor.Tv
open Go.RowKit
def CommitOk : Prop := ∀ (xq : DX) (w : World) (p : Nat → Own) (b n i : Nat) (d : DRep) (tx : Int), RepIn xq w p b n i d → d.hs.length ≤ 1100000 →
  Calls Tryz.prog 32 #[bptr b, .int .i64 tx] w fun e w' => e = .returned (commitAns i d tx) ∧ ∃ p', RepIn xq w' p' b n i (commitD i d tx) ∧ QW w p w' p'
end Go.Proofs.YtiplgdkpnhamaaaGreatDoor.Tv
