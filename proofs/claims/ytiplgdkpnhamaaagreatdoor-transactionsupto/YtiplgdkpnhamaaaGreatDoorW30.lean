/- The texts K1, K2, K3, K4, K6, K10, joined. -/
import Derived.Test.YtiplgdkpnhamaaaGreatDoorW29
import Derived.Test.YtiplgdkpnhamaaaGreatDoorW25
import Derived.Test.YtiplgdkpnhamaaaGreatDoorW27
import Derived.Test.YtiplgdkpnhamaaaGreatDoorW23
import Derived.Test.YtiplgdkpnhamaaaGreatDoorW09
import Derived.Test.YtiplgdkpnhamaaaGreatDoorW04
import Derived.Test.YtiplgdkpnhamaaaGreatDoorW12
import Derived.Test.YtiplgdkpnhamaaaGreatDoorW08

/- A replica of the program in memory. -/
namespace Go.Proofs.YtiplgdkpnhamaaaGreatDoor
open Go.RowKit

/-- An open transaction. -/
structure TxP (w : World) (p : Nat → Own) (k nb tb mb : Nat) (t : RTx) : Prop where
  blk : Qb w p (.tx k) tb [bptr nb, .int .i64 t.ops.length, .map (some mb)] 122
  ownT : p mb = .own k
  own : MapIn w 129 mb t.ops.length Place.val Wr.val (ownOf t.ops)
def opv (d : DRep) (tbs : Nat → Nat) (k : Nat) : Value := if (d.opn k).isSome then bptr (tbs k) else .pointer none
def opvs (d : DRep) (tbs : Nat → Nat) : List Value := [opv d tbs 0, opv d tbs 1, opv d tbs 2, opv d tbs 3, opv d tbs 4, opv d tbs 5]
structure RepP (w : World) (p : Nat → Own) (b n i : Nat) (d : DRep) (sb : Nat) (st : St) (sl tbs mbs : Nat → Nat) (hv kn : List Value) : Prop where
  blk : Qb w p .rep b (repCells i n sb hv kn (opvs d tbs)) 114
  hlen : hv.length = 5
  klen : kn.length = 25
  sto : StIn w p sb (48 * d.hs.length) st
  ok : RepOk n i d st sl
  held : ∀ r (h : r < hv.length), ∃ m xs, m ≤ d.hs.length ∧ Qc w p (.held r) 139 8 hv[r] m xs
  tx : ∀ k t, d.opn k = some t → TxP w p k (sl k) (tbs k) (mbs k) t
  snp : ∀ c, c ∈ st.snaps.map Snap.blk → ∃ j, (d.opn j).isSome ∧ c = sl j
def RepIn (w : World) (p : Nat → Own) (b n i : Nat) (d : DRep) : Prop := ∃ sb st sl tbs mbs hv kn, RepP w p b n i d sb st sl tbs mbs hv kn

section
variable {w w' : World} {p p' : Nat → Own} {b n i k : Nat} {d : DRep} {sb : Nat} {st : St} {sl tbs mbs : Nat → Nat} {hv kn : List Value} {t : RTx} {nb tb mb : Nat}
theorem TxP.move (h : TxP w p k nb tb mb t) (hm : ∀ q, q < w.heap.size → p q ≠ .other → w'.heap[q]? = w.heap[q]? ∧ p' q = p q) : TxP w' p' k nb tb mb t := by
  have := hm mb h.own.lt (by rw [h.ownT]; simp)
  exact ⟨h.blk.move2 (fun q hq e => by have := hm q hq (by rw [e]; simp); exact ⟨this.1, this.2.trans e⟩), this.2.trans h.ownT, h.own.move this.1⟩
theorem RepP.move (h : RepP w p b n i d sb st sl tbs mbs hv kn) (hm : ∀ q, q < w.heap.size → p q ≠ .other → w'.heap[q]? = w.heap[q]? ∧ p' q = p q) : RepP w' p' b n i d sb st sl tbs mbs hv kn := by
  have f : ∀ u, u ≠ Own.other → ∀ q, q < w.heap.size → p q = u → w'.heap[q]? = w.heap[q]? ∧ p' q = u := fun u hu q hq e => by
    have := hm q hq (by rw [e]; exact hu)
    exact ⟨this.1, this.2.trans e⟩
  obtain ⟨vb, cb, eb, ov, cv, ev, kv, hs⟩ := h.sto
  refine ⟨h.blk.move2 (f _ (by simp)), h.hlen, h.klen, ⟨vb, cb, eb, ov, cv, ev, kv, hs.move fun q hq e => hm q hq (fun c => by rw [c] at e; exact e)⟩, h.ok, fun r hr => ?_, fun k t e => (h.tx k t e).move hm, h.snp⟩
  obtain ⟨m, xs, h1, h2⟩ := h.held r hr
  exact ⟨m, xs, h1, h2.move2 (f _ (by simp))⟩
theorem RepIn.move (h : RepIn w p b n i d) (hm : ∀ q, q < w.heap.size → p q ≠ .other → w'.heap[q]? = w.heap[q]? ∧ p' q = p q) : RepIn w' p' b n i d := by
  obtain ⟨sb, st, sl, tbs, mbs, hv, kn, h⟩ := h
  exact ⟨sb, st, sl, tbs, mbs, hv, kn, h.move hm⟩
theorem RepP.below (h : RepP w p b n i d sb st sl tbs mbs hv kn) (hb : Below w.heap.size w w') : RepP w' p b n i d sb st sl tbs mbs hv kn := h.move fun q hq _ => ⟨hb.block q hq, rfl⟩
theorem RepP.opn6 (h : RepP w p b n i d sb st sl tbs mbs hv kn) (e : d.opn k = some t) : k < 6 := by
  by_cases c : k < 6
  · exact c
  · rw [h.ok.six k (by omega)] at e; cases e
theorem RepP.snaps6 (h : RepP w p b n i d sb st sl tbs mbs hv kn) : st.snaps.length ≤ 6 := by
  have a := nodup_len (l := st.snaps.map Snap.blk) (m := (List.range 6).map sl) h.ok.ginv.wf.blks (fun c hc => by
    obtain ⟨j, h1, h2⟩ := h.snp c hc
    obtain ⟨t, ht⟩ := Option.isSome_iff_exists.1 h1
    exact List.mem_map.2 ⟨j, List.mem_range.2 (h.opn6 ht), h2.symm⟩)
  simpa using a
theorem opvs_get {d : DRep} {tbs : Nat → Nat} (hk : k < 6) : (opvs d tbs)[k]? = some (opv d tbs k) := by
  have : k = 0 ∨ k = 1 ∨ k = 2 ∨ k = 3 ∨ k = 4 ∨ k = 5 := by omega
  rcases this with rfl | rfl | rfl | rfl | rfl | rfl <;> rfl
theorem RepP.cellOp (h : RepP w p b n i d sb st sl tbs mbs hv kn) (hk : k < 6) : w.cell? ⟨b, 33 + k, none⟩ = some (opv d tbs k) := by
  rw [h.blk.blk.cell (33 + k), repCells_op h.hlen h.klen, opvs_get hk]
theorem RepP.cellOf (h : RepP w p b n i d sb st sl tbs mbs hv kn) : w.cell? ⟨b, 0, none⟩ = some (.int .i64 i) ∧ w.cell? ⟨b, 1, none⟩ = some (.int .i64 n) ∧ w.cell? ⟨b, 2, none⟩ = some (bptr sb) := by
  refine ⟨?_, ?_, ?_⟩
  · rw [h.blk.blk.cell 0]; rfl
  · rw [h.blk.blk.cell 1]; rfl
  · rw [h.blk.blk.cell 2]; rfl
/-- find. -/
theorem RepP.find_none (h : RepP w p b n i d sb st sl tbs mbs hv kn) {tx : Int} (e : opnAt d tx = none) :
    Calls Tryz.prog 60 #[bptr b, .int .i64 tx] w fun e w' => e = .returned (.pointer none) ∧ w' = w := by
  by_cases hr : tx < 0 ∨ 6 ≤ tx
  · exact find_no w b tx hr
  · obtain ⟨k, rfl⟩ : ∃ k : Nat, tx = k := ⟨tx.toNat, by omega⟩
    have hk : k < 6 := by omega
    unfold opnAt at e
    rw [if_pos (by omega)] at e
    have hc := h.cellOp hk
    unfold opv at hc
    rw [show (k : Int).toNat = k by omega] at e
    rw [e] at hc
    exact find_at w b k _ hk hc
theorem RepP.find_some (h : RepP w p b n i d sb st sl tbs mbs hv kn) {tx : Int} (e : opnAt d tx = some t) :
    ∃ k : Nat, tx = k ∧ k < 6 ∧ d.opn k = some t ∧ Calls Tryz.prog 60 #[bptr b, .int .i64 tx] w fun e w' => e = .returned (bptr (tbs k)) ∧ w' = w := by
  unfold opnAt at e
  split at e
  · rename_i h0
    obtain ⟨k, rfl⟩ : ∃ k : Nat, tx = k := ⟨tx.toNat, by omega⟩
    rw [show (k : Int).toNat = k by omega] at e
    have hk := h.opn6 e
    have hc := h.cellOp hk
    unfold opv at hc
    rw [e] at hc
    exact ⟨k, rfl, hk, e, find_at w b k _ hk hc⟩
  · cases e
end

/-- The program's replica, for the law. -/
def PR (w : World) (o : Nat → Tag) (t : Tag) (b n i : Nat) (d : DRep) : Prop := ∃ p : Nat → Own, (∀ q, q < w.heap.size → p q ≠ .other → o q = t) ∧ RepIn w p b n i d
def notOther (u : Own) : Prop := u ≠ .other
theorem sto_not {u : Own} (h : stoTag u) : notOther u := fun e => by rw [e] at h; exact h
theorem PR.move {w w' : World} {o o' : Nat → Tag} {t : Tag} {b n i : Nat} {d : DRep} (h : PR w o t b n i d) (hm : ∀ q, q < w.heap.size → o q = t → w'.heap[q]? = w.heap[q]? ∧ o' q = t) : PR w' o' t b n i d := by
  obtain ⟨p, h1, h2⟩ := h
  refine ⟨fun q => if q < w.heap.size then p q else .other, fun q hq hne => ?_, h2.move fun q hq hne => ⟨(hm q hq (h1 q hq hne)).1, by simp [hq]⟩⟩
  dsimp only at hne
  split at hne
  · rename_i c; exact (hm q c (h1 q c hne)).2
  · exact absurd rfl hne
/-- A call of the inner words gives a call of the outer. -/
theorem PR.out {w w' : World} {o : Nat → Tag} {t : Tag} {b n i : Nat} {d' : DRep} {p p' : Nat → Own} (h1 : ∀ q, q < w.heap.size → p q ≠ .other → o q = t) (h : RepIn w' p' b n i d') (k : QT notOther w p w' p') : ∃ o', PR w' o' t b n i d' ∧ TouchT (· = t) w o w' o' := by
  refine ⟨own2 o w.heap.size fun _ => t, ⟨p', fun q hq hne => ?_, h⟩, ⟨k.touch.mono fun q hq e => h1 q hq e, fun q hq => own2_low hq⟩⟩
  by_cases c : q < w.heap.size
  · rw [own2_low c]; rw [k.same q c] at hne; exact h1 q c hne
  · rw [own2_high (by omega)]

end Go.Proofs.YtiplgdkpnhamaaaGreatDoor

/- The program's Replica.end and Abort. -/
namespace Go.Proofs.YtiplgdkpnhamaaaGreatDoor
open Go.RowKit

theorem repCells_set {i n : Int} {sb : Nat} {hv kn op : List Value} (h1 : hv.length = 5) (h2 : kn.length = 25) (k : Nat) (x : Value) : (repCells i n sb hv kn op).set (33 + k) x = repCells i n sb hv kn (op.set k x) := by
  unfold repCells
  rw [List.set_append_right _ _ (by simp; omega)]
  congr 2
  simp; omega
theorem opvs_set {d : DRep} {tbs : Nat → Nat} {k : Nat} {t? : Option RTx} (hk : k < 6) (tb : Nat) : (opvs d tbs).set k (if t?.isSome then bptr tb else .pointer none) = opvs { d with opn := setSlot d.opn k t? } (fun q => if q = k then tb else tbs q) := by
  have : k = 0 ∨ k = 1 ∨ k = 2 ∨ k = 3 ∨ k = 4 ∨ k = 5 := by omega
  rcases this with rfl | rfl | rfl | rfl | rfl | rfl <;> simp [opvs, opv, setSlot]
theorem opvs_end {d : DRep} {tbs : Nat → Nat} {k : Nat} (hk : k < 6) : (opvs d tbs).set k (.pointer none) = opvs { d with opn := setSlot d.opn k none } tbs := by
  have : k = 0 ∨ k = 1 ∨ k = 2 ∨ k = 3 ∨ k = 4 ∨ k = 5 := by omega
  rcases this with rfl | rfl | rfl | rfl | rfl | rfl <;> simp [opvs, opv, setSlot]
theorem kept_room {n i : Nat} {d : DRep} {st : St} {sl : Nat → Nat} (h : RepOk n i d st sl) (hR : d.hs.length ≤ 1100000) {m : Nat} (hm : m ≤ 40000000) : KeptRoom st m := fun s hs => by
  have := h.kept_len s hs
  omega

set_option maxRecDepth 100000 in
set_option maxHeartbeats 4000000 in
theorem end_any {w : World} {p : Nat → Own} {b n i k : Nat} {d : DRep} {sb : Nat} {st : St} {sl tbs mbs : Nat → Nat} {hv kn : List Value} {t : RTx} (h : RepP w p b n i d sb st sl tbs mbs hv kn) (hR : d.hs.length ≤ 1100000) (ht : d.opn k = some t) :
    Calls Tryz.prog 65 #[bptr b, .int .i64 k] w fun e w' => e = .returned (.tuple #[]) ∧ ∃ p' st', RepP w' p' b n i { d with opn := setSlot d.opn k none } sb st' sl tbs mbs hv kn ∧ QT notOther w p w' p' ∧ TxP w' p' k (sl k) (tbs k) (mbs k) t ∧
      Blk w' (sl k) [bptr sb, .int .i64 (vecOf t.saw).a, .int .i64 (vecOf t.saw).b, .int .i64 (vecOf t.saw).c, .int .i64 (vecOf t.saw).d, .int .i64 (vecOf t.saw).e, .slice none 0 0] 186 := by
  have hk := h.opn6 ht
  obtain ⟨hto, s, hs, hb, hsaw⟩ := h.ok.opn k t ht
  have hT := h.tx k t ht
  have hcl := close_st h.sto h.ok.ginv.wf hs (kept_room h.ok hR (by have := h.ok.kept_len s hs; omega)) (by omega)
  rw [hb] at hcl
  have c1 := h.cellOp hk
  unfold opv at c1
  rw [ht] at c1
  have c1' : w.cell? ⟨b, 33 + k, none⟩ = some (bptr (tbs k)) := c1
  have c2 : w.cell? ⟨tbs k, 0, none⟩ = some (bptr (sl k)) := hT.blk.blk.cell 0
  have l1 := h.blk.blk.lt
  have l2 := hT.blk.blk.lt
  have e1 : ¬ (k : Int) < 0 := by omega
  have e2 : (k : Int) < 6 := by omega
  have HCL := hide hcl
  have HH := hide (⟨h, hT, hs, hb, hsaw⟩ : _ ∧ _ ∧ _ ∧ _ ∧ _)
  have HT := hide ht
  clear h hT hs hb hsaw hto hcl c1 ht
  go_enter Tryz.func65, Tryz.ntmps65
  go_wp2_with fail
  refine HCL.out.mono ?_
  rintro e w1 ⟨rfl, p1, hI1, hq1, hB1⟩
  obtain ⟨h, hT, hs, hb, hsaw⟩ := HH.out
  have b1 := h.blk.touch hq1 (by simp [stoTag])
  have d1 : w1.cell? ⟨b, 33 + k, none⟩ = some (bptr (tbs k)) := by
    rw [b1.blk.cell (33 + k), repCells_op h.hlen h.klen, opvs_get hk]
    unfold opv; rw [HT.out]; rfl
  have f1 : w1.frozen? ⟨b, 33 + k, none⟩ = false := b1.blk.frozen (33 + k)
  have l3 : b < w1.heap.size := b1.blk.lt
  have H1 := hide (⟨hI1, hq1, hB1, b1⟩ : _ ∧ _ ∧ _ ∧ _)
  clear h hT hs hb hsaw hI1 hq1 hB1 b1 c1' c2
  go_wp2_with fail
  go_end0
  obtain ⟨h, hT, hs, hb, hsaw⟩ := HH.out
  obtain ⟨hI1, hq1, hB1, b1⟩ := H1.out
  have q2 : QT (· = .rep) w1 p1 (w1.setCell ⟨b, 33 + k, none⟩ (.pointer none)) p1 := (QT.refl _ _ _).set (p := ⟨b, 33 + k, none⟩) b1.tag _
  have qf : QT notOther w p (w1.setCell ⟨b, 33 + k, none⟩ (.pointer none)) p1 := (hq1.mono fun u hu => sto_not hu).trans (q2.mono fun u hu => by rw [hu]; simp [notOther])
  have b2 := b1.set (33 + k) (.pointer none)
  rw [repCells_set h.hlen h.klen, opvs_end hk] at b2
  have hI2 : StIn (w1.setCell ⟨b, 33 + k, none⟩ (.pointer none)) p1 sb (48 * d.hs.length) (closeSt st s) := by
    obtain ⟨vb, cb, eb, ov, cv, ev, kv, hs1⟩ := hI1
    exact ⟨vb, cb, eb, ov, cv, ev, kv, hs1.touch q2 (fun u hu e => by rw [e] at hu; exact hu)⟩
  have mv : ∀ {k' nb' tb' mb' : Nat} {t' : RTx}, TxP w p k' nb' tb' mb' t' → TxP (w1.setCell ⟨b, 33 + k, none⟩ (.pointer none)) p1 k' nb' tb' mb' t' := fun {k' nb' tb' mb' t'} hx => by
    have o1 : p1 mb' = .own k' := (hq1.same _ hx.own.lt).trans hx.ownT
    have m1 : MapIn w1 129 mb' t'.ops.length Place.val Wr.val (ownOf t'.ops) := hx.own.movet hq1 (by rw [hx.ownT]; simp [stoTag])
    exact ⟨(hx.blk.touch hq1 (by simp [stoTag])).touch q2 (by simp), o1, m1.movet q2 (by rw [o1]; simp)⟩
  refine ⟨rfl, p1, closeSt st s, ⟨b2, h.hlen, h.klen, hI2, h.ok.close (by omega) HT.out hs hb, fun r hr => ?_, fun k' t' e' => ?_, fun c hc => ?_⟩, qf, mv hT, ?_⟩
  · obtain ⟨m, xs, x1, x2⟩ := h.held r hr
    exact ⟨m, xs, x1, (x2.touch hq1 (by simp [stoTag])).touch q2 (by simp)⟩
  · by_cases c : k' = k
    · subst c; rw [show ({ d with opn := setSlot d.opn k' none } : DRep).opn k' = none from setSlot_same _ _ _] at e'; cases e'
    · rw [show ({ d with opn := setSlot d.opn k none } : DRep).opn k' = d.opn k' from setSlot_other c] at e'
      exact mv (h.tx k' t' e')
  · have hc' : c ∈ (closeSt st s).snaps.map Snap.blk := hc
    unfold closeSt at hc'
    rw [(entrusts_but s.kept _).2.1] at hc'
    obtain ⟨s0, g1, rfl⟩ := List.mem_map.1 hc'
    obtain ⟨g2, g3⟩ := List.mem_filter.1 g1
    obtain ⟨j, j1, j2⟩ := h.snp s0.blk (List.mem_map.2 ⟨s0, g2, rfl⟩)
    refine ⟨j, ?_, j2⟩
    have : j ≠ k := fun e => by subst e; rw [← hb] at j2; simp [j2] at g3
    show (setSlot d.opn k none j).isSome
    rw [setSlot_other this]; exact j1
  · rw [hsaw] at hB1
    rw [← hb] at hB1 ⊢
    refine hB1.other (fun e => ?_) _
    have hsn : p s.blk = .snap s.blk := by
      obtain ⟨vb, cb, eb, ov, cv, ev, kv, hs1⟩ := h.sto
      exact (hs1.snap s hs).tag
    have hbt := h.blk.tag
    have e' : s.blk = b := by first | exact e | exact e.symm
    rw [e', hbt] at hsn
    cases hsn

set_option maxRecDepth 100000 in
theorem abort_any {w : World} {p : Nat → Own} {b n i : Nat} {d : DRep} (h : RepIn w p b n i d) (hR : d.hs.length ≤ 1100000) (tx : Int) :
    Calls Tryz.prog 34 #[bptr b, .int .i64 tx] w fun e w' => e = .returned (abortAns d tx) ∧ ∃ p', RepIn w' p' b n i (abortD d tx) ∧ QT notOther w p w' p' := by
  obtain ⟨sb, st, sl, tbs, mbs, hv, kn, h⟩ := h
  cases ho : opnAt d tx with
  | none =>
    have hf := h.find_none ho
    have HF := hide hf
    have HH := hide h
    have ea : abortAns d tx = .int .i64 4 := by unfold abortAns; rw [ho]; rfl
    have ed : abortD d tx = d := by unfold abortD; rw [ho]; rfl
    rw [ea, ed]
    clear hf h ho
    go_enter Tryz.func34, Tryz.ntmps34
    go_wp2_with (go_at_call 60; refine HF.out.mono ?_; rintro e w1 ⟨rfl, rfl⟩)
    go_ret
    exact ⟨rfl, p, ⟨sb, st, sl, tbs, mbs, hv, kn, HH.out⟩, QT.refl _ _ _⟩
  | some t =>
    obtain ⟨k, rfl, hk, hok, hf⟩ := h.find_some ho
    have he := end_any h hR hok
    have HF := hide hf
    have HE := hide he
    have ea : abortAns d k = .int .i64 0 := by unfold abortAns; rw [ho]; rfl
    have ed : abortD d k = { d with opn := setSlot d.opn k none } := by unfold abortD endD; rw [ho]; simp
    rw [ea, ed]
    clear hf h ho he
    go_enter Tryz.func34, Tryz.ntmps34
    go_wp2_with (first | (go_at_call 60; refine HF.out.mono ?_; rintro e w1 ⟨rfl, rfl⟩) | (go_at_call 65; refine HE.out.mono ?_; rintro e w2 ⟨rfl, p2, st2, h2, q2, -, -⟩))
    go_ret
    exact ⟨rfl, p2, ⟨sb, st2, sl, tbs, mbs, hv, kn, h2⟩, q2⟩

end Go.Proofs.YtiplgdkpnhamaaaGreatDoor

/- The program's Replica.Add, Write, Insert, Remove. -/
namespace Go.Proofs.YtiplgdkpnhamaaaGreatDoor
open Go.RowKit

theorem opvs_same {d : DRep} {tbs : Nat → Nat} {k : Nat} {t t' : RTx} (h : d.opn k = some t) : opvs { d with opn := setSlot d.opn k (some t') } tbs = opvs d tbs := by
  have e : ∀ j, opv { d with opn := setSlot d.opn k (some t') } tbs j = opv d tbs j := fun j => by
    unfold opv
    by_cases c : j = k
    · subst c; simp [setSlot, h]
    · simp [setSlot, c]
  simp [opvs, e]
theorem plOf_ok {o : ROp} (h1 : o.key.size ≤ maxLen) (h2 : ¬ o.kind = 1 → o.value.size ≤ maxLen) : (plOf o).key.size ≤ maxLen ∧ (plOf o).el.size ≤ maxLen := by
  unfold plOf; split
  · exact ⟨h1, no_size⟩
  · rename_i c; exact ⟨h1, h2 (fun e => c (Or.inl e))⟩
theorem key_small {o : ROp} (h : OpOk o) : o.key.size ≤ 8 := by
  by_cases c : 1 ≤ o.key.size ∧ o.key.size ≤ 8
  · exact c.2
  · have := h.key; rw [kindOf_long c] at this; unfold kindByte at this; split at this
    · omega
    · split at this <;> omega
theorem small_max {n : Nat} (h : n ≤ 8) : n ≤ maxLen := by unfold maxLen; omega

def wroteD (d : DRep) (k : Nat) (t : RTx) (o : ROp) : DRep := if 16 ≤ t.ops.length then d else { d with opn := setSlot d.opn k (some { t with ops := t.ops ++ [o] }) }
theorem write_in {w : World} {p : Nat → Own} {b n i k : Nat} {d : DRep} {sb : Nat} {st : St} {sl tbs mbs : Nat → Nat} {hv kn : List Value} {t : RTx} (h : RepP w p b n i d sb st sl tbs mbs hv kn) (ht : d.opn k = some t) {o : ROp} (ho : OpOk o) (hvs : ¬ o.kind = 1 → o.value.size ≤ maxLen) :
    Calls Tryz.prog 62 #[bptr (tbs k), (plOf o).val, (wrOf o).val] w fun e w' => e = .returned (.int .i64 (if 16 ≤ t.ops.length then 5 else 0)) ∧ ∃ p', RepIn w' p' b n i (wroteD d k t o) ∧ QT notOther w p w' p' := by
  have hT := h.tx k t ht
  obtain ⟨hto, -⟩ := h.ok.opn k t ht
  have hfew := hto.few
  unfold wroteD
  by_cases c : 16 ≤ t.ops.length
  · rw [if_pos c, if_pos c]
    have e16 : ((t.ops.length : Nat) : Int) = 16 := by omega
    have hB := hT.blk.blk
    rw [e16] at hB
    refine (twrite_full w (tbs k) _ _ (plOf o) (wrOf o) hB).mono ?_
    rintro e w' ⟨rfl, hb⟩
    exact ⟨rfl, p, ⟨sb, st, sl, tbs, mbs, hv, kn, h.below hb⟩, QT.ofBelow hb⟩
  · rw [if_neg c, if_neg c]
    obtain ⟨s1, s2⟩ := plOf_ok (small_max (key_small ho)) hvs
    have hne : tbs k ≠ mbs k := fun e => by have := hT.blk.tag; rw [e, hT.ownT] at this; cases this
    refine (twrite_ok w (tbs k) (mbs k) t.ops.length _ _ (ownOf t.ops) (plOf o) (wrOf o) hT.blk.blk hT.own hne (by omega) (by omega) s1 s2 (by unfold maxLen; omega)).mono ?_
    rintro e w' ⟨rfl, hB1, hM1, hT1⟩
    have q1 : QT (fun u => u = .tx k ∨ u = .own k) w p w' p := ⟨hT1.mono fun q _ e => by rcases e with rfl | rfl; exact Or.inl hT.blk.tag; exact Or.inr hT.ownT, fun _ _ => rfl⟩
    have hlen : (t.ops ++ [o]).length = t.ops.length + 1 := by simp
    refine ⟨rfl, p, ⟨sb, st, sl, tbs, mbs, hv, kn, ?_, h.hlen, h.klen, ?_, h.ok.does ht ho hvs (by omega), fun r hr => ?_, fun k' t' e' => ?_, fun c hc => ?_⟩, q1.mono fun u hu => by rcases hu with rfl | rfl <;> simp [notOther]⟩
    · rw [opvs_same ht]; exact h.blk.touch q1 (by simp)
    · obtain ⟨vb, cb, eb, ov, cv, ev, kv, hs1⟩ := h.sto
      exact ⟨vb, cb, eb, ov, cv, ev, kv, hs1.touch q1 (fun u hu e => by rcases e with rfl | rfl <;> exact hu)⟩
    · obtain ⟨m, xs, x1, x2⟩ := h.held r hr
      exact ⟨m, xs, x1, x2.touch q1 (by simp)⟩
    · by_cases c' : k' = k
      · subst c'
        rw [show ({ d with opn := setSlot d.opn k' (some { t with ops := t.ops ++ [o] }) } : DRep).opn k' = some { t with ops := t.ops ++ [o] } from setSlot_same _ _ _] at e'
        cases e'
        refine ⟨⟨?_, hT.blk.tag⟩, hT.ownT, ?_⟩
        · show Blk w' (tbs k') [bptr (sl k'), .int .i64 ((t.ops ++ [o]).length : Nat), .map (some (mbs k'))] _
          rw [hlen]
          exact hB1
        · show MapIn w' _ (mbs k') (t.ops ++ [o]).length Place.val Wr.val (ownOf (t.ops ++ [o]))
          rw [hlen, ownOf_snoc]
          exact hM1
      · rw [show ({ d with opn := setSlot d.opn k (some { t with ops := t.ops ++ [o] }) } : DRep).opn k' = d.opn k' from setSlot_other c'] at e'
        have hx := h.tx k' t' e'
        exact ⟨hx.blk.touch q1 (by simp [c']), hx.ownT, hx.own.movet q1 (by rw [hx.ownT]; simp [c'])⟩
    · obtain ⟨j, j1, j2⟩ := h.snp c hc
      refine ⟨j, ?_, j2⟩
      show (setSlot d.opn k (some { t with ops := t.ops ++ [o] }) j).isSome
      by_cases c' : j = k
      · subst c'; rw [setSlot_same]; rfl
      · rw [setSlot_other c']; exact j1

/-- All that may go before: boxes, clones. -/
theorem write_after {w : World} {p : Nat → Own} {b n i k : Nat} {d : DRep} {sb : Nat} {st : St} {sl tbs mbs : Nat → Nat} {hv kn : List Value} {t : RTx} (h : RepP w p b n i d sb st sl tbs mbs hv kn) (ht : d.opn k = some t) {o : ROp} (ho : OpOk o) (hvs : ¬ o.kind = 1 → o.value.size ≤ maxLen) {W : World} (hB : Below w.heap.size w W) :
    Calls Tryz.prog 62 #[bptr (tbs k), (plOf o).val, (wrOf o).val] W fun e w' => e = .returned (.int .i64 (if 16 ≤ t.ops.length then 5 else 0)) ∧ ∃ p', RepIn w' p' b n i (wroteD d k t o) ∧ QT notOther w p w' p' :=
  (write_in (h.below hB) ht ho hvs).mono (by
    rintro e w' ⟨rfl, p', h1, h2⟩
    exact ⟨rfl, p', h1, (QT.ofBelow hB).trans h2⟩)

set_option maxRecDepth 100000 in
set_option maxHeartbeats 4000000 in
theorem add_call {w : World} {p : Nat → Own} {b n i : Nat} {d : DRep} (h : RepIn w p b n i d) (tx : Int) (o : ROp) (hkd : o.kind = 1) (hks : o.key.size ≤ maxLen) :
    Calls Tryz.prog 28 #[bptr b, .int .i64 tx, .string o.key, .int .i64 o.amount] w fun e w' => e = .returned (.int .i64 (doesErr (opnAt d tx) o)) ∧ ∃ p', RepIn w' p' b n i (doesD d tx o) ∧ QT notOther w p w' p' := by
  obtain ⟨sb, st, sl, tbs, mbs, hv, kn, h⟩ := h
  have hth := fun W => thing_any o.key W hks
  have HTH := hide hth
  have HH := hide h
  clear hth
  cases ho : opnAt d tx with
  | none =>
    have hf := h.find_none ho
    have HF := hide hf
    have ed : doesD d tx o = d := by unfold doesD; rw [ho]
    have ea : doesErr none o = 4 := rfl
    rw [ed, ea]
    clear hf h ho ed ea
    go_enter Tryz.func28, Tryz.ntmps28
    go_wp2_with (go_at_call 60; refine HF.out.mono ?_; rintro e w1 ⟨rfl, rfl⟩)
    go_ret
    exact ⟨rfl, p, ⟨sb, st, sl, tbs, mbs, hv, kn, HH.out⟩, QT.refl _ _ _⟩
  | some t =>
    obtain ⟨k, rfl, hk, hok, hf⟩ := h.find_some ho
    have HF := hide hf
    have HOK := hide hok
    have kb : kindByte o.kind = 99 := by rw [hkd]; rfl
    by_cases c1 : kindOf o.key = 99
    · by_cases c2 : o.amount < -1000000 ∨ 1000000 < o.amount
      · have ea : doesErr (some t) o = 3 := by unfold doesErr; simp only; rw [if_neg (by rw [kb, c1]; simp), if_pos (Or.inl ⟨hkd, c2⟩)]
        have ed : doesD d k o = d := by unfold doesD; rw [ho]; simp only; rw [ea]; rfl
        rw [ea, ed]
        have e1 : ((kindOf o.key : Int) != 99) = false := by rw [c1]; rfl
        rw [c1] at HTH
        clear hf h ho ea ed hok kb e1
        by_cases c3 : o.amount < -1000000
        · clear c2
          go_enter Tryz.func28, Tryz.ntmps28
          go_wp2_with (first | (go_at_call 60; refine HF.out.mono ?_; rintro e w1 ⟨rfl, rfl⟩) | (go_at_call 61; refine (HTH.out _).mono ?_; rintro e w1 ⟨rfl, rfl⟩))
          go_ret
          exact ⟨rfl, p, ⟨sb, st, sl, tbs, mbs, hv, kn, HH.out⟩, QT.refl _ _ _⟩
        · have c4 : 1000000 < o.amount := by omega
          clear c2
          go_enter Tryz.func28, Tryz.ntmps28
          go_wp2_with (first | (go_at_call 60; refine HF.out.mono ?_; rintro e w1 ⟨rfl, rfl⟩) | (go_at_call 61; refine (HTH.out _).mono ?_; rintro e w1 ⟨rfl, rfl⟩))
          go_ret
          exact ⟨rfl, p, ⟨sb, st, sl, tbs, mbs, hv, kn, HH.out⟩, QT.refl _ _ _⟩
      · have hop : OpOk o := ⟨Or.inl hkd, by rw [kb]; exact c1⟩
        have ea : doesErr (some t) o = if 16 ≤ t.ops.length then 5 else 0 := by
          unfold doesErr; simp only; rw [if_neg (by rw [kb, c1]; simp), if_neg (by rintro (⟨-, e⟩ | ⟨e, -⟩); exact c2 e; exact e hkd)]
        have ed : doesD d k o = wroteD d k t o := by
          unfold doesD wroteD; rw [ho]; simp only; rw [ea]
          by_cases c : 16 ≤ t.ops.length
          · rw [if_pos c, if_pos c, if_neg (by omega)]
          · rw [if_neg c, if_neg c, if_pos rfl]; rfl
        rw [ea, ed]
        rw [c1] at HTH
        have hcl := fun W => clone_any o.key (by have := key_small hop; omega) W
        have hwr : ∀ W, Below w.heap.size w W → Calls Tryz.prog 62 #[bptr (tbs k), .agg #[.string o.key, .string ⟨#[]⟩], .agg #[.int .i64 0, .int .i64 o.amount, .string ⟨#[]⟩]] W fun e w' => e = .returned (.int .i64 (if 16 ≤ t.ops.length then 5 else 0)) ∧ ∃ p', RepIn w' p' b n i (wroteD d k t o) ∧ QT notOther w p w' p' := fun W hB => by
          have a := write_after h hok hop (fun e => absurd hkd e) hB
          have e1 : (plOf o).val = .agg #[.string o.key, .string ⟨#[]⟩] := by unfold plOf; rw [if_pos (Or.inl hkd)]; rfl
          have e2 : (wrOf o).val = .agg #[.int .i64 0, .int .i64 o.amount, .string ⟨#[]⟩] := by unfold wrOf; rw [if_pos hkd]
          rw [e1, e2] at a
          exact a
        obtain ⟨er, her⟩ : ∃ er : Int, (if 16 ≤ t.ops.length then 5 else 0) = er := ⟨_, rfl⟩
        rw [her] at hwr ⊢
        have HCL := hide hcl
        have HWR := hide hwr
        have c3 : ¬ o.amount < -1000000 := fun e => c2 (Or.inl e)
        have c4 : ¬ 1000000 < o.amount := fun e => c2 (Or.inr e)
        clear hf h ho ea ed hok kb hcl hwr c2 hop her
        go_enter Tryz.func28, Tryz.ntmps28
        go_wp2_with (first | (go_at_call 60; refine HF.out.mono ?_; rintro e w1 ⟨rfl, rfl⟩) | (go_at_call 61; refine (HTH.out _).mono ?_; rintro e w1 ⟨rfl, rfl⟩) | (go_at_call 63; refine (HCL.out _).mono ?_; rintro e w2 ⟨rfl, hB2⟩) | (go_at_call 62; refine (HWR.out _ hB2).mono ?_; rintro e w3 ⟨rfl, hpost⟩; have HP := hide hpost; clear hpost))
        go_ret
        exact ⟨rfl, HP.out⟩
    · have ea : doesErr (some t) o = 2 := by unfold doesErr; simp only; rw [if_pos (by rw [kb]; exact c1)]
      have ed : doesD d k o = d := by unfold doesD; rw [ho]; simp only; rw [ea]; rfl
      rw [ea, ed]
      clear hf h ho ea ed hok kb
      go_enter Tryz.func28, Tryz.ntmps28
      go_wp2_with (first | (go_at_call 60; refine HF.out.mono ?_; rintro e w1 ⟨rfl, rfl⟩) | (go_at_call 61; refine (HTH.out _).mono ?_; rintro e w1 ⟨rfl, rfl⟩))
      go_ret
      exact ⟨rfl, p, ⟨sb, st, sl, tbs, mbs, hv, kn, HH.out⟩, QT.refl _ _ _⟩

end Go.Proofs.YtiplgdkpnhamaaaGreatDoor

/- The program's Replica.writer, Write, change, Insert, Remove. -/
namespace Go.Proofs.YtiplgdkpnhamaaaGreatDoor
open Go.RowKit

def werr (t? : Option RTx) (th : Int) (key val : ByteArray) : Int :=
  match t? with
  | none => 4
  | some _ => if ¬ kindOf key = th then 2 else if 8 < val.size then 3 else 0
theorem does_werr {t? : Option RTx} {o : ROp} (hk : ¬ o.kind = 1) : doesErr t? o = if werr t? (kindByte o.kind) o.key o.value = 0 then (match t? with | none => 0 | some t => if 16 ≤ t.ops.length then 5 else 0) else werr t? (kindByte o.kind) o.key o.value := by
  cases t? with
  | none => rfl
  | some t =>
    unfold doesErr werr
    simp only [hk, false_and, not_false_eq_true, true_and, false_or]
    by_cases c1 : kindOf o.key = kindByte o.kind
    · by_cases c2 : 8 < o.value.size
      · simp [c1, c2]
      · simp [c1, c2]
    · simp [c1]

set_option maxRecDepth 100000 in
set_option maxHeartbeats 4000000 in
theorem writer_bad {w : World} {p : Nat → Own} {b n i : Nat} {d : DRep} {sb : Nat} {st : St} {sl tbs mbs : Nat → Nat} {hv kn : List Value} (h : RepP w p b n i d sb st sl tbs mbs hv kn) (tx th : Int) (key val : ByteArray) (hks : key.size ≤ maxLen) (hbad : ¬ werr (opnAt d tx) th key val = 0) :
    Calls Tryz.prog 64 #[bptr b, .int .i64 tx, .int .u8 th, .string key, .string val] w fun e w' => e = .returned (.tuple #[.pointer none, .int .i64 (werr (opnAt d tx) th key val)]) ∧ w' = w := by
  have hth := fun W => thing_any key W hks
  have HTH := hide hth
  clear hth
  cases ho : opnAt d tx with
  | none =>
    have hf := h.find_none ho
    have HF := hide hf
    have ea : werr none th key val = 4 := rfl
    rw [ea]
    clear hf h ho ea hbad
    go_enter Tryz.func64, Tryz.ntmps64
    go_wp2_with (first | (go_at_call 60; refine HF.out.mono ?_; rintro e w1 ⟨rfl, rfl⟩))
    go_ret2
    exact ⟨rfl, rfl⟩
  | some t =>
    obtain ⟨k, rfl, hk, hok, hf⟩ := h.find_some ho
    rw [ho] at hbad
    have HF := hide hf
    by_cases c1 : kindOf key = th
    · have c2 : 8 < val.size := by
        by_cases c : 8 < val.size
        · exact c
        · exact absurd (by unfold werr; simp [c1, c]) hbad
      have ea : werr (some t) th key val = 3 := by unfold werr; simp [c1, c2]
      rw [ea]
      rw [c1] at HTH
      clear hf h ho ea hok hbad c1
      go_enter Tryz.func64, Tryz.ntmps64
      go_wp2_with (first | (go_at_call 60; refine HF.out.mono ?_; rintro e w1 ⟨rfl, rfl⟩) | (go_at_call 61; refine (HTH.out _).mono ?_; rintro e w1 ⟨rfl, rfl⟩))
      go_ret2
      exact ⟨rfl, rfl⟩
    · have ea : werr (some t) th key val = 2 := by unfold werr; simp [c1]
      rw [ea]
      clear hf h ho ea hok hbad
      go_enter Tryz.func64, Tryz.ntmps64
      go_wp2_with (first | (go_at_call 60; refine HF.out.mono ?_; rintro e w1 ⟨rfl, rfl⟩) | (go_at_call 61; refine (HTH.out _).mono ?_; rintro e w1 ⟨rfl, rfl⟩))
      go_ret2
      exact ⟨rfl, rfl⟩
set_option maxRecDepth 100000 in
set_option maxHeartbeats 4000000 in
theorem writer_ok {w : World} {p : Nat → Own} {b n i : Nat} {d : DRep} {sb : Nat} {st : St} {sl tbs mbs : Nat → Nat} {hv kn : List Value} (h : RepP w p b n i d sb st sl tbs mbs hv kn) (tx th : Int) (key val : ByteArray) (hks : key.size ≤ maxLen) (hgood : werr (opnAt d tx) th key val = 0) :
    ∃ (k : Nat) (t : RTx), tx = k ∧ d.opn k = some t ∧ opnAt d tx = some t ∧ kindOf key = th ∧ val.size ≤ 8 ∧ Calls Tryz.prog 64 #[bptr b, .int .i64 tx, .int .u8 th, .string key, .string val] w fun e w' => e = .returned (.tuple #[bptr (tbs k), .int .i64 0]) ∧ w' = w := by
  cases ho : opnAt d tx with
  | none => rw [ho] at hgood; cases hgood
  | some t =>
    rw [ho] at hgood
    unfold werr at hgood
    simp only at hgood
    have c1 : kindOf key = th := by
      by_cases c : kindOf key = th
      · exact c
      · rw [if_pos c] at hgood; cases hgood
    rw [if_neg (by simp [c1])] at hgood
    have c2 : ¬ 8 < val.size := fun c => by rw [if_pos c] at hgood; cases hgood
    obtain ⟨k, rfl, hk, hok, hf⟩ := h.find_some ho
    refine ⟨k, t, rfl, hok, rfl, c1, by omega, ?_⟩
    have hth := fun W => thing_any key W hks
    rw [c1] at hth
    have HTH := hide hth
    have HF := hide hf
    clear hth hf hgood h ho hok c1
    go_enter Tryz.func64, Tryz.ntmps64
    go_wp2_with (first | (go_at_call 60; refine HF.out.mono ?_; rintro e w1 ⟨rfl, rfl⟩) | (go_at_call 61; refine (HTH.out _).mono ?_; rintro e w1 ⟨rfl, rfl⟩))
    go_ret2
    exact ⟨rfl, rfl⟩
theorem does_wrote {d : DRep} {k : Nat} {t : RTx} {o : ROp} (ho : opnAt d k = some t) (hk : ¬ o.kind = 1) (hg : werr (opnAt d k) (kindByte o.kind) o.key o.value = 0) : doesErr (opnAt d k) o = (if 16 ≤ t.ops.length then 5 else 0) ∧ doesD d k o = wroteD d k t o := by
  have ea : doesErr (some t) o = if 16 ≤ t.ops.length then 5 else 0 := by
    rw [does_werr hk, if_pos (by rw [← ho]; exact hg)]
  refine ⟨by rw [ho]; exact ea, ?_⟩
  unfold doesD wroteD; rw [ho]; simp only; rw [ea]
  by_cases c : 16 ≤ t.ops.length
  · rw [if_pos c, if_pos c, if_neg (by omega)]
  · rw [if_neg c, if_neg c, if_pos rfl]; rfl
theorem does_bad {d : DRep} {tx : Int} {o : ROp} (hk : ¬ o.kind = 1) (hb : ¬ werr (opnAt d tx) (kindByte o.kind) o.key o.value = 0) : doesErr (opnAt d tx) o = werr (opnAt d tx) (kindByte o.kind) o.key o.value ∧ doesD d tx o = d := by
  have ea : doesErr (opnAt d tx) o = werr (opnAt d tx) (kindByte o.kind) o.key o.value := by rw [does_werr hk, if_neg hb]
  refine ⟨ea, ?_⟩
  unfold doesD
  cases ho : opnAt d tx with
  | none => rfl
  | some t =>
    rw [ho] at ea hb
    simp only
    rw [ea, if_neg hb]

set_option maxRecDepth 100000 in
set_option maxHeartbeats 4000000 in
theorem write_call {w : World} {p : Nat → Own} {b n i : Nat} {d : DRep} (h : RepIn w p b n i d) (tx : Int) (o : ROp) (hkd : o.kind = 2) (hks : o.key.size ≤ maxLen) (hvs : o.value.size ≤ maxLen) :
    Calls Tryz.prog 30 #[bptr b, .int .i64 tx, .string o.key, .string o.value] w fun e w' => e = .returned (.int .i64 (doesErr (opnAt d tx) o)) ∧ ∃ p', RepIn w' p' b n i (doesD d tx o) ∧ QT notOther w p w' p' := by
  obtain ⟨sb, st, sl, tbs, mbs, hv, kn, h⟩ := h
  have hk1 : ¬ o.kind = 1 := by omega
  have kb : kindByte o.kind = 114 := by rw [hkd]; rfl
  by_cases hg : werr (opnAt d tx) 114 o.key o.value = 0
  · obtain ⟨k, t, rfl, hok, ho, c1, c2, hw⟩ := writer_ok h tx 114 o.key o.value hks hg
    obtain ⟨ea, ed⟩ := does_wrote ho hk1 (by rw [kb]; exact hg)
    rw [ea, ed]
    have hop : OpOk o := ⟨Or.inr (Or.inl hkd), by rw [kb]; exact c1⟩
    have hcl1 := fun W => clone_any o.key (by have := key_small hop; omega) W
    have hcl2 := fun W => clone_any o.value (by omega) W
    have hwr : ∀ W, Below w.heap.size w W → Calls Tryz.prog 62 #[bptr (tbs k), .agg #[.string o.key, .string ⟨#[]⟩], .agg #[.int .i64 1, .int .i64 0, .string o.value]] W fun e w' => e = .returned (.int .i64 (if 16 ≤ t.ops.length then 5 else 0)) ∧ ∃ p', RepIn w' p' b n i (wroteD d k t o) ∧ QT notOther w p w' p' := fun W hB => by
      have a := write_after h hok hop (fun _ => hvs) hB
      have e1 : (plOf o).val = .agg #[.string o.key, .string ⟨#[]⟩] := by unfold plOf; rw [if_pos (Or.inr hkd)]; rfl
      have e2 : (wrOf o).val = .agg #[.int .i64 1, .int .i64 0, .string o.value] := by unfold wrOf; rw [if_neg hk1, if_pos hkd]
      rw [e1, e2] at a
      exact a
    obtain ⟨er, her⟩ : ∃ er : Int, (if 16 ≤ t.ops.length then 5 else 0) = er := ⟨_, rfl⟩
    rw [her] at hwr ⊢
    have HW := hide hw
    have HC1 := hide hcl1
    have HC2 := hide hcl2
    have HWR := hide hwr
    clear h hg hok ho c1 c2 hw ea ed hop hcl1 hcl2 hwr her
    go_enter Tryz.func30, Tryz.ntmps30
    go_wp2_with (first | (go_at_call 64; refine HW.out.mono ?_; rintro e w1 ⟨rfl, rfl⟩))
    refine (HC1.out _).mono ?_
    rintro e w2 ⟨rfl, hB2⟩
    go_wp2_with fail
    refine (HC2.out _).mono ?_
    rintro e w3 ⟨rfl, hB3⟩
    have hB := hB2.trans (hB3.mono hB2.size)
    clear hB2 hB3
    go_wp2_with fail
    refine (HWR.out _ hB).mono ?_
    rintro e w4 ⟨rfl, hpost⟩
    have HP := hide hpost
    clear hpost
    go_wp2_with fail
    go_ret
    exact ⟨rfl, HP.out⟩
  · have hw := writer_bad h tx 114 o.key o.value hks hg
    obtain ⟨ea, ed⟩ := does_bad (d := d) (tx := tx) hk1 (by rw [kb]; exact hg)
    rw [ea, ed, kb]
    obtain ⟨er, her⟩ : ∃ er : Int, werr (opnAt d tx) 114 o.key o.value = er := ⟨_, rfl⟩
    rw [her] at hw hg ⊢
    have hne : (er != 0) = true := by simpa using hg
    have HW := hide hw
    have HH := hide h
    clear h hg ea ed hw her
    go_enter Tryz.func30, Tryz.ntmps30
    go_wp2_with (first | (go_at_call 64; refine HW.out.mono ?_; rintro e w1 ⟨rfl, rfl⟩))
    go_ret
    exact ⟨rfl, p, ⟨sb, st, sl, tbs, mbs, hv, kn, HH.out⟩, QT.refl _ _ _⟩

set_option maxRecDepth 100000 in
set_option maxHeartbeats 4000000 in
theorem change_call {w : World} {p : Nat → Own} {b n i : Nat} {d : DRep} (h : RepIn w p b n i d) (tx : Int) (o : ROp) (kd : Int) (hkd : (o.kind = 3 ∧ kd = 2) ∨ (o.kind = 4 ∧ kd = 3)) (hks : o.key.size ≤ maxLen) (hvs : o.value.size ≤ maxLen) :
    Calls Tryz.prog 73 #[bptr b, .int .i64 tx, .string o.key, .string o.value, .int .i64 kd] w fun e w' => e = .returned (.int .i64 (doesErr (opnAt d tx) o)) ∧ ∃ p', RepIn w' p' b n i (doesD d tx o) ∧ QT notOther w p w' p' := by
  obtain ⟨sb, st, sl, tbs, mbs, hv, kn, h⟩ := h
  have hk1 : ¬ o.kind = 1 := by omega
  have hk2 : ¬ o.kind = 2 := by omega
  have kb : kindByte o.kind = 115 := by unfold kindByte; rw [if_neg hk1, if_neg hk2]
  by_cases hg : werr (opnAt d tx) 115 o.key o.value = 0
  · obtain ⟨k, t, rfl, hok, ho, c1, c2, hw⟩ := writer_ok h tx 115 o.key o.value hks hg
    obtain ⟨ea, ed⟩ := does_wrote ho hk1 (by rw [kb]; exact hg)
    rw [ea, ed]
    have hop : OpOk o := ⟨by omega, by rw [kb]; exact c1⟩
    have hcl1 := fun W => clone_any o.key (by have := key_small hop; omega) W
    have hcl2 := fun W => clone_any o.value (by omega) W
    have hwr : ∀ W, Below w.heap.size w W → Calls Tryz.prog 62 #[bptr (tbs k), .agg #[.string o.key, .string o.value], .agg #[.int .i64 kd, .int .i64 0, .string ⟨#[]⟩]] W fun e w' => e = .returned (.int .i64 (if 16 ≤ t.ops.length then 5 else 0)) ∧ ∃ p', RepIn w' p' b n i (wroteD d k t o) ∧ QT notOther w p w' p' := fun W hB => by
      have a := write_after h hok hop (fun _ => hvs) hB
      have e1 : (plOf o).val = .agg #[.string o.key, .string o.value] := by unfold plOf; rw [if_neg (by omega)]; rfl
      have e2 : (wrOf o).val = .agg #[.int .i64 kd, .int .i64 0, .string ⟨#[]⟩] := by
        unfold wrOf; rw [if_neg hk1, if_neg hk2]
        rcases hkd with ⟨c, rfl⟩ | ⟨c, rfl⟩
        · rw [if_pos c]
        · rw [if_neg (by omega)]
      rw [e1, e2] at a
      exact a
    obtain ⟨er, her⟩ : ∃ er : Int, (if 16 ≤ t.ops.length then 5 else 0) = er := ⟨_, rfl⟩
    rw [her] at hwr ⊢
    have HW := hide hw
    have HC1 := hide hcl1
    have HC2 := hide hcl2
    have HWR := hide hwr
    clear h hg hok ho c1 c2 hw ea ed hop hcl1 hcl2 hwr her hkd
    go_enter Tryz.func73, Tryz.ntmps73
    go_wp2_with (first | (go_at_call 64; refine HW.out.mono ?_; rintro e w1 ⟨rfl, rfl⟩))
    refine (HC1.out _).mono ?_
    rintro e w2 ⟨rfl, hB2⟩
    go_wp2_with fail
    refine (HC2.out _).mono ?_
    rintro e w3 ⟨rfl, hB3⟩
    have hB := hB2.trans (hB3.mono hB2.size)
    clear hB2 hB3
    go_wp2_with fail
    refine (HWR.out _ hB).mono ?_
    rintro e w4 ⟨rfl, hpost⟩
    have HP := hide hpost
    clear hpost
    go_wp2_with fail
    go_ret
    exact ⟨rfl, HP.out⟩
  · have hw := writer_bad h tx 115 o.key o.value hks hg
    obtain ⟨ea, ed⟩ := does_bad (d := d) (tx := tx) hk1 (by rw [kb]; exact hg)
    rw [ea, ed, kb]
    obtain ⟨er, her⟩ : ∃ er : Int, werr (opnAt d tx) 115 o.key o.value = er := ⟨_, rfl⟩
    rw [her] at hw hg ⊢
    have hne : (er != 0) = true := by simpa using hg
    have HW := hide hw
    have HH := hide h
    clear h hg ea ed hw her hkd
    go_enter Tryz.func73, Tryz.ntmps73
    go_wp2_with (first | (go_at_call 64; refine HW.out.mono ?_; rintro e w1 ⟨rfl, rfl⟩))
    go_ret
    exact ⟨rfl, p, ⟨sb, st, sl, tbs, mbs, hv, kn, HH.out⟩, QT.refl _ _ _⟩
set_option maxRecDepth 100000 in
theorem insert_call {w : World} {p : Nat → Own} {b n i : Nat} {d : DRep} (h : RepIn w p b n i d) (tx : Int) (o : ROp) (hkd : o.kind = 3) (hks : o.key.size ≤ maxLen) (hvs : o.value.size ≤ maxLen) :
    Calls Tryz.prog 38 #[bptr b, .int .i64 tx, .string o.key, .string o.value] w fun e w' => e = .returned (.int .i64 (doesErr (opnAt d tx) o)) ∧ ∃ p', RepIn w' p' b n i (doesD d tx o) ∧ QT notOther w p w' p' := by
  have HC := hide (change_call h tx o 2 (Or.inl ⟨hkd, rfl⟩) hks hvs)
  clear h
  obtain ⟨er, her⟩ : ∃ er, doesErr (opnAt d tx) o = er := ⟨_, rfl⟩
  unfold Hid at HC
  rw [her] at HC ⊢
  have HC' := hide HC
  clear HC her
  go_enter Tryz.func38, Tryz.ntmps38
  go_wp2_with fail
  refine HC'.out.mono ?_
  rintro e w4 ⟨rfl, hpost⟩
  have HP := hide hpost
  clear hpost
  go_wp2_with fail
  go_ret
  exact ⟨rfl, HP.out⟩
set_option maxRecDepth 100000 in
theorem remove_call {w : World} {p : Nat → Own} {b n i : Nat} {d : DRep} (h : RepIn w p b n i d) (tx : Int) (o : ROp) (hkd : o.kind = 4) (hks : o.key.size ≤ maxLen) (hvs : o.value.size ≤ maxLen) :
    Calls Tryz.prog 44 #[bptr b, .int .i64 tx, .string o.key, .string o.value] w fun e w' => e = .returned (.int .i64 (doesErr (opnAt d tx) o)) ∧ ∃ p', RepIn w' p' b n i (doesD d tx o) ∧ QT notOther w p w' p' := by
  have HC := hide (change_call h tx o 3 (Or.inr ⟨hkd, rfl⟩) hks hvs)
  clear h
  obtain ⟨er, her⟩ : ∃ er, doesErr (opnAt d tx) o = er := ⟨_, rfl⟩
  unfold Hid at HC
  rw [her] at HC ⊢
  have HC' := hide HC
  clear HC her
  go_enter Tryz.func44, Tryz.ntmps44
  go_wp2_with fail
  refine HC'.out.mono ?_
  rintro e w4 ⟨rfl, hpost⟩
  have HP := hide hpost
  clear hpost
  go_wp2_with fail
  go_ret
  exact ⟨rfl, HP.out⟩

end Go.Proofs.YtiplgdkpnhamaaaGreatDoor

/- The program's New and Replica.Visible. -/
namespace Go.Proofs.YtiplgdkpnhamaaaGreatDoor
open Go.RowKit

set_option maxRecDepth 100000 in
set_option maxHeartbeats 2000000 in
theorem new_no (w : World) (i n : Int) (h : fitsB i n = false) : Calls Tryz.prog 48 #[.int .i64 i, .int .i64 n] w fun e w' => e = .returned (.tuple #[.pointer none, .int .i64 1]) ∧ Below w.heap.size w w' := by
  have hf : ¬ (1 ≤ n ∧ n ≤ 5 ∧ 0 ≤ i ∧ i < n) := of_decide_eq_false h
  clear h
  by_cases c1 : n < 1
  · clear hf
    go_enter Tryz.func48, Tryz.ntmps48
    go_wp2_with fail
    go_ret2
    exact ⟨rfl, Below.refl _ _⟩
  · by_cases c2 : 5 < n
    · clear hf
      go_enter Tryz.func48, Tryz.ntmps48
      go_wp2_with fail
      go_ret2
      exact ⟨rfl, Below.refl _ _⟩
    · by_cases c3 : i < 0
      · clear hf
        go_enter Tryz.func48, Tryz.ntmps48
        go_wp2_with fail
        go_ret2
        exact ⟨rfl, Below.refl _ _⟩
      · have c4 : n ≤ i := by omega
        clear hf
        go_enter Tryz.func48, Tryz.ntmps48
        go_wp2_with fail
        go_ret2
        exact ⟨rfl, Below.refl _ _⟩

set_option maxRecDepth 100000 in
set_option maxHeartbeats 4000000 in
theorem new_ok (w : World) (i n : Nat) (h : fitsB i n = true) : Calls Tryz.prog 48 #[.int .i64 i, .int .i64 n] w fun e w' => ∃ b, e = .returned (.tuple #[ptr b, .int .i64 0]) ∧ Below w.heap.size w w' ∧ ∀ (o : Nat → Tag) (t : Tag), PR w' (own2 o w.heap.size fun _ => t) t b n i (newD n) := by
  have hf : (1 : Int) ≤ n ∧ (n : Int) ≤ 5 ∧ (0 : Int) ≤ i ∧ (i : Int) < n := of_decide_eq_true h
  clear h
  obtain ⟨f1, f2, f3, f4⟩ := hf
  have hn := snew_any w (fun q => if q = w.heap.size + 4 then .rep else .other)
  have HN := hide hn
  have g1 : ¬ (n : Int) < 1 := by omega
  have g2 : ¬ (5 : Int) < n := by omega
  have g3 : ¬ (i : Int) < 0 := by omega
  have g4 : ¬ (n : Int) ≤ i := by omega
  clear hn
  go_enter Tryz.func48, Tryz.ntmps48
  go_wp2_with (go_at_call 86; refine HN.out.mono ?_; rintro e w1 ⟨rfl, hpost⟩; have HP := hide hpost; clear hpost)
  go_ret2
  obtain ⟨hB, hz, hS⟩ := HP.out
  have hblk := heap_alloc_new w1 (.cells (repCells i n (w.heap.size + 3) [nilSlice, nilSlice, nilSlice, nilSlice, nilSlice] (List.replicate 25 (.int .i64 0)) (List.replicate 6 (.pointer none))).toArray 114)
  have hBf : Below w.heap.size w (w1.alloc (.cells (repCells i n (w.heap.size + 3) [nilSlice, nilSlice, nilSlice, nilSlice, nilSlice] (List.replicate 25 (.int .i64 0)) (List.replicate 6 (.pointer none))).toArray 114)) := hB.alloc hB.size _
  refine ⟨w1.heap.size, rfl, hBf, fun o t => ?_⟩
  have hB1 : Below w1.heap.size w1 (w1.alloc (.cells (repCells i n (w.heap.size + 3) [nilSlice, nilSlice, nilSlice, nilSlice, nilSlice] (List.replicate 25 (.int .i64 0)) (List.replicate 6 (.pointer none))).toArray 114)) := (Below.refl _ _).alloc (Nat.le_refl _) _
  refine ⟨_, fun q hq hne => ?_, w.heap.size + 3, noSt, fun _ => 0, fun _ => 0, fun _ => 0, [nilSlice, nilSlice, nilSlice, nilSlice, nilSlice], List.replicate 25 (.int .i64 0), ⟨hblk, ?_⟩, rfl, rfl, hS.below hB1, RepOk.new (by omega) (by omega) _, fun r hr => ⟨0, [], Nat.zero_le _, ?_⟩, fun k u e => ?_, fun c hc => by simp [noSt] at hc⟩
  · by_cases c : q < w.heap.size
    · exfalso
      apply hne
      simp [show q ≠ w.heap.size by omega, show q ≠ w.heap.size + 1 by omega, show q ≠ w.heap.size + 2 by omega, show q ≠ w.heap.size + 3 by omega, show q ≠ w.heap.size + 4 by omega]
    · rw [own2_high (by omega)]
  · rw [hz]; simp
  · have : r = 0 ∨ r = 1 ∨ r = 2 ∨ r = 3 ∨ r = 4 := by simp at hr; omega
    rcases this with rfl | rfl | rfl | rfl | rfl <;> exact ⟨⟨rfl, .inl ⟨rfl, rfl⟩⟩, fun q hq => by simp [Value.ownBlock, nilSlice] at hq⟩
  · cases e

theorem Tryz.infoIntX : (Tryz.prog.info? 3).map (fun i => (i.zero, i.size, i.bytes)) = some (some (.int .i64 0), 1, 8) := by kernel_rfl
set_option maxRecDepth 100000 in
set_option maxHeartbeats 2000000 in
theorem clone_ints (w : World) (g cap n : Nat) (xs : List Value) (hlen : xs.length = n * 1) (hcells : ∀ j u, xs[j]? = some u → w.cell? ((⟨g, 0, none⟩ : Addr).add j) = some u) (h1 : ∀ u ∈ xs, u.oneCell' = true) (hl : n ≤ 1000000000) :
    Calls Tryz.prog 58 #[.slice (some ⟨g, 0, none⟩) n cap] w fun e w' => ∃ v', e = .returned v' ∧ w'.ownsRow w.heap.size 3 1 v' n xs ∧ Below w.heap.size w w' := by
  have hnil := fun w a n c => Lib.run_eql_slice_nil (P := Tryz.prog) w 44 3 a n c 0 0 Tryz.underlying44
  obtain ⟨i0, hi, hz0, hz1, hz2⟩ := info_parts Tryz.infoIntX
  have HL := hide hlen
  have HC2 : Hid (∀ j u, xs[j]? = some u → (w.alloc (.cells #[] 3)).cell? ((⟨g, 0, none⟩ : Addr).add j) = some u) := fun j u hu => by
    have := hcells j u hu
    rw [Addr.add_lit] at this ⊢
    rw [World.cell?_alloc_past _ _ _ (World.block_lt_of_cell? w _ this)]; exact this
  have HE : Hid ((w.alloc (.cells #[] 3)).ownsRow w.heap.size 3 1 (.slice (some ⟨w.heap.size, 0, none⟩) 0 0) 0 []) := ⟨rfl, .inr ⟨w.heap.size, 0, #[], rfl, Nat.le_refl _, heap_alloc_new w _, Nat.le_refl _, Nat.zero_le _, rfl, rfl⟩⟩
  clear hlen hcells
  go_enter Tryz.func58, Tryz.ntmps58
  go_wp2_with (at_builtin; refine wpList_append_own_at _ rfl _ _ 44 rfl w.heap.size 3 i0 (.int .i64 0) 1 8 Tryz.underlying44 hi hz0 hz1 hz2 rfl (by decide) _ 0 [] rfl HE.out ⟨g, 0, none⟩ n cap xs rfl HL.out HC2.out h1 (by unfold maxLen; omega) (by omega) (by simp) ?_; intro v1 w1 hown1 hgrow1 hnil1 hat1)
  go_ret
  refine ⟨v1, rfl, by simpa using hown1, ((Below.refl _ _).alloc (Nat.le_refl _) _).grown hgrow1 (by simp) (fun j hj => ?_)⟩
  cases hj
  exact Nat.le_refl _

theorem vec_take {l : List Int} {n : Nat} (hl : l.length = n) (hn : n ≤ 5) : [Value.int .i64 (vecOf l).a, .int .i64 (vecOf l).b, .int .i64 (vecOf l).c, .int .i64 (vecOf l).d, .int .i64 (vecOf l).e].take n = ints l := by
  subst hl
  match l, hn with
  | [], _ => rfl
  | [a], _ => rfl
  | [a, b], _ => rfl
  | [a, b, c], _ => rfl
  | [a, b, c, d], _ => rfl
  | [a, b, c, d, e], _ => rfl
  | a :: b :: c :: d :: e :: f :: l, h => simp at h
set_option maxRecDepth 100000 in
set_option maxHeartbeats 4000000 in
theorem visible_call {w : World} {p : Nat → Own} {b n i : Nat} {d : DRep} (h : RepIn w p b n i d) :
    Calls Tryz.prog 22 #[bptr b] w fun e w' => ∃ lv, e = .returned lv ∧ w'.ownsRow w.heap.size 3 1 lv d.vis.length (ints d.vis) ∧ Below w.heap.size w w' := by
  obtain ⟨sb, st, sl, tbs, mbs, hv, kn, h⟩ := h
  obtain ⟨-, c1, c2⟩ := h.cellOf
  have hl := h.blk.blk.lt
  have hvl : d.vis.length = n := by rw [h.ok.vis, sawOf_len]
  have hn5 := h.ok.hist.n5
  have hi := h.ok.hist.hi
  have hvis := h.ok.svis
  have hcall : Calls Tryz.prog 57 #[bptr sb] w fun e w' => e = .returned (vecOf d.vis).val ∧ Below w.heap.size w w' := by
    obtain ⟨vb, cb, eb, ov, cv, ev, kv, hs⟩ := h.sto
    rw [← hvis]
    exact visible_any w sb st.vis (hs.blk.blk.cell 0) (hs.blk.blk.cell 1) (hs.blk.blk.cell 2) (hs.blk.blk.cell 3) (hs.blk.blk.cell 4)
  have HC := hide hcall
  have HV := hide hvl
  have HT := hide (vec_take hvl hn5)
  have g1 : ¬ (n : Int) < 0 := by omega
  have g2 : (n : Int) ≤ 5 := by omega
  have g3 : ¬ (5 : Int) < n := by omega
  obtain ⟨v, hvv⟩ : ∃ v, vecOf d.vis = v := ⟨_, rfl⟩
  unfold Hid at HC HT
  rw [hvv] at HC HT
  have HC' := hide HC
  have HT' := hide HT
  clear hcall hvl hvis HC HT hvv
  have HH := hide h
  clear h
  go_enter Tryz.func22, Tryz.ntmps22
  go_wp2_with (go_at_call 57; refine HC'.out.mono ?_; rintro e w1 ⟨rfl, hB1⟩; have c1' := cell_later hB1 c1; have hl1 : b < w1.heap.size := Nat.lt_of_lt_of_le hl hB1.size; have HB1 := hide hB1; clear hB1)
  generalize hW2 : w1.alloc (.cells #[.int .i64 v.a, .int .i64 v.b, .int .i64 v.c, .int .i64 v.d, .int .i64 v.e] 104) = W2
  have hB2 : Below w1.heap.size w1 W2 := by rw [← hW2]; exact (Below.refl _ _).alloc (Nat.le_refl _) _
  have b2 : Blk W2 w1.heap.size [.int .i64 v.a, .int .i64 v.b, .int .i64 v.c, .int .i64 v.d, .int .i64 v.e] 104 := by rw [← hW2]; exact heap_alloc_new w1 _
  have hcl := clone_ints W2 w1.heap.size 5 n (ints d.vis) (by rw [ints_len, HV.out]; simp) (fun j u hu => by
    rw [← HT'.out] at hu
    rw [List.getElem?_take] at hu
    split at hu
    · rw [Addr.add_lit, Nat.zero_add, b2.cell j]; exact hu
    · cases hu) (fun u hu => by
    unfold ints at hu
    obtain ⟨x, -, rfl⟩ := List.mem_map.1 hu
    rfl) (by omega)
  have HCL := hide hcl
  have HB2 := hide hB2
  clear hcl hB2 b2 hW2 c1' hl1
  refine HCL.out.mono ?_
  rintro e w3 ⟨v', rfl, hown, hB3⟩
  have HF := hide (⟨hown, hB3⟩ : _ ∧ _)
  clear hown hB3
  go_wp2_with fail
  go_ret
  have hB12 : Below w.heap.size w W2 := HB1.out.trans (HB2.out.mono HB1.out.size)
  refine ⟨_, rfl, ?_, hB12.trans (HF.out.2.mono hB12.size)⟩
  rw [HV.out]
  exact ownsRow_low HF.out.1 hB12.size

end Go.Proofs.YtiplgdkpnhamaaaGreatDoor

/- The program's Replica.show: what Apply needs, and what it leaves. -/
namespace Go.Proofs.YtiplgdkpnhamaaaGreatDoor
open Go.RowKit

theorem put_saw {n i T : Nat} (hi : i < n) (hn : n ≤ 5) : (vecOf (sawOf n i T)).put i ((T : Int) + 1) = vecOf (sawOf n i (T + 1)) := by
  have hnn : n = 1 ∨ n = 2 ∨ n = 3 ∨ n = 4 ∨ n = 5 := by omega
  have hii : i = 0 ∨ i = 1 ∨ i = 2 ∨ i = 3 ∨ i = 4 := by omega
  rcases hnn with rfl | rfl | rfl | rfl | rfl <;> rcases hii with rfl | rfl | rfl | rfl | rfl <;> first | omega | (simp [Vec.put, vecOf, sawOf, List.range, List.range.loop]; try omega)
theorem dot_new {n i : Nat} {hs : List RTx} {t : RTx} (h : HistI n i (hs ++ [t])) : (histOf (hs ++ [t])).dot hs.length = ⟨i, (hs.length : Int) + 1⟩ := h.dot (by simp)
theorem wr_new (hs : List RTx) (t : RTx) (q : Place) : (histOf (hs ++ [t])).wr hs.length q = ownOf t.ops q := by
  show ownOf (txAt (hs ++ [t]) hs.length).ops q = _
  rw [txAt_eq (by simp)]
  simp
theorem ap_step {n i : Nat} {d : DRep} {st : St} {sl : Nat → Nat} (h : RepOk n i d st sl) (hR : d.hs.length ≤ 1100000) {t : RTx} (ht : TxOk n i d.hs.length t) :
    ApStep (fun left st' => MInv (histOf (d.hs ++ [done i d t])) setPl d.hs.length left st st') (ownOf t.ops) (vecOf t.saw) ((histOf (d.hs ++ [done i d t])).dot d.hs.length) := by
  have hW := h.wrOk (by omega) ht
  refine ⟨fun left st' hM => hM.wf, fun left st' q hM => ?_, fun left st' hM s hs => ?_, fun q x hx => ?_, fun left st' q x hM hl hx => write_inv hM hW (by rw [wr_new]; exact hx) hl⟩
  · have := came_bound (N := d.hs.length + 1) hM.wf (hM.pl q) (by split <;> omega)
    omega
  · have hseq : d.vis.getD i 0 + 1 = (d.hs.length : Int) + 1 := by rw [h.vis, sawOf_get h.hist.hi, if_pos rfl]
    have hH : HistI n i (d.hs ++ [done i d t]) := h.hist.snoc (t := done i d t) rfl hseq ⟨ht.saw, ht.ops, ht.few⟩
    have hlen : (d.hs ++ [done i d t]).length = d.hs.length + 1 := by simp
    have := kept_bound (H := histOf (d.hs ++ [done i d t])) (N := d.hs.length + 1) hM.kn (fun p => ⟨_, by split <;> omega, hM.pl p⟩) (pl := fun j => (txAt (d.hs ++ [done i d t]) j).ops.map plOf) (fun j => by
      rw [List.length_map]
      by_cases c : j < (d.hs ++ [done i d t]).length
      · rw [txAt_eq c]; exact (hH.tx j c).2.2.few
      · have e : (d.hs ++ [done i d t])[j]? = none := List.getElem?_eq_none (by omega)
        have e2 : txAt (d.hs ++ [done i d t]) j = ⟨0, 0, [], []⟩ := by unfold txAt; rw [List.getD_eq_getElem?_getD, e]; rfl
        rw [e2]; simp) (fun j p _ hw => wr_places _ j p hw) s hs
    omega
  · have := own_kinds t.ops ht.ops x hx
    refine ⟨?_, this.2⟩
    rcases this.1 with c | c | c
    · exact Or.inl c.1
    · exact Or.inr (Or.inl c.1)
    · rcases c.1 with c | c
      · exact Or.inr (Or.inr (Or.inl c))
      · exact Or.inr (Or.inr (Or.inr c))

/-- Apply at the replica: the store has it. -/
theorem apply_rep {w : World} {p : Nat → Own} {b n i k : Nat} {d : DRep} {sb : Nat} {st : St} {sl tbs mbs : Nat → Nat} {hv kn : List Value} {t : RTx} {nb tb mb : Nat} (h : RepP w p b n i d sb st sl tbs mbs hv kn) (hR : d.hs.length ≤ 1100000) (ht : TxOk n i d.hs.length t) (hT : TxP w p k nb tb mb t) {W : World} (hB : Below w.heap.size w W) :
    Calls Tryz.prog 105 #[bptr sb, .agg #[.int .i64 i, .int .i64 ((d.hs.length : Int) + 1), .int .i64 (vecOf t.saw).a, .int .i64 (vecOf t.saw).b, .int .i64 (vecOf t.saw).c, .int .i64 (vecOf t.saw).d, .int .i64 (vecOf t.saw).e, .map (some mb)]] W fun e w' => e = .returned (.tuple #[]) ∧
      ∃ p' st', StIn w' p' sb (48 * (d.hs.length + 1)) st' ∧ RepOk n i ⟨d.hs ++ [done i d t], d.vis.set i (d.vis.getD i 0 + 1), d.opn⟩ st' sl ∧ (st'.snaps.map Snap.blk = st.snaps.map Snap.blk) ∧ QT stoTag w p w' p' := by
  have hseq : d.vis.getD i 0 + 1 = (d.hs.length : Int) + 1 := by rw [h.ok.vis, sawOf_get h.ok.hist.hi, if_pos rfl]
  have hH : HistI n i (d.hs ++ [done i d t]) := h.ok.hist.snoc (t := done i d t) rfl hseq ⟨ht.saw, ht.ops, ht.few⟩
  have hd : (histOf (d.hs ++ [done i d t])).dot d.hs.length = ⟨i, (d.hs.length : Int) + 1⟩ := dot_new hH
  have hS := ap_step h.ok hR ht
  rw [hd] at hS
  have hdo : (⟨i, (d.hs.length : Int) + 1⟩ : Dot).Ok := ⟨by show (0 : Int) ≤ i; omega, by show (i : Int) < 5; have := h.ok.hist.hi; have := h.ok.hist.n5; omega, seq_wf (by show (0 : Int) ≤ (d.hs.length : Int) + 1; omega) (by show (d.hs.length : Int) + 1 ≤ 3000000; omega)⟩
  have hst := h.ok.start t
  have a := apply_st (P := fun left st' => MInv (histOf (d.hs ++ [done i d t])) setPl d.hs.length left st st') (h.sto.below hB) (hT.own.move (hB.block _ hT.own.lt)) (by rw [hT.ownT]; simp [stoTag]) ht.few hS hst hdo (by omega)
  refine a.mono ?_
  rintro e w' ⟨rfl, p', st', ⟨left, hM, hl⟩, hI, hq⟩
  have hv : st'.vis.put i ((d.hs.length : Int) + 1) = vecOf (sawOf n i (d.hs.length + 1)) := by
    rw [hM.vis, h.ok.svis, h.ok.vis]
    exact put_saw h.ok.hist.hi h.ok.hist.n5
  refine ⟨rfl, p', _, hI, ?_, ?_, (QT.ofBelow hB).trans hq⟩
  · show RepOk n i _ { st' with vis := st'.vis.put i ((d.hs.length : Int) + 1) } sl
    rw [hv]
    exact h.ok.finish ht hM hl
  · exact hM.blks

end Go.Proofs.YtiplgdkpnhamaaaGreatDoor
