/- The texts K7, joined. -/
import Derived.Test.YtiplgdkpnhamaaaGreatDoorW30

/- The program's Replica.Begin. -/
namespace Go.Proofs.YtiplgdkpnhamaaaGreatDoor
open Go.RowKit

/-- Behind Open, makeMap, box: whatever their order. -/
structure BegIn (w : World) (p : Nat → Own) (k sb N nb tb mb : Nat) (st : St) (W : World) (p3 : Nat → Own) : Prop where
  sto : StIn W p3 sb N (openSt st nb)
  qt : QT stoTag w p W p3
  tx : Qb W p3 (.tx k) tb [bptr nb, .int .i64 0, .map (some mb)] 122
  ownT : p3 mb = .own k
  own : MapIn W 129 mb 0 Place.val Wr.val (fun _ => none)
  fresh : w.heap.size ≤ nb
theorem begun_meet {w W : World} {p p3 : Nat → Own} {b n i k : Nat} {d : DRep} {sb : Nat} {st : St} {sl tbs mbs : Nat → Nat} {hv kn : List Value} {nb tb mb : Nat} (h : RepP w p b n i d sb st sl tbs mbs hv kn) (hk : k < 6) (hf : d.opn k = none) (hB : BegIn w p k sb (48 * d.hs.length) nb tb mb st W p3) :
    RepIn (W.setCell ⟨b, 33 + k, none⟩ (bptr tb)) p3 b n i { d with opn := setSlot d.opn k (some ⟨0, 0, d.vis, []⟩) } ∧ QT notOther w p (W.setCell ⟨b, 33 + k, none⟩ (bptr tb)) p3 := by
  have b1 := h.blk.touch hB.qt (by simp [stoTag])
  have q2 : QT (· = .rep) W p3 (W.setCell ⟨b, 33 + k, none⟩ (bptr tb)) p3 := (QT.refl _ _ _).set (p := ⟨b, 33 + k, none⟩) b1.tag _
  have qf : QT notOther w p (W.setCell ⟨b, 33 + k, none⟩ (bptr tb)) p3 := (hB.qt.mono fun u hu => sto_not hu).trans (q2.mono fun u hu => by rw [hu]; simp [notOther])
  have hnb : nb ∉ st.snaps.map Snap.blk := fun hc => by
    obtain ⟨s, hs, e⟩ := List.mem_map.1 hc
    obtain ⟨vb, cb, eb, ov, cv, ev, kv, hst⟩ := h.sto
    have := (hst.snap s hs).blk.lt
    have := hB.fresh
    omega
  have b2 := b1.set (33 + k) (bptr tb)
  rw [repCells_set h.hlen h.klen] at b2
  have eo := opvs_set (d := d) (tbs := tbs) (t? := some ⟨0, 0, d.vis, []⟩) hk tb
  simp only [Option.isSome_some, if_true] at eo
  rw [eo] at b2
  refine ⟨⟨sb, openSt st nb, fun q => if q = k then nb else sl q, fun q => if q = k then tb else tbs q, fun q => if q = k then mb else mbs q, hv, kn, b2, h.hlen, h.klen, ?_, h.ok.begin_ hk hf hnb, fun r hr => ?_, fun k' t' e' => ?_, fun c hc => ?_⟩, qf⟩
  · obtain ⟨vb, cb, eb, ov, cv, ev, kv, hs1⟩ := hB.sto
    exact ⟨vb, cb, eb, ov, cv, ev, kv, hs1.touch q2 (fun u hu e => by rw [e] at hu; exact hu)⟩
  · obtain ⟨m, xs, x1, x2⟩ := h.held r hr
    exact ⟨m, xs, x1, (x2.touch hB.qt (by simp [stoTag])).touch q2 (by simp)⟩
  · by_cases c' : k' = k
    · subst c'
      rw [show ({ d with opn := setSlot d.opn k' (some ⟨0, 0, d.vis, []⟩) } : DRep).opn k' = some ⟨0, 0, d.vis, []⟩ from setSlot_same _ _ _] at e'
      cases e'
      simp only [if_true]
      exact ⟨hB.tx.touch q2 (by simp), hB.ownT, hB.own.movet q2 (by rw [hB.ownT]; simp)⟩
    · rw [show ({ d with opn := setSlot d.opn k (some ⟨0, 0, d.vis, []⟩) } : DRep).opn k' = d.opn k' from setSlot_other c'] at e'
      have hx := h.tx k' t' e'
      simp only [c', if_false]
      have o1 : p3 (mbs k') = .own k' := (hB.qt.same _ hx.own.lt).trans hx.ownT
      exact ⟨(hx.blk.touch hB.qt (by simp [stoTag])).touch q2 (by simp), o1, (hx.own.movet hB.qt (by rw [hx.ownT]; simp [stoTag])).movet q2 (by rw [o1]; simp)⟩
  · have hc' : c ∈ (st.snaps ++ [(⟨nb, st.vis, []⟩ : Snap)]).map Snap.blk := hc
    rw [List.map_append, List.mem_append] at hc'
    rcases hc' with hc' | hc'
    · obtain ⟨j, j1, j2⟩ := h.snp c hc'
      refine ⟨j, ?_, ?_⟩
      · show (setSlot d.opn k _ j).isSome
        by_cases c'' : j = k
        · subst c''; rw [setSlot_same]; rfl
        · rw [setSlot_other c'']; exact j1
      · have : j ≠ k := fun e => by subst e; rw [hf] at j1; cases j1
        simp [this, j2]
    · refine ⟨k, ?_, by simpa using hc'⟩
      show (setSlot d.opn k _ k).isSome
      rw [setSlot_same]; rfl
/-- Open first, then the map. -/
theorem beg_open {w w1 : World} {p p1 : Nat → Own} {k sb N : Nat} {st : St} (hS : StIn w1 p1 sb N (openSt st w.heap.size)) (hq : QT stoTag w p w1 p1) :
    BegIn w p k sb N w.heap.size (w1.heap.size + 1) w1.heap.size st ((w1.alloc (.map #[] 0)).alloc (.cells #[bptr w.heap.size, .int .i64 0, .map (some w1.heap.size)] 122)) (updq (updq p1 w1.heap.size (.own k)) (w1.heap.size + 1) (.tx k)) := by
  have hz : (w1.alloc (.map #[] 0)).heap.size = w1.heap.size + 1 := by simp
  have hB : Below w1.heap.size w1 ((w1.alloc (.map #[] 0)).alloc (.cells #[bptr w.heap.size, .int .i64 0, .map (some w1.heap.size)] 122)) := ((Below.refl _ _).alloc (Nat.le_refl _) _).alloc (by simp) _
  have hsame : ∀ q, q < w1.heap.size → updq (updq p1 w1.heap.size (.own k)) (w1.heap.size + 1) (.tx k) q = p1 q := fun q hq => by rw [updq_other (by omega), updq_other (by omega)]
  obtain ⟨vb, cb, eb, ov, cv, ev, kv, h⟩ := hS
  refine ⟨⟨vb, cb, eb, ov, cv, ev, kv, h.move fun q hq _ => ⟨hB.block q hq, hsame q hq⟩⟩, ⟨hq.touch.then (Touch.ofBelow hB), fun q hq' => (hsame q (Nat.lt_of_lt_of_le hq' hq.size)).trans (hq.same q hq')⟩, ⟨Blk.second w1 _ _ _, updq_same _ _ _⟩, ?_, ?_, Nat.le_refl _⟩
  · rw [updq_other (by omega), updq_same]
  · exact (MapIn.made w1 129 Place.val Wr.val).move (Below.heap_alloc _ _ _ (by simp))
/-- The map first, then Open. -/
theorem beg_map {w w2 : World} {p p2 : Nat → Own} {k sb N : Nat} {st : St} (hS : StIn w2 p2 sb N (openSt st (w.heap.size + 1))) (hq : QT stoTag (w.alloc (.map #[] 0)) (updq p w.heap.size (.own k)) w2 p2) :
    BegIn w p k sb N (w.heap.size + 1) w2.heap.size w.heap.size st (w2.alloc (.cells #[bptr (w.heap.size + 1), .int .i64 0, .map (some w.heap.size)] 122)) (updq p2 w2.heap.size (.tx k)) := by
  have hz : (w.alloc (.map #[] 0)).heap.size = w.heap.size + 1 := by simp
  have hle := hq.size
  have hB : Below w2.heap.size w2 (w2.alloc (.cells #[bptr (w.heap.size + 1), .int .i64 0, .map (some w.heap.size)] 122)) := (Below.refl _ _).alloc (Nat.le_refl _) _
  have hsame : ∀ q, q < w2.heap.size → updq p2 w2.heap.size (.tx k) q = p2 q := fun q hq => updq_other (by omega)
  have hm : p2 w.heap.size = .own k := by rw [hq.same _ (by omega), updq_same]
  obtain ⟨vb, cb, eb, ov, cv, ev, kv, h⟩ := hS
  have hM : MapIn w2 129 w.heap.size 0 Place.val Wr.val (fun _ => none) := (MapIn.made w 129 Place.val Wr.val).movet hq (by rw [updq_same]; simp [stoTag])
  have q0 : QT stoTag w p w2 p2 := ⟨(Touch.ofBelow ((Below.refl _ _).alloc (Nat.le_refl _) _)).trans (hq.touch.mono fun q hq' e => by
      by_cases c : q < w.heap.size
      · rw [updq_other (by omega)] at e; exact Or.inl e
      · exact Or.inr (by omega)), fun q hq' => by rw [hq.same q (by omega), updq_other (by omega)]⟩
  exact ⟨⟨vb, cb, eb, ov, cv, ev, kv, h.move fun q hq _ => ⟨hB.block q hq, hsame q hq⟩⟩, ⟨q0.touch.then (Touch.ofBelow hB), fun q hq' => (hsame q (Nat.lt_of_lt_of_le hq' q0.size)).trans (q0.same q hq')⟩, ⟨heap_alloc_new w2 _, updq_same _ _ _⟩, by rw [updq_other (by omega)]; exact hm, hM.move (Below.heap_alloc _ _ _ hM.lt), by omega⟩

theorem idx6_0 (v0 v1 v2 v3 v4 v5 : Value) (W : World) : (Instr.index 112 (.agg #[v0, v1, v2, v3, v4, v5]) (.int .i64 0)).run Tryz.prog W = .ok v0 W := by kernel_rfl
theorem idx6_1 (v0 v1 v2 v3 v4 v5 : Value) (W : World) : (Instr.index 112 (.agg #[v0, v1, v2, v3, v4, v5]) (.int .i64 1)).run Tryz.prog W = .ok v1 W := by kernel_rfl
theorem idx6_2 (v0 v1 v2 v3 v4 v5 : Value) (W : World) : (Instr.index 112 (.agg #[v0, v1, v2, v3, v4, v5]) (.int .i64 2)).run Tryz.prog W = .ok v2 W := by kernel_rfl
theorem idx6_3 (v0 v1 v2 v3 v4 v5 : Value) (W : World) : (Instr.index 112 (.agg #[v0, v1, v2, v3, v4, v5]) (.int .i64 3)).run Tryz.prog W = .ok v3 W := by kernel_rfl
theorem idx6_4 (v0 v1 v2 v3 v4 v5 : Value) (W : World) : (Instr.index 112 (.agg #[v0, v1, v2, v3, v4, v5]) (.int .i64 4)).run Tryz.prog W = .ok v4 W := by kernel_rfl
theorem idx6_5 (v0 v1 v2 v3 v4 v5 : Value) (W : World) : (Instr.index 112 (.agg #[v0, v1, v2, v3, v4, v5]) (.int .i64 5)).run Tryz.prog W = .ok v5 W := by kernel_rfl
theorem QT.undrew {A : Own → Prop} {w w' : World} {p p' : Nat → Own} (h : QT A w.drew p w' p') : QT A w p w' p' := ⟨⟨h.touch.os, h.touch.tape, h.touch.output, h.touch.size, h.touch.block⟩, h.same⟩
theorem open_a {w : World} {p : Nat → Own} {b n i k : Nat} {d : DRep} {sb : Nat} {st : St} {sl tbs mbs : Nat → Nat} {hv kn : List Value} (h : RepP w p b n i d sb st sl tbs mbs hv kn) (hk : k < 6) (hf : d.opn k = none) :
    Calls Tryz.prog 59 #[bptr sb] w.drew fun e w' => e = .returned (bptr w.heap.size) ∧ w'.cell? ⟨b, 33 + k, none⟩ = some (.pointer none) ∧ w'.frozen? ⟨b, 33 + k, none⟩ = false ∧ b < w'.heap.size ∧ Hid (∃ p1, StIn w' p1 sb (48 * d.hs.length) (openSt st w.heap.size) ∧ QT stoTag w p w' p1) := by
  have hI : StIn w.drew p sb (48 * d.hs.length) st := by
    obtain ⟨vb, cb, eb, ov, cv, ev, kv, hs⟩ := h.sto
    exact ⟨vb, cb, eb, ov, cv, ev, kv, hs.move fun q hq _ => ⟨rfl, rfl⟩⟩
  refine (open_st hI (by have := h.snaps6; omega)).mono ?_
  rintro e w' ⟨rfl, p1, h1, h2⟩
  have b1 := h.blk.touch h2.undrew (by simp [stoTag])
  refine ⟨rfl, ?_, b1.blk.frozen _, b1.blk.lt, p1, h1, h2.undrew⟩
  rw [b1.blk.cell (33 + k), repCells_op h.hlen h.klen, opvs_get hk]
  unfold opv; rw [hf]; rfl
theorem open_b {w : World} {p : Nat → Own} {b n i k : Nat} {d : DRep} {sb : Nat} {st : St} {sl tbs mbs : Nat → Nat} {hv kn : List Value} (h : RepP w p b n i d sb st sl tbs mbs hv kn) (hk : k < 6) (hf : d.opn k = none) :
    Calls Tryz.prog 59 #[bptr sb] (w.alloc (.map #[] 0)).drew fun e w' => e = .returned (bptr (w.heap.size + 1)) ∧ w'.cell? ⟨b, 33 + k, none⟩ = some (.pointer none) ∧ w'.frozen? ⟨b, 33 + k, none⟩ = false ∧ b < w'.heap.size ∧ Hid (∃ p2, StIn w' p2 sb (48 * d.hs.length) (openSt st (w.heap.size + 1)) ∧ QT stoTag (w.alloc (.map #[] 0)) (updq p w.heap.size (.own k)) w' p2) := by
  have hz : (w.alloc (.map #[] 0)).drew.heap.size = w.heap.size + 1 := by simp [World.drew]
  have hh : RepP (w.alloc (.map #[] 0)) (updq p w.heap.size (.own k)) b n i d sb st sl tbs mbs hv kn := h.move fun q hq _ => ⟨Below.heap_alloc _ _ _ hq, updq_other (by omega)⟩
  have hI : StIn (w.alloc (.map #[] 0)).drew (updq p w.heap.size (.own k)) sb (48 * d.hs.length) st := by
    obtain ⟨vb, cb, eb, ov, cv, ev, kv, hs⟩ := hh.sto
    exact ⟨vb, cb, eb, ov, cv, ev, kv, hs.move fun q hq _ => ⟨rfl, rfl⟩⟩
  have a := open_st hI (by have := h.snaps6; omega)
  rw [hz] at a
  refine a.mono ?_
  rintro e w' ⟨rfl, p1, h1, h2⟩
  have b1 := hh.blk.touch h2.undrew (by simp [stoTag])
  refine ⟨rfl, ?_, b1.blk.frozen _, b1.blk.lt, p1, h1, h2.undrew⟩
  rw [b1.blk.cell (33 + k), repCells_op h.hlen h.klen, opvs_get hk]
  unfold opv; rw [hf]; rfl
theorem begin_none {d : DRep} (h : ∀ j, j < 6 → (d.opn j).isSome = true) : beginAns d = .tuple #[.int .i64 0, .int .i64 5] ∧ beginD d = d := by
  have : ¬ freeSlot d.opn < 6 := by
    unfold freeSlot
    intro c
    have := List.findIdx_getElem (w := by simpa using c) (xs := List.range 6) (p := fun k => (d.opn k).isNone)
    simp only [List.getElem_range] at this
    have h2 := h _ c
    unfold freeSlot at h2
    cases e : d.opn (List.findIdx (fun k => (d.opn k).isNone) (List.range 6)) with
    | none => rw [e] at h2; cases h2
    | some t => rw [e] at this; cases this
  unfold beginAns beginD
  rw [if_neg this, if_neg this]
  exact ⟨rfl, rfl⟩
theorem begin_at {d : DRep} {k : Nat} (hk : k < 6) (h : ∀ j, j < k → (d.opn j).isSome = true) (hf : d.opn k = none) : beginAns d = .tuple #[.int .i64 k, .int .i64 0] ∧ beginD d = { d with opn := setSlot d.opn k (some ⟨0, 0, d.vis, []⟩) } := by
  have e := freeSlot_eq hk h hf
  unfold beginAns beginD
  rw [if_pos (by omega), if_pos (by omega), e]
  exact ⟨rfl, rfl⟩

set_option maxRecDepth 100000 in
set_option maxHeartbeats 8000000 in
theorem begin_call {w : World} {p : Nat → Own} {b n i : Nat} {d : DRep} (h : RepIn w p b n i d) :
    Calls Tryz.prog 27 #[bptr b] w fun e w' => e = .returned (beginAns d) ∧ ∃ p', RepIn w' p' b n i (beginD d) ∧ QT notOther w p w' p' := by
  obtain ⟨sb, st, sl, tbs, mbs, hv, kn, h⟩ := h
  have hmm := @run_makeMap Tryz.prog
  have c2 := h.cellOf.2.2
  have o0 : w.cell? ⟨b, 33, none⟩ = some (opv d tbs 0) := h.cellOp (k := 0) (by omega)
  have o1 : w.cell? ⟨b, 34, none⟩ = some (opv d tbs 1) := h.cellOp (k := 1) (by omega)
  have o2 : w.cell? ⟨b, 35, none⟩ = some (opv d tbs 2) := h.cellOp (k := 2) (by omega)
  have o3 : w.cell? ⟨b, 36, none⟩ = some (opv d tbs 3) := h.cellOp (k := 3) (by omega)
  have o4 : w.cell? ⟨b, 37, none⟩ = some (opv d tbs 4) := h.cellOp (k := 4) (by omega)
  have o5 : w.cell? ⟨b, 38, none⟩ = some (opv d tbs 5) := h.cellOp (k := 5) (by omega)
  have hl := h.blk.blk.lt
  have hf : ∀ j, w.frozen? ⟨b, j, none⟩ = false := fun j => h.blk.blk.frozen j
  have hopn : ∀ j, ((d.opn j).isSome = true ∧ opv d tbs j = bptr (tbs j)) ∨ (d.opn j = none ∧ opv d tbs j = .pointer none) := fun j => by
    unfold opv
    cases e : d.opn j with
    | none => exact Or.inr ⟨rfl, rfl⟩
    | some t => exact Or.inl ⟨rfl, rfl⟩
  generalize e0 : opv d tbs 0 = v0 at *
  generalize e1 : opv d tbs 1 = v1 at *
  generalize e2 : opv d tbs 2 = v2 at *
  generalize e3 : opv d tbs 3 = v3 at *
  generalize e4 : opv d tbs 4 = v4 at *
  generalize e5 : opv d tbs 5 = v5 at *
  have HE := hide (⟨e0, e1, e2, e3, e4, e5⟩ : _ ∧ _ ∧ _ ∧ _ ∧ _ ∧ _)
  have HO := hide hopn
  have HH := hide h
  have HFZ := hide hf
  clear e0 e1 e2 e3 e4 e5 hopn h hf
  go_enter Tryz.func27, Tryz.ntmps27
  go_wp2_with fail
  go_loopw [10] (fun j wr => ∃ k : Nat, k ≤ 6 ∧ j = .int .i64 k ∧ wr = w ∧ Hid (∀ q, q < k → (d.opn q).isSome = true)) (fun j _ => 6 - (intOf j).toNat)
  case atStart => exact ⟨0, by omega, rfl, rfl, fun q hq => by omega⟩
  case round =>
    obtain ⟨k, hk6, rfl, rfl, hall⟩ := hrel
    have hk7 : k = 6 ∨ k = 0 ∨ k = 1 ∨ k = 2 ∨ k = 3 ∨ k = 4 ∨ k = 5 := by omega
    rcases hk7 with rfl | hk7
    · have EA := hide (begin_none (d := d) (fun j hj => hall.out j hj))
      go_wp2_with fail
      go_ret2
      exact ⟨by rw [EA.out.1]; rfl, p, by rw [EA.out.2]; exact ⟨sb, st, sl, tbs, mbs, hv, kn, HH.out⟩, QT.refl _ _ _⟩
    · rcases hk7 with rfl | rfl | rfl | rfl | rfl | rfl
      · rw [show ((0 : Nat) : Int) = 0 from rfl]
        have hix := idx6_0
        rcases HO.out 0 with ⟨hs, e⟩ | ⟨hs, e⟩
        · rw [HE.out.1] at e
          subst e
          have hnx : ∀ q, q < 1 → (d.opn q).isSome = true := fun q hq => by
            rcases Nat.lt_or_ge q 0 with c | c
            · exact hall.out q c
            · have : q = 0 := by omega
              subst this; exact hs
          have HNX := hide hnx
          clear hs hnx
          go_wp2_with fail
          exact ⟨⟨1, by omega, by go_num, by first | rfl | trivial, HNX.out⟩, by simp [intOf]⟩
        · rw [HE.out.1] at e
          subst e
          have EA := hide (begin_at (d := d) (k := 0) (by omega) hall.out hs)
          have HA := hide (open_a HH.out (k := 0) (by omega) hs)
          have HB := hide (open_b HH.out (k := 0) (by omega) hs)
          have HS := hide hs
          clear hs
          go_wp2_with fail
          go_region_with (first | (go_at_call 59; show Calls _ _ _ (World.drew (World.alloc _ _)) _; refine HB.out.mono ?_; rintro e w5 ⟨rfl, k1, k2, k3, k4⟩) | (go_at_call 59; refine HA.out.mono ?_; rintro e w5 ⟨rfl, k1, k2, k3, k4⟩))
          all_goals go_wp2_with fail
          all_goals go_ret2
          all_goals
            refine ⟨by rw [EA.out.1]; rfl, ?_⟩
            rw [EA.out.2]
            obtain ⟨p5, g1, g2⟩ := k4.out
            first
              | (have M := begun_meet (k := 0) HH.out (by omega) HS.out (beg_open g1 g2); rw [World.setCell_alloc_past _ _ _ _ (by simp; omega), World.setCell_alloc_past _ _ _ _ k3] at M; exact ⟨_, M⟩)
              | (have M := begun_meet (k := 0) HH.out (by omega) HS.out (beg_map g1 g2); rw [World.setCell_alloc_past _ _ _ _ k3] at M; exact ⟨_, M⟩)
      · rw [show ((1 : Nat) : Int) = 1 from rfl]
        have hix := idx6_1
        rcases HO.out 1 with ⟨hs, e⟩ | ⟨hs, e⟩
        · rw [HE.out.2.1] at e
          subst e
          have hnx : ∀ q, q < 2 → (d.opn q).isSome = true := fun q hq => by
            rcases Nat.lt_or_ge q 1 with c | c
            · exact hall.out q c
            · have : q = 1 := by omega
              subst this; exact hs
          have HNX := hide hnx
          clear hs hnx
          go_wp2_with fail
          exact ⟨⟨2, by omega, by go_num, by first | rfl | trivial, HNX.out⟩, by simp [intOf]⟩
        · rw [HE.out.2.1] at e
          subst e
          have EA := hide (begin_at (d := d) (k := 1) (by omega) hall.out hs)
          have HA := hide (open_a HH.out (k := 1) (by omega) hs)
          have HB := hide (open_b HH.out (k := 1) (by omega) hs)
          have HS := hide hs
          clear hs
          go_wp2_with fail
          go_region_with (first | (go_at_call 59; show Calls _ _ _ (World.drew (World.alloc _ _)) _; refine HB.out.mono ?_; rintro e w5 ⟨rfl, k1, k2, k3, k4⟩) | (go_at_call 59; refine HA.out.mono ?_; rintro e w5 ⟨rfl, k1, k2, k3, k4⟩))
          all_goals go_wp2_with fail
          all_goals go_ret2
          all_goals
            refine ⟨by rw [EA.out.1]; rfl, ?_⟩
            rw [EA.out.2]
            obtain ⟨p5, g1, g2⟩ := k4.out
            first
              | (have M := begun_meet (k := 1) HH.out (by omega) HS.out (beg_open g1 g2); rw [World.setCell_alloc_past _ _ _ _ (by simp; omega), World.setCell_alloc_past _ _ _ _ k3] at M; exact ⟨_, M⟩)
              | (have M := begun_meet (k := 1) HH.out (by omega) HS.out (beg_map g1 g2); rw [World.setCell_alloc_past _ _ _ _ k3] at M; exact ⟨_, M⟩)
      · rw [show ((2 : Nat) : Int) = 2 from rfl]
        have hix := idx6_2
        rcases HO.out 2 with ⟨hs, e⟩ | ⟨hs, e⟩
        · rw [HE.out.2.2.1] at e
          subst e
          have hnx : ∀ q, q < 3 → (d.opn q).isSome = true := fun q hq => by
            rcases Nat.lt_or_ge q 2 with c | c
            · exact hall.out q c
            · have : q = 2 := by omega
              subst this; exact hs
          have HNX := hide hnx
          clear hs hnx
          go_wp2_with fail
          exact ⟨⟨3, by omega, by go_num, by first | rfl | trivial, HNX.out⟩, by simp [intOf]⟩
        · rw [HE.out.2.2.1] at e
          subst e
          have EA := hide (begin_at (d := d) (k := 2) (by omega) hall.out hs)
          have HA := hide (open_a HH.out (k := 2) (by omega) hs)
          have HB := hide (open_b HH.out (k := 2) (by omega) hs)
          have HS := hide hs
          clear hs
          go_wp2_with fail
          go_region_with (first | (go_at_call 59; show Calls _ _ _ (World.drew (World.alloc _ _)) _; refine HB.out.mono ?_; rintro e w5 ⟨rfl, k1, k2, k3, k4⟩) | (go_at_call 59; refine HA.out.mono ?_; rintro e w5 ⟨rfl, k1, k2, k3, k4⟩))
          all_goals go_wp2_with fail
          all_goals go_ret2
          all_goals
            refine ⟨by rw [EA.out.1]; rfl, ?_⟩
            rw [EA.out.2]
            obtain ⟨p5, g1, g2⟩ := k4.out
            first
              | (have M := begun_meet (k := 2) HH.out (by omega) HS.out (beg_open g1 g2); rw [World.setCell_alloc_past _ _ _ _ (by simp; omega), World.setCell_alloc_past _ _ _ _ k3] at M; exact ⟨_, M⟩)
              | (have M := begun_meet (k := 2) HH.out (by omega) HS.out (beg_map g1 g2); rw [World.setCell_alloc_past _ _ _ _ k3] at M; exact ⟨_, M⟩)
      · rw [show ((3 : Nat) : Int) = 3 from rfl]
        have hix := idx6_3
        rcases HO.out 3 with ⟨hs, e⟩ | ⟨hs, e⟩
        · rw [HE.out.2.2.2.1] at e
          subst e
          have hnx : ∀ q, q < 4 → (d.opn q).isSome = true := fun q hq => by
            rcases Nat.lt_or_ge q 3 with c | c
            · exact hall.out q c
            · have : q = 3 := by omega
              subst this; exact hs
          have HNX := hide hnx
          clear hs hnx
          go_wp2_with fail
          exact ⟨⟨4, by omega, by go_num, by first | rfl | trivial, HNX.out⟩, by simp [intOf]⟩
        · rw [HE.out.2.2.2.1] at e
          subst e
          have EA := hide (begin_at (d := d) (k := 3) (by omega) hall.out hs)
          have HA := hide (open_a HH.out (k := 3) (by omega) hs)
          have HB := hide (open_b HH.out (k := 3) (by omega) hs)
          have HS := hide hs
          clear hs
          go_wp2_with fail
          go_region_with (first | (go_at_call 59; show Calls _ _ _ (World.drew (World.alloc _ _)) _; refine HB.out.mono ?_; rintro e w5 ⟨rfl, k1, k2, k3, k4⟩) | (go_at_call 59; refine HA.out.mono ?_; rintro e w5 ⟨rfl, k1, k2, k3, k4⟩))
          all_goals go_wp2_with fail
          all_goals go_ret2
          all_goals
            refine ⟨by rw [EA.out.1]; rfl, ?_⟩
            rw [EA.out.2]
            obtain ⟨p5, g1, g2⟩ := k4.out
            first
              | (have M := begun_meet (k := 3) HH.out (by omega) HS.out (beg_open g1 g2); rw [World.setCell_alloc_past _ _ _ _ (by simp; omega), World.setCell_alloc_past _ _ _ _ k3] at M; exact ⟨_, M⟩)
              | (have M := begun_meet (k := 3) HH.out (by omega) HS.out (beg_map g1 g2); rw [World.setCell_alloc_past _ _ _ _ k3] at M; exact ⟨_, M⟩)
      · rw [show ((4 : Nat) : Int) = 4 from rfl]
        have hix := idx6_4
        rcases HO.out 4 with ⟨hs, e⟩ | ⟨hs, e⟩
        · rw [HE.out.2.2.2.2.1] at e
          subst e
          have hnx : ∀ q, q < 5 → (d.opn q).isSome = true := fun q hq => by
            rcases Nat.lt_or_ge q 4 with c | c
            · exact hall.out q c
            · have : q = 4 := by omega
              subst this; exact hs
          have HNX := hide hnx
          clear hs hnx
          go_wp2_with fail
          exact ⟨⟨5, by omega, by go_num, by first | rfl | trivial, HNX.out⟩, by simp [intOf]⟩
        · rw [HE.out.2.2.2.2.1] at e
          subst e
          have EA := hide (begin_at (d := d) (k := 4) (by omega) hall.out hs)
          have HA := hide (open_a HH.out (k := 4) (by omega) hs)
          have HB := hide (open_b HH.out (k := 4) (by omega) hs)
          have HS := hide hs
          clear hs
          go_wp2_with fail
          go_region_with (first | (go_at_call 59; show Calls _ _ _ (World.drew (World.alloc _ _)) _; refine HB.out.mono ?_; rintro e w5 ⟨rfl, k1, k2, k3, k4⟩) | (go_at_call 59; refine HA.out.mono ?_; rintro e w5 ⟨rfl, k1, k2, k3, k4⟩))
          all_goals go_wp2_with fail
          all_goals go_ret2
          all_goals
            refine ⟨by rw [EA.out.1]; rfl, ?_⟩
            rw [EA.out.2]
            obtain ⟨p5, g1, g2⟩ := k4.out
            first
              | (have M := begun_meet (k := 4) HH.out (by omega) HS.out (beg_open g1 g2); rw [World.setCell_alloc_past _ _ _ _ (by simp; omega), World.setCell_alloc_past _ _ _ _ k3] at M; exact ⟨_, M⟩)
              | (have M := begun_meet (k := 4) HH.out (by omega) HS.out (beg_map g1 g2); rw [World.setCell_alloc_past _ _ _ _ k3] at M; exact ⟨_, M⟩)
      · rw [show ((5 : Nat) : Int) = 5 from rfl]
        have hix := idx6_5
        rcases HO.out 5 with ⟨hs, e⟩ | ⟨hs, e⟩
        · rw [HE.out.2.2.2.2.2] at e
          subst e
          have hnx : ∀ q, q < 6 → (d.opn q).isSome = true := fun q hq => by
            rcases Nat.lt_or_ge q 5 with c | c
            · exact hall.out q c
            · have : q = 5 := by omega
              subst this; exact hs
          have HNX := hide hnx
          clear hs hnx
          go_wp2_with fail
          exact ⟨⟨6, by omega, by go_num, by first | rfl | trivial, HNX.out⟩, by simp [intOf]⟩
        · rw [HE.out.2.2.2.2.2] at e
          subst e
          have EA := hide (begin_at (d := d) (k := 5) (by omega) hall.out hs)
          have HA := hide (open_a HH.out (k := 5) (by omega) hs)
          have HB := hide (open_b HH.out (k := 5) (by omega) hs)
          have HS := hide hs
          clear hs
          go_wp2_with fail
          go_region_with (first | (go_at_call 59; show Calls _ _ _ (World.drew (World.alloc _ _)) _; refine HB.out.mono ?_; rintro e w5 ⟨rfl, k1, k2, k3, k4⟩) | (go_at_call 59; refine HA.out.mono ?_; rintro e w5 ⟨rfl, k1, k2, k3, k4⟩))
          all_goals go_wp2_with fail
          all_goals go_ret2
          all_goals
            refine ⟨by rw [EA.out.1]; rfl, ?_⟩
            rw [EA.out.2]
            obtain ⟨p5, g1, g2⟩ := k4.out
            first
              | (have M := begun_meet (k := 5) HH.out (by omega) HS.out (beg_open g1 g2); rw [World.setCell_alloc_past _ _ _ _ (by simp; omega), World.setCell_alloc_past _ _ _ _ k3] at M; exact ⟨_, M⟩)
              | (have M := begun_meet (k := 5) HH.out (by omega) HS.out (beg_map g1 g2); rw [World.setCell_alloc_past _ _ _ _ k3] at M; exact ⟨_, M⟩)

end Go.Proofs.YtiplgdkpnhamaaaGreatDoor
