/- The texts ZK11, U49, ZK12, U50, ZK13, U51, ZK14, U52, ZK15, U53, ZK16, U54, ZF2, joined. -/
import Derived.Test.YtiplgdkpnhamaaaGreatDoorJ25
import Derived.Test.YtiplgdkpnhamaaaGreatDoorJ39
import Derived.Test.YtiplgdkpnhamaaaGreatDoorJ37
import Derived.Test.YtiplgdkpnhamaaaGreatDoorJ36
import Derived.Deep.RegionHeld3
import Derived.ControlIn

namespace Go.Proofs.YtiplgdkpnhamaaaGreatDoor.Tv
open Go.RowKit
theorem heldOf_snoc (hs : List RTx) (u : RTx) (r g : Nat) (hg : g ≤ cntR hs r) : heldOf (hs ++ [u]) r g = heldOf hs r g ++ if u.rep = (r : Int) then [u] else [] := by
  unfold heldOf
  rw [List.filter_append, List.drop_append_of_le_length hg]
  by_cases c : u.rep = (r : Int) <;> simp [c]
set_option maxRecDepth 100000 in
set_option maxHeartbeats 8000000 in
theorem show_any {xq : DX} {w : World} {p : Nat → Own} {b n i : Nat} {d : DRep} {sb : Nat} {st : St} {sl tbs mbs : Nat → Nat} {hv kn : List Value} {u : RTx} {mb : Nat} (h : RepP xq w p b n i d sb st sl tbs mbs hv kn) (hR : d.hs.length ≤ 1100000) (hu : NewOk n d.hs u) (hM : TrIn w (trOf u, mb)) (hmt : p mb = .held 5) :
    Calls Tryz.prog 66 #[bptr b, trVal u.rep.toNat u.seq (vecOf u.saw) mb] w fun e w' => e = .returned (.tuple #[]) ∧
      ∃ p', RepIn xq w' p' b n i (showD d u) ∧ QT (fun t => stoTag t ∨ t = .rep ∨ t = .held u.rep.toNat) w p w' p' := by
  have hb5 : u.rep.toNat < 5 := by have := hu.rN; have := h.ok.hist.n5; omega
  have hp0 : RepP xq w (own2q p w.heap.size others) b n i d sb st sl tbs mbs hv kn := h.move fun q hq _ => ⟨rfl, own2q_low hq⟩
  have hmt0 : own2q p w.heap.size others mb = .held 5 := (own2q_low hM.lt).trans hmt
  have hap := fun W (hB : Below w.heap.size w W) => apply_rep (W := W) (hp0.below hB) hR hu (MapIn.move hM (hB.block _ hM.lt)) hmt0 (Below.refl _ _)
  obtain ⟨sv, hsv⟩ : ∃ sv, vecOf u.saw = sv := ⟨_, rfl⟩
  obtain ⟨sq, hsq⟩ : ∃ sq : Int, u.seq = sq := ⟨_, rfl⟩
  obtain ⟨rr, hrr⟩ : ∃ rr : Nat, u.rep.toNat = rr := ⟨_, rfl⟩
  rw [hsv, hsq, hrr] at hap
  rw [hsv, hsq, hrr]
  rw [hrr] at hb5
  generalize hW0 : w.alloc (.cells #[.int .i64 rr, .int .i64 sq, .int .i64 sv.a, .int .i64 sv.b, .int .i64 sv.c, .int .i64 sv.d, .int .i64 sv.e, .map (some mb)] 139) = W0
  have hB0 : Below w.heap.size w W0 := by rw [← hW0]; exact (Below.refl _ _).alloc (Nat.le_refl _) _
  have bx : Blk W0 w.heap.size [.int .i64 rr, .int .i64 sq, .int .i64 sv.a, .int .i64 sv.b, .int .i64 sv.c, .int .i64 sv.d, .int .i64 sv.e, .map (some mb)] 139 := by rw [← hW0]; exact heap_alloc_new w _
  have hb0 := h.below hB0
  obtain ⟨-, -, c2⟩ := hb0.cellOf
  have y2 := Bel.cell c2
  have y0 := Bel.cell (show W0.cell? ⟨w.heap.size, 0, none⟩ = some (.int .i64 rr) from bx.cell 0)
  have y1 := Bel.cell (show W0.cell? ⟨w.heap.size, 1, none⟩ = some (.int .i64 sq) from bx.cell 1)
  have y3 := Bel.cell (show W0.cell? ⟨w.heap.size, 2, none⟩ = some (.int .i64 sv.a) from bx.cell 2)
  have y4 := Bel.cell (show W0.cell? ⟨w.heap.size, 3, none⟩ = some (.int .i64 sv.b) from bx.cell 3)
  have y5 := Bel.cell (show W0.cell? ⟨w.heap.size, 4, none⟩ = some (.int .i64 sv.c) from bx.cell 4)
  have y6 := Bel.cell (show W0.cell? ⟨w.heap.size, 5, none⟩ = some (.int .i64 sv.d) from bx.cell 5)
  have y7 := Bel.cell (show W0.cell? ⟨w.heap.size, 6, none⟩ = some (.int .i64 sv.e) from bx.cell 6)
  have y8 := Bel.cell (show W0.cell? ⟨w.heap.size, 7, none⟩ = some (.map (some mb)) from bx.cell 7)
  have HAP := hide hap
  have HW0 := hide hW0
  have HH := hide (⟨h, hB0, bx, hp0, hsq, hsv, hrr, hM, hmt⟩ : _ ∧ _ ∧ _ ∧ _ ∧ _ ∧ _ ∧ _ ∧ _ ∧ _)
  clear hap h hM hmt hB0 bx hp0 hmt0 hb0 c2 hW0 hsv hsq hrr
  go_enter Tryz.func66, Tryz.ntmps66
  go_upto_region 1 with (fail)
  rw [HW0.out]
  refine region_fam_tail (Bel W0) 5 (by kernel_rfl) (by kernel_rfl) (Below.refl _ _).drew ?_
  simp only [List.take_succ_cons, List.take_zero, List.drop_succ_cons, List.drop_zero]
  repeat (go_big_quiet_step (fail))
  refine wpQuiet_nil ?_
  intro _ hw'
  obtain ⟨fq, rfl⟩ := hw'
  obtain ⟨W1, hB1⟩ := fq
  try dsimp only
  clear y0 y1 y2 y3 y4 y5 y6 y7 y8
  have hBw1 : Below w.heap.size w W1 := HH.out.2.1.trans (hB1.mono HH.out.2.1.size)
  go_wp2_with fail
  refine (HAP.out W1 hBw1).mono ?_
  rintro e w2 ⟨rfl, p2, st2, hI2, hok2, hbl2, hq2⟩
  obtain ⟨h, hB0, bx, hp0, hsq, hsv, hrr, hM, hmt⟩ := HH.out
  have hp1 := hp0.below hBw1
  have bb2 := hp1.blk.touch hq2 (by simp [stoTag])
  have bx2 : Blk w2 w.heap.size [.int .i64 rr, .int .i64 sq, .int .i64 sv.a, .int .i64 sv.b, .int .i64 sv.c, .int .i64 sv.d, .int .i64 sv.e, .map (some mb)] 139 := by
    have b1 := bx.below hB1
    exact b1.move (hq2.touch.block _ b1.lt (by rw [own2q_high (Nat.le_refl _)]; exact sto_other))
  obtain ⟨zs, hz1, hrow, hz3⟩ := (hp1.held rr (by rw [h.hlen]; exact hb5)).ex
  have hrow2 := hrow.touch hq2 (by simp [stoTag])
  have hcell2 : w2.cell? ⟨b, 3 + rr, none⟩ = some (hv[rr]'(by rw [h.hlen]; exact hb5)) := by
    rw [bb2.blk.cell (3 + rr), repCells_hv h.hlen rr hb5]; simp
  have hzl : zs.length ≤ 2000000 := by
    have e1 := congrArg List.length hz1
    have e2 := cntR_le d.hs rr
    simp only [List.length_map] at e1
    unfold heldOf at e1
    rw [List.length_drop] at e1
    have e3 : (d.hs.filter fun u => decide (u.rep = (rr : Int))).length = cntR d.hs rr := rfl
    omega
  have hadd := fun W (hB : Below w2.heap.size w2 W) => held_add (bb2.below hB) (cell_later hB hcell2) hb5 (hrow2.below hB) hzl sq sv.a sv.b sv.c sv.d sv.e mb
  have HADD := hide hadd
  have l2 : b < w2.heap.size := bb2.blk.lt
  have y0 := Bel.cell (show w2.cell? ⟨w.heap.size, 0, none⟩ = some (.int .i64 rr) from bx2.cell 0)
  have y1 := Bel.cell (show w2.cell? ⟨w.heap.size, 1, none⟩ = some (.int .i64 sq) from bx2.cell 1)
  have y3 := Bel.cell (show w2.cell? ⟨w.heap.size, 2, none⟩ = some (.int .i64 sv.a) from bx2.cell 2)
  have y4 := Bel.cell (show w2.cell? ⟨w.heap.size, 3, none⟩ = some (.int .i64 sv.b) from bx2.cell 3)
  have y5 := Bel.cell (show w2.cell? ⟨w.heap.size, 4, none⟩ = some (.int .i64 sv.c) from bx2.cell 4)
  have y6 := Bel.cell (show w2.cell? ⟨w.heap.size, 5, none⟩ = some (.int .i64 sv.d) from bx2.cell 5)
  have y7 := Bel.cell (show w2.cell? ⟨w.heap.size, 6, none⟩ = some (.int .i64 sv.e) from bx2.cell 6)
  have y8 := Bel.cell (show w2.cell? ⟨w.heap.size, 7, none⟩ = some (.map (some mb)) from bx2.cell 7)
  have H2 := hide (⟨hI2, hok2, hbl2, hq2, hp1, hz1, hz3, hBw1⟩ : _ ∧ _ ∧ _ ∧ _ ∧ _ ∧ _ ∧ _ ∧ _)
  clear hadd hI2 hok2 hbl2 hq2 hp1 hz1 hz3 hzl hBw1 hrow hrow2 hcell2 bx2 bb2 h hB0 bx hp0 hsq hsv hrr hM hmt hB1
  go_upto_region 2 with (fail)
  refine region_fam_tail (Bel w2) 4 (by kernel_rfl) (by kernel_rfl) (Below.refl _ _).drew ?_
  simp only [List.take_succ_cons, List.take_zero, List.drop_succ_cons, List.drop_zero]
  repeat (go_big_quiet_step (fail))
  refine wpQuiet_nil ?_
  intro _ hw'
  obtain ⟨fq, rfl⟩ := hw'
  obtain ⟨W3, hB3⟩ := fq
  try dsimp only
  clear y0 y1 y3 y4 y5 y6 y7 y8
  go_wp2_with fail
  refine (HADD.out W3 hB3).mono ?_
  rintro e w4 ⟨rfl, p4, v4, b4, r4, q4⟩
  have H4 := hide (⟨b4, r4, q4⟩ : _ ∧ _ ∧ _)
  clear b4 r4 q4
  go_wp2_with fail
  go_end0
  obtain ⟨h, hB0, bx, hp0, hsq, hsv, hrr, hM, hmt⟩ := HH.out
  obtain ⟨hI2, hok2, hbl2, hq2, hp1, hz1, hz3, hBw1⟩ := H2.out
  obtain ⟨b4, r4, q4⟩ := H4.out
  rw [repCells_setH h.hlen rr hb5] at b4
  have qa : QT (fun t => stoTag t ∨ t = .rep ∨ t = .held rr) W1 (own2q p w.heap.size others) w4 p4 := ((hq2.below hB3).mono fun u hu => Or.inl hu).trans (q4.mono fun u hu => Or.inr hu)
  have q0 : QT (fun t => stoTag t ∨ t = .rep ∨ t = .held rr) w (own2q p w.heap.size others) W1 (own2q p w.heap.size others) := QT.ofBelow hBw1
  have qb := q0.trans qa
  have qf : QT (fun t => stoTag t ∨ t = .rep ∨ t = .held rr) w p w4 p4 := ⟨qb.touch.mono fun q hq e => by rw [own2q_low hq] at e; exact e, fun q hq => (qb.same q hq).trans (own2q_low hq)⟩
  have hlen : (d.hs ++ [u]).length = d.hs.length + 1 := by simp
  have hmw : mb < W1.heap.size := Nat.lt_of_lt_of_le hM.lt hBw1.size
  have hmt1 : own2q p w.heap.size others mb = .held 5 := (own2q_low hM.lt).trans hmt
  have hM1 : TrIn W1 (trOf u, mb) := MapIn.move hM (hBw1.block _ hM.lt)
  have hM4 : TrIn w4 (trOf u, mb) ∧ p4 mb = .held 5 := ⟨MapIn.movet hM1 qa (by show ¬ _; rw [hmt1]; simp [stoTag]; omega), (qa.same _ hmw).trans hmt1⟩
  refine ⟨rfl, p4, ⟨sb, st2, sl, tbs, mbs, hv.set rr v4, kn, b4, by simp [h.hlen], h.klen, ?_, hok2, fun r hr => ?_, fun k' t' e' => ?_, fun c hc => ?_, h.known, fun r => ?_⟩, qf⟩
  · show StIn w4 p4 sb (48 * (d.hs ++ [u]).length) st2
    rw [hlen]
    obtain ⟨vb, cb, eb, ov, cv, ev, kv, hs1⟩ := hI2.below hB3
    exact ⟨vb, cb, eb, ov, cv, ev, kv, hs1.touch q4 (fun u hu e => by rcases e with rfl | rfl <;> exact hu)⟩
  · show HeldP w4 p4 r _ (heldOf (d.hs ++ [u]) r (xq.gone r))
    rw [heldOf_snoc _ _ _ _ (h.gle r)]
    by_cases c : rr = r
    · subst c
      rw [if_pos (by rw [← hrr]; exact hu.repN.symm)]
      refine ⟨zs ++ [(trOf u, mb)], by rw [List.map_append, List.map_append, hz1]; rfl, ?_, fun y hy => ?_⟩
      · rw [List.getElem_set_self, List.flatMap_append, List.length_append]
        have : [(trOf u, mb)].flatMap trCells = [.int .i64 rr, .int .i64 sq, .int .i64 sv.a, .int .i64 sv.b, .int .i64 sv.c, .int .i64 sv.d, .int .i64 sv.e, .map (some mb)] := by
          rw [← hrr, ← hsq, ← hsv]; rfl
        rw [this]
        exact r4
      · rw [List.mem_append, List.mem_singleton] at hy
        rcases hy with hy | rfl
        · obtain ⟨a1, a2⟩ := hz3 y hy
          exact ⟨(qa.same _ a2.lt).trans a1, MapIn.movet a2 qa (by show ¬ _; rw [a1]; simp [stoTag]; omega)⟩
        · exact ⟨hM4.2, hM4.1⟩
    · rw [if_neg (by have := hu.repN; omega), List.append_nil]
      rw [List.length_set] at hr
      rw [List.getElem_set_ne c]
      have hr5 : r < 5 := by rw [← h.hlen]; exact hr
      exact (hp1.held r hr).touch qa (by simp [stoTag]; omega) (by simp [stoTag]; omega)
  · have e'' : d.opn k' = some t' := e'
    have hx := hp1.tx k' t' e''
    have o1 : p4 (mbs k') = .own k' := (qa.same _ hx.own.lt).trans hx.ownT
    exact ⟨hx.blk.touch qa (by simp [stoTag]), o1, hx.own.movet qa (by rw [hx.ownT]; simp [stoTag])⟩
  · rw [hbl2] at hc
    exact h.snp c hc
  · show xq.gone r ≤ cntR (d.hs ++ [u]) r
    rw [cntR_snoc]
    have := h.gle r
    omega
end Go.Proofs.YtiplgdkpnhamaaaGreatDoor.Tv

namespace Go.Proofs.YtiplgdkpnhamaaaGreatDoor
open Go.RowKit Go.Sort
theorem row_take {B : Nat} {w : World} {e : TypeId} {size g n cap : Nat} {xs : List Value} (h : w.ownsRow B e size (.slice (some ⟨g, 0, none⟩) n cap) n xs) {m : Nat} (hm : m ≤ n) : w.ownsRow B e size (.slice (some ⟨g, 0, none⟩) m cap) m (xs.take (m * size)) := by
  have hmul : m * size ≤ n * size := Nat.mul_le_mul_right _ hm
  refine ⟨by rw [List.length_take, h.1]; exact Nat.min_eq_left hmul, ?_⟩
  rcases h.2 with ⟨a, -⟩ | ⟨g', cap', cur, e', h0, hg, h1, h2, h3, h4⟩
  · cases a
  · cases e'
    refine .inr ⟨g, cap, cur, rfl, h0, hg, by omega, h2, h3, ?_⟩
    rw [← h4, List.take_take, Nat.min_eq_left hmul]
def PopPost (B : Nat) (w : World) (qb g cap : Nat) (l : List Wt) (y : Wt) (e : Ending) (w' : World) : Prop := e = .returned (.iface 213 (wtVal y)) ∧ QIn B w' qb (.slice (some ⟨g, 0, none⟩) l.length cap) l ∧ Touch (fun q => q = qb) w w'
set_option maxRecDepth 100000 in
set_option maxHeartbeats 4000000 in
theorem q_pop (B : Nat) (w : World) (qb g cap n : Nat) (l : List Wt) (hq : QIn B w qb (.slice (some ⟨g, 0, none⟩) l.length cap) l) (hn : l.length = n + 1) (hl : l.length ≤ 100000000) (hcap : l.length ≤ cap) :
    Calls Tryz.prog 293 #[bptr qb] w (PopPost B w qb g cap (l.take n) (l[n]'(by omega))) := by
  have hnl : n < l.length := by omega
  have hc := hq.cell
  have hf := hq.blk.frozen 0
  have hlq : qb < w.heap.size := hq.blk.lt
  have hlg : g < w.heap.size := (hq.row.lt g rfl).2
  have hne := hq.ne
  have ca := fun (m : Nat) (hm : m < 9) => wt_cell hq.row hnl hm
  generalize hx : l[n] = x at *
  obtain ⟨⟨⟨r, sq, ⟨a, b, c, d, e⟩, wm⟩, mb⟩, nd⟩ := x
  have x0 : w.cell? ⟨g, n * 9, none⟩ = some (.int .i64 r) := ca 0 (by omega)
  have x1 : w.cell? ⟨g, n * 9 + 1, none⟩ = some (.int .i64 sq) := ca 1 (by omega)
  have x2 : w.cell? ⟨g, n * 9 + 2, none⟩ = some (.int .i64 a) := ca 2 (by omega)
  have x3 : w.cell? ⟨g, n * 9 + 3, none⟩ = some (.int .i64 b) := ca 3 (by omega)
  have x4 : w.cell? ⟨g, n * 9 + 4, none⟩ = some (.int .i64 c) := ca 4 (by omega)
  have x5 : w.cell? ⟨g, n * 9 + 5, none⟩ = some (.int .i64 d) := ca 5 (by omega)
  have x6 : w.cell? ⟨g, n * 9 + 6, none⟩ = some (.int .i64 e) := ca 6 (by omega)
  have x7 : w.cell? ⟨g, n * 9 + 7, none⟩ = some (.map (some mb)) := ca 7 (by omega)
  have x8 : w.cell? ⟨g, n * 9 + 8, none⟩ = some (.int .i64 nd) := ca 8 (by omega)
  have HH := hide (⟨hq, hn⟩ : _ ∧ _)
  rw [hn] at hc hl hcap
  clear hq ca hx hnl
  have hn' : ((n : Nat) : Int) + 1 - 1 = n := by omega
  clear hn
  go_enter Tryz.func293, Tryz.ntmps293
  go_wp2_with fail
  go_ret
  obtain ⟨hq, hn⟩ := HH.out
  have e1 : (l.take n).length = n := by rw [List.length_take]; omega
  have hgq : g ≠ qb := fun c => hne (by rw [c]; rfl)
  have hr := row_take (m := n) hq.row (by omega)
  have ef : (l.take n).flatMap wtCells = (l.flatMap wtCells).take (n * 9) := (flat_take wtCells 9 (fun _ => rfl) l n).symm
  refine ⟨rfl, ⟨?_, ?_⟩, ((Touch.refl (fun q => q = qb) w).setCell (p := ⟨qb, 0, none⟩) (Or.inl rfl) _).alloc _⟩
  · rw [e1]; exact (hq.blk.set 0 _).alloc _
  · show World.ownsRow _ _ _ _ _ (l.take n).length _
    rw [e1, ef]
    exact own_move hr fun q hq' => by
      have e2 : q = g := by simp [Value.ownBlock] at hq'; exact hq'.symm
      subst e2
      exact (Below.heap_alloc _ _ _ (by simp [World.setCell]; omega)).trans (Below.heap_setCell _ _ _ _ hgq)
end Go.Proofs.YtiplgdkpnhamaaaGreatDoor

namespace Go.Proofs.YtiplgdkpnhamaaaGreatDoor.Tv
open Go.RowKit
theorem QW.outw {w W0 w1 w2 : World} {p p1 : Nat → Own} (hB0 : Below w.heap.size w W0) (q : QW W0 (own2q p w.heap.size others) w1 p1) (T : Touch (fun q => q = w.heap.size) w1 w2) : QW w p w2 p1 := by
  have q0 : QW w p w1 p1 := by
    refine ⟨(Touch.ofBelow hB0).trans (q.touch.mono fun c hc e => ?_), fun c hc e => ?_⟩
    · by_cases h : c < w.heap.size
      · rw [own2q_low h] at e; exact Or.inl e
      · exact Or.inr (by omega)
    · have := q.stay c (Nat.lt_of_lt_of_le hc hB0.size) e
      rw [own2q_low hc] at this; exact this
  exact ⟨q0.touch.trans (T.mono fun c _ e => Or.inr (by omega)), q0.stay⟩
theorem QW.below {w w1 w2 : World} {p p1 : Nat → Own} (h : QW w p w1 p1) (hb : Below w1.heap.size w1 w2) : QW w p w2 p1 := ⟨h.touch.trans (Touch.ofBelow hb), h.stay⟩
theorem RepP.retag {xq : DX} {w : World} {p : Nat → Own} {b n i k mb : Nat} {d : DRep} {sb : Nat} {st : St} {sl tbs mbs : Nat → Nat} {hv kn : List Value} (h : RepP xq w p b n i d sb st sl tbs mbs hv kn) (hk : d.opn k = none) (hm : p mb = .own k) (u : Own) : RepP xq w (updq p mb u) b n i d sb st sl tbs mbs hv kn := by
  have f : ∀ q v, p q = v → v ≠ .own k → updq p mb u q = p q := fun q v e hv => updq_other fun c => hv (by rw [← e, c]; exact hm)
  have g : ∀ v, v ≠ Own.own k → ∀ q, q < w.heap.size → p q = v → w.heap[q]? = w.heap[q]? ∧ updq p mb u q = v := fun v hv q hq e => ⟨rfl, (f q v e hv).trans e⟩
  obtain ⟨vb, cb, eb, ov, cv, ev, kv, hs⟩ := h.sto
  refine ⟨h.blk.move2 (g _ (by simp)), h.hlen, h.klen, ⟨vb, cb, eb, ov, cv, ev, kv, hs.move fun q hq e => ⟨rfl, f q _ rfl fun c => by rw [c] at e; exact e⟩⟩, h.ok, fun r hr => (h.held r hr).move2 fun q hq e => ⟨rfl, by rcases e with e | e <;> exact f q _ e (by simp)⟩, fun k' t e => ?_, h.snp, h.known, h.gle⟩
  have hne : k' ≠ k := fun c => by rw [c, hk] at e; cases e
  have hx := h.tx k' t e
  exact ⟨hx.blk.move2 (g _ (by simp)), (f _ _ hx.ownT (by simp [hne])).trans hx.ownT, hx.own⟩
theorem RepIn.res {xq : DX} {w W0 w1 w2 : World} {p p1 : Nat → Own} {b n i : Nat} {d : DRep} (h : RepIn xq w1 p1 b n i d) (hz : w.heap.size < W0.heap.size) (q : QW W0 (own2q p w.heap.size others) w1 p1) (T : Touch (fun q => q = w.heap.size) w1 w2) : RepIn xq w2 p1 b n i d :=
  h.move fun c hc hne => ⟨T.block c hc (fun e => q.stay c (by omega) hne (by rw [e, own2q_high (Nat.le_refl _)])), rfl⟩
set_option maxRecDepth 100000 in
set_option maxHeartbeats 8000000 in
theorem commit_ok : CommitOk := by
  intro xq w p b n i d tx h hR
  obtain ⟨sb, st, sl, tbs, mbs, hv, kn, h⟩ := h
  generalize hW0 : w.alloc (.cells #[.int .i64 0, .int .i64 0] 62) = W0
  have hB0 : Below w.heap.size w W0 := by rw [← hW0]; exact (Below.refl _ _).alloc (Nat.le_refl _) _
  have bv : Blk W0 w.heap.size [.int .i64 0, .int .i64 0] 62 := by rw [← hW0]; exact heap_alloc_new w _
  have h0 : RepP xq W0 (own2q p w.heap.size others) b n i d sb st sl tbs mbs hv kn := h.move fun q hq _ => ⟨hB0.block q hq, own2q_low hq⟩
  have hl : w.heap.size < W0.heap.size := bv.lt
  cases ho : opnAt d tx with
  | none =>
    have ea : commitAns i d tx = .tuple #[.agg #[.int .i64 0, .int .i64 0], .int .i64 4] := by unfold commitAns; rw [ho]
    have ed : commitD i d tx = d := by unfold commitD; rw [ho]
    rw [ea, ed]
    have HF := hide (h0.find_none ho)
    have v0 : W0.cell? ⟨w.heap.size, 0, none⟩ = some (.int .i64 0) := bv.cell 0
    have v1 : W0.cell? ⟨w.heap.size, 1, none⟩ = some (.int .i64 0) := bv.cell 1
    have f0 : W0.frozen? ⟨w.heap.size, 0, none⟩ = false := bv.frozen 0
    have f1 : W0.frozen? ⟨w.heap.size, 1, none⟩ = false := bv.frozen 1
    have HW0 := hide hW0
    have HH := hide (⟨h, hB0⟩ : _ ∧ _)
    clear h0 ho ea ed hW0 hB0 bv h
    go_enter Tryz.func32, Tryz.ntmps32
    go_upto_region 1 with (fail)
    rw [HW0.out]
    go_wp2_with (go_at_call 60; refine HF.out.mono ?_; rintro e w1 ⟨rfl, rfl⟩)
    have hBf := (HH.out.2.setCell (p := ⟨w.heap.size, 0, none⟩) (Nat.le_refl _) (.int .i64 0)).setCell (p := ⟨w.heap.size, 1, none⟩) (Nat.le_refl _) (.int .i64 0)
    exact bodyPost_ret (v := .tuple #[.agg #[.int .i64 0, .int .i64 0], .int .i64 4]) (by simp [results, Tryz.results32, go_sem, v0, v1]) rfl ⟨rfl, p, ⟨sb, st, sl, tbs, mbs, hv, kn, HH.out.1.below hBf⟩, QT.qw (QT.ofBelow hBf)⟩
  | some t =>
    obtain ⟨k, rfl, hk, hok, hf⟩ := h0.find_some ho
    have hend := end_any h0 hR hok
    have HF := hide hf
    have HE := hide hend
    have HW0 := hide hW0
    have HH := hide (⟨h, hB0, bv, h0⟩ : _ ∧ _ ∧ _ ∧ _)
    have hto := (h.ok.opn k t hok).1
    have HTO := hide hto
    by_cases hz : t.ops.length = 0
    · have ea : commitAns i d k = .tuple #[.agg #[.int .i64 0, .int .i64 0], .int .i64 0] := by unfold commitAns; rw [ho]; simp only; rw [if_pos hz]
      have ed : commitD i d k = { d with opn := setSlot d.opn k none } := by unfold commitD; rw [ho]; simp only; rw [if_pos hz]; unfold endD; simp
      rw [ea, ed]
      clear hf hend hW0 h hB0 bv h0 ho hok hto ea ed
      go_enter Tryz.func32, Tryz.ntmps32
      go_upto_region 1 with (fail)
      rw [HW0.out]
      go_wp2_with (go_at_call 60; refine HF.out.mono ?_; rintro e w1 ⟨rfl, rfl⟩)
      refine HE.out.mono ?_
      rintro e w2 ⟨rfl, p2, st2, h2, q2, hT2, hB2⟩
      have bv2 : Blk w2 w.heap.size [.int .i64 0, .int .i64 0] 62 := HH.out.2.2.1.move (q2.touch.block _ HH.out.2.2.1.lt (by rw [own2q_high (Nat.le_refl _)]; simp [notOther, others]))
      have c1 : w2.cell? ⟨tbs k, 1, none⟩ = some (.int .i64 0) := by have := hT2.blk.blk.cell 1; rw [hz] at this; exact this
      have l1 := hT2.blk.blk.lt
      have v0 : w2.cell? ⟨w.heap.size, 0, none⟩ = some (.int .i64 0) := bv2.cell 0
      have v1 : w2.cell? ⟨w.heap.size, 1, none⟩ = some (.int .i64 0) := bv2.cell 1
      have f0 : w2.frozen? ⟨w.heap.size, 0, none⟩ = false := bv2.frozen 0
      have f1 : w2.frozen? ⟨w.heap.size, 1, none⟩ = false := bv2.frozen 1
      have l2 : w.heap.size < w2.heap.size := bv2.lt
      have H2 := hide (⟨h2, q2⟩ : _ ∧ _)
      clear h2 q2 hT2 hB2 bv2
      go_wp2_with fail
      have hTo : Touch (fun q => q = w.heap.size) w2 ((w2.setCell ⟨w.heap.size, 0, none⟩ (.int .i64 0)).setCell ⟨w.heap.size, 1, none⟩ (.int .i64 0)) := ((Touch.refl (fun q => q = w.heap.size) w2).setCell (p := ⟨w.heap.size, 0, none⟩) (Or.inl rfl) _).setCell (p := ⟨w.heap.size, 1, none⟩) (Or.inl rfl) _
      exact bodyPost_ret (v := .tuple #[.agg #[.int .i64 0, .int .i64 0], .int .i64 0]) (by simp [results, Tryz.results32, go_sem, v0, v1]) rfl ⟨rfl, p2, RepIn.res ⟨sb, st2, sl, tbs, mbs, hv, kn, H2.out.1⟩ hl (QT.qw H2.out.2) hTo, QW.outw HH.out.2.1 (QT.qw H2.out.2) hTo⟩
    · obtain ⟨cq, hcq⟩ : ∃ cq, cntR d.hs i = cq := ⟨_, rfl⟩
      have hcl := cntR_le d.hs i
      rw [hcq] at hcl
      have hvq : d.vis.getD i 0 = (cq : Int) := by rw [h.ok.vis, visOf_get h.ok.hi, hcq]
      have hseq : d.vis.getD i 0 + 1 = (cq : Int) + 1 := by rw [hvq]
      have hnew : NewOk n d.hs (done i d t) := (h.ok.opn k t hok).1.new h.ok.hist h.ok.vis h.ok.hi (by omega)
      have hfew := (h.ok.opn k t hok).1.ops.few
      have HN := hide (⟨hnew, hfew, hseq⟩ : _ ∧ _ ∧ _)
      clear hnew hfew
      have ea : commitAns i d k = .tuple #[.agg #[.int .i64 i, .int .i64 ((cq : Int) + 1)], .int .i64 0] := by unfold commitAns; rw [ho]; simp only; rw [if_neg hz, hseq]
      have ed : commitD i d k = ⟨d.hs ++ [done i d t], d.vis.set i (d.vis.getD i 0 + 1), setSlot d.opn k none⟩ := by unfold commitD; rw [ho]; simp only; rw [if_neg hz]; simp
      rw [ea, ed]
      have hi5 : i < 5 := by have := h.ok.hi; have := h.ok.hist.n5; omega
      have hget : (vecOf d.vis).get i = (cq : Int) := by
        rw [vecOf_get (by rw [h.ok.vis, visOf_len]; exact h.ok.hist.n5)]
        simp only [Int.toNat_natCast]
        exact hvq
      have hne : ((t.ops.length : Int) == 0) = false := beq_false_of_ne (by omega)
      clear hf hend hW0 h hB0 bv h0 ho hok hto ea ed hseq hvq hcq
      go_enter Tryz.func32, Tryz.ntmps32
      go_upto_region 1 with (fail)
      rw [HW0.out]
      go_wp2_with (go_at_call 60; refine HF.out.mono ?_; rintro e w1 ⟨rfl, rfl⟩)
      refine HE.out.mono ?_
      rintro e w2 ⟨rfl, p2, st2, h2, q2, hT2, hB2⟩
      have c1 : w2.cell? ⟨tbs k, 1, none⟩ = some (.int .i64 t.ops.length) := hT2.blk.blk.cell 1
      have l1 := hT2.blk.blk.lt
      obtain ⟨c0, -, c2⟩ := h2.cellOf
      have lb := h2.blk.blk.lt
      have hix := idx5_at (vecOf d.vis) i hi5
      rw [hget] at hix
      obtain ⟨v, hv'⟩ : ∃ v, vecOf d.vis = v := ⟨_, rfl⟩
      have hvis : ∀ W, Below w2.heap.size w2 W → Calls Tryz.prog 57 #[bptr sb] W fun e w' => e = .returned v.val ∧ Below W.heap.size W w' := fun W hB => by
        obtain ⟨vb, cb, eb, ov, cv, ev, kv, hs⟩ := h2.sto.below hB
        have e1 : st2.vis = v := by rw [← hv']; exact h2.ok.svis
        rw [← e1]
        exact visible_any W sb st2.vis (hs.blk.blk.cell 0) (hs.blk.blk.cell 1) (hs.blk.blk.cell 2) (hs.blk.blk.cell 3) (hs.blk.blk.cell 4)
      rw [hv'] at hix
      have HVa : Hid (Calls Tryz.prog 57 #[bptr sb] w2.drew fun e w' => e = .returned v.val ∧ (w'.cell? ⟨b, 0, none⟩ = some (.int .i64 i) ∧ w'.cell? ⟨b, 2, none⟩ = some (bptr sb)) ∧ b < w'.heap.size ∧ Hid (Below w2.heap.size w2 w')) := (hvis w2.drew (Below.refl _ _).drew).mono (by
        rintro e w' ⟨rfl, hB⟩
        have hB' : Below w2.heap.size w2 w' := (Below.refl _ _).drew.trans hB
        exact ⟨rfl, ⟨cell_later hB' c0, cell_later hB' c2⟩, Nat.lt_of_lt_of_le lb hB'.size, hB'⟩)
      have HVb : Hid (Calls Tryz.prog 57 #[bptr sb] (w2.alloc (.cells #[.int .i64 0, .int .i64 0] 62)).drew fun e w' => e = .returned v.val ∧ (w'.cell? ⟨b, 0, none⟩ = some (.int .i64 i) ∧ w'.cell? ⟨b, 2, none⟩ = some (bptr sb)) ∧ b < w'.heap.size ∧ w'.cell? ⟨w2.heap.size, 0, none⟩ = some (.int .i64 0) ∧ w'.cell? ⟨w2.heap.size, 1, none⟩ = some (.int .i64 0) ∧ w'.frozen? ⟨w2.heap.size, 0, none⟩ = false ∧ w'.frozen? ⟨w2.heap.size, 1, none⟩ = false ∧ w2.heap.size < w'.heap.size ∧ Hid (Blk w' w2.heap.size [.int .i64 0, .int .i64 0] 62 ∧ Below w2.heap.size w2 w')) := by
        have hBa : Below w2.heap.size w2 (w2.alloc (.cells #[.int .i64 0, .int .i64 0] 62)).drew := ((Below.refl _ _).alloc (Nat.le_refl _) _).drew
        refine (hvis _ hBa).mono ?_
        rintro e w' ⟨rfl, hB⟩
        have hB' : Below w2.heap.size w2 w' := hBa.trans (hB.mono hBa.size)
        have bz : Blk (w2.alloc (.cells #[.int .i64 0, .int .i64 0] 62)).drew w2.heap.size [.int .i64 0, .int .i64 0] 62 := heap_alloc_new w2 _
        have bz' := bz.below hB
        exact ⟨rfl, ⟨cell_later hB' c0, cell_later hB' c2⟩, Nat.lt_of_lt_of_le lb hB'.size, bz'.cell 0, bz'.cell 1, bz'.frozen 0, bz'.frozen 1, bz'.lt, bz', hB'⟩
      have H2 := hide (⟨h2, q2, hT2, hB2⟩ : _ ∧ _ ∧ _ ∧ _)
      clear h2 q2 hT2 hB2 hvis hv' hget
      have hwr : IntKind.i64.wrap ((cq : Int) + 1) = (cq : Int) + 1 := by rw [IntKind.wrap_i64]; omega
      have nb2 : ¬ w2.heap.size = b := by omega
      have nb3 : ¬ b = w2.heap.size := by omega
      have ne1 := World.new_ne w2 _ c0
      have ne2 := World.new_ne w2 _ c2
      have g0 : (0 : Int) ≤ cq := by omega
      have g1 : (cq : Int) ≤ 1100000 := by omega
      go_upto_region 7 with (fail)
      clear c1 l1
      go_cut [7] (fun pt wc => ∃ db, pt = bptr db ∧ Hid (w2.heap.size ≤ db ∧ Blk wc db [.int .i64 i, .int .i64 ((cq : Int) + 1)] 62 ∧ Below w2.heap.size w2 wc))
      case first =>
        go_region_held3 (fun W => W.cell? ⟨b, 0, none⟩ = some (.int .i64 i) ∧ W.cell? ⟨b, 2, none⟩ = some (bptr sb)) (go_keep) (first | (go_at_call 57; show Calls _ _ _ (World.drew (World.alloc _ _)) _; refine HVb.out.mono ?_; rintro e w5 ⟨rfl, ⟨k0, k2⟩, k1, z0, z1, z2, z3, z4, hB5⟩) | (go_at_call 57; refine HVa.out.mono ?_; rintro e w5 ⟨rfl, ⟨k0, k2⟩, k1, hB5⟩; have nb5 : ¬ w5.heap.size = b := (by omega); have nb6 : ¬ b = w5.heap.size := (by omega); have ne5 := World.new_ne w5 _ k0; have ne6 := World.new_ne w5 _ k2))
        all_goals go_wp2_with fail
        all_goals go_meet
        all_goals
          first
            | exact ⟨_, rfl, hB5.out.size, heap_alloc_new w5 _, hB5.out.alloc hB5.out.size _⟩
            | exact ⟨_, rfl, Nat.le_refl _, (hB5.out.1.set 0 _).set 1 _, (hB5.out.2.setCell (Nat.le_refl _) _).setCell (Nat.le_refl _) _⟩
      case rest =>
        obtain ⟨db, rfl, hdb⟩ := hcut
        obtain ⟨h2, q2, hT2, hB2⟩ := H2.out
        have hmk : p2 (mbs k) = .own k := hT2.ownT
        have h2r := h2.retag (k := k) (setSlot_same _ _ _) hmk (.held 5)
        have h2' : RepP xq w2 (own2q (updq p2 (mbs k) (.held 5)) w2.heap.size others) b n i { d with opn := setSlot d.opn k none } sb st2 sl tbs mbs hv kn := h2r.move fun q hq _ => ⟨rfl, own2q_low hq⟩
        have hmo : own2q (updq p2 (mbs k) (.held 5)) w2.heap.size others (mbs k) = .held 5 := by rw [own2q_low hT2.own.lt, updq_same]
        have hMt : TrIn w2 (trOf (done i d t), mbs k) := hT2.own.mono HN.out.2.1
        have q2' : QW w1 (own2q p w.heap.size others) w2 (own2q (updq p2 (mbs k) (.held 5)) w2.heap.size others) := ⟨q2.touch, fun q hq hne => by
          rw [own2q_low (Nat.lt_of_lt_of_le hq q2.size)] at hne
          by_cases c : q = mbs k
          · rw [← q2.same q hq, c, hmk]; simp
          · rw [updq_other c, q2.same q hq] at hne; exact hne⟩
        have hlw2 : w.heap.size < w2.heap.size := Nat.lt_of_lt_of_le hl q2.size
        have hwk : w.heap.size ≠ mbs k := fun c => by
          have := q2.same _ hl
          rw [own2q_high (Nat.le_refl _), c, hmk] at this; simp [others] at this
        have tw : own2q (updq p2 (mbs k) (.held 5)) w2.heap.size others w.heap.size = .other := by rw [own2q_low hlw2, updq_other hwk, q2.same _ hl, own2q_high (Nat.le_refl _)]
        have bvw : Blk w2 w.heap.size [.int .i64 0, .int .i64 0] 62 := HH.out.2.2.1.move (q2.touch.block _ HH.out.2.2.1.lt (by rw [own2q_high (Nat.le_refl _)]; simp [notOther, others]))
        have hsh := fun W (hB : Below w2.heap.size w2 W) => show_any (u := done i d t) (h2'.below hB) (by exact hR) (by exact HN.out.1) (MapIn.move hMt (hB.block _ hMt.lt)) hmo
        have er : (done i d t).rep.toNat = i := by show ((i : Nat) : Int).toNat = i; simp
        have es : (done i d t).seq = (cq : Int) + 1 := HN.out.2.2
        have ew : (done i d t).saw = t.saw := rfl
        rw [er, es, ew] at hsh
        clear er es ew
        obtain ⟨sv, hsv⟩ : ∃ sv, vecOf t.saw = sv := ⟨_, rfl⟩
        rw [hsv] at hB2
        simp only [hsv] at hsh
        have hBc := hdb.out.2.2
        have snc := hB2.below hBc
        have txc := hT2.blk.blk.below hBc
        have y0 := Bel.cell (show wc.cell? ⟨db, 0, none⟩ = some (.int .i64 i) from hdb.out.2.1.cell 0)
        have y1 := Bel.cell (show wc.cell? ⟨db, 1, none⟩ = some (.int .i64 ((cq : Int) + 1)) from hdb.out.2.1.cell 1)
        have y2 := Bel.cell (show wc.cell? ⟨tbs k, 0, none⟩ = some (bptr (sl k)) from txc.cell 0)
        have y3 := Bel.cell (show wc.cell? ⟨tbs k, 2, none⟩ = some (.map (some (mbs k))) from txc.cell 2)
        have hsaw : ∀ f : Fam (Bel wc), Calls Tryz.prog 67 #[bptr (sl k)] f.w fun e w'' => e = .returned sv.val ∧ ∃ g : Fam (Bel wc), w'' = g.w := fun f => by
          have sf := snc.below f.ok
          exact Bel.call f (saw_any f.w (sl k) sv (sf.cell 1) (sf.cell 2) (sf.cell 3) (sf.cell 4) (sf.cell 5))
        have HSAW := hide hsaw
        have HSH := hide hsh
        have H3 := hide (⟨q2', tw, bvw, hBc, hdb.out.2.1, hlw2, hdb.out.1⟩ : _ ∧ _ ∧ _ ∧ _ ∧ _ ∧ _ ∧ _)
        clear h2 q2 hT2 hB2 h2' h2r hmk hmo hMt hwk q2' tw bvw hsh hsv snc txc hsaw HVa HVb hix c0 c2 lb hdb hBc hlw2
        go_upto_region 8 with (fail)
        refine region_fam_tail (Bel wc) 12 (by kernel_rfl) (by kernel_rfl) (Below.refl _ _).drew ?_
        simp only [List.take_succ_cons, List.take_zero, List.drop_succ_cons, List.drop_zero]
        repeat (go_big_quiet_step (first | (go_at_call 67; exact HSAW.out _)))
        refine wpQuiet_nil ?_
        intro _ hw'
        obtain ⟨fq, rfl⟩ := hw'
        obtain ⟨W3, hB3⟩ := fq
        try dsimp only
        clear y0 y1 y2 y3
        have hB23 : Below w2.heap.size w2 W3 := H3.out.2.2.2.1.trans (hB3.mono H3.out.2.2.2.1.size)
        go_wp2_with fail
        refine (HSH.out W3 hB23).mono ?_
        rintro e w6 ⟨rfl, p6, h6, q6⟩
        obtain ⟨q2', tw, bvw, hBc, bdb, hlw2, hge⟩ := H3.out
        have q6n : QT notOther _ _ _ _ := q6.mono fun u hu => by
          rcases hu with hu | hu | hu
          · exact sto_not hu
          · rw [hu]; simp [notOther]
          · rw [hu]; simp [notOther]
        have bd3 := bdb.below hB3
        have bd6 : Blk w6 db [.int .i64 i, .int .i64 ((cq : Int) + 1)] 62 := bd3.move (q6n.touch.block _ bd3.lt (by rw [own2q_high hge]; simp [notOther, others]))
        have bv3 := bvw.below hB23
        have bv6 : Blk w6 w.heap.size [.int .i64 0, .int .i64 0] 62 := bv3.move (q6n.touch.block _ bv3.lt (by rw [tw]; simp [notOther]))
        have d0 : w6.cell? ⟨db, 0, none⟩ = some (.int .i64 i) := bd6.cell 0
        have d1 : w6.cell? ⟨db, 1, none⟩ = some (.int .i64 ((cq : Int) + 1)) := bd6.cell 1
        have l6 : db < w6.heap.size := bd6.lt
        have v0 : w6.cell? ⟨w.heap.size, 0, none⟩ = some (.int .i64 0) := bv6.cell 0
        have v1 : w6.cell? ⟨w.heap.size, 1, none⟩ = some (.int .i64 0) := bv6.cell 1
        have f0 : w6.frozen? ⟨w.heap.size, 0, none⟩ = false := bv6.frozen 0
        have f1 : w6.frozen? ⟨w.heap.size, 1, none⟩ = false := bv6.frozen 1
        have l7 : w.heap.size < w6.heap.size := bv6.lt
        have qfin : QW w1 (own2q p w.heap.size others) w6 p6 := (q2'.below hB23).trans (QT.qw q6n)
        have H6 := hide (⟨h6, qfin⟩ : _ ∧ _)
        clear q2' tw bvw hBc bdb hlw2 hge bd3 bd6 bv3 bv6 h6 q6 q6n qfin hB3 hB23
        go_wp2_with fail
        have hTo : Touch (fun q => q = w.heap.size) w6 ((w6.setCell ⟨w.heap.size, 0, none⟩ (.int .i64 i)).setCell ⟨w.heap.size, 1, none⟩ (.int .i64 ((cq : Int) + 1))) := ((Touch.refl (fun q => q = w.heap.size) w6).setCell (p := ⟨w.heap.size, 0, none⟩) (Or.inl rfl) _).setCell (p := ⟨w.heap.size, 1, none⟩) (Or.inl rfl) _
        exact bodyPost_ret (v := .tuple #[.agg #[.int .i64 i, .int .i64 ((cq : Int) + 1)], .int .i64 0]) (by simp [results, Tryz.results32, go_sem, v0, v1]) rfl ⟨rfl, p6, RepIn.res (by have := H6.out.1; unfold showD at this; exact this) hl H6.out.2 hTo, QW.outw HH.out.2.1 H6.out.2 hTo⟩
end Go.Proofs.YtiplgdkpnhamaaaGreatDoor.Tv

namespace Go.Proofs.YtiplgdkpnhamaaaGreatDoor
open Go.RowKit Go.Sort
set_option maxRecDepth 100000 in
set_option maxHeartbeats 16000000 in
theorem q_swap0 (B : Nat) (w : World) (g cap : Nat) (l : List Wt) (hr : QRow B w (.slice (some ⟨g, 0, none⟩) l.length cap) l) (hl : l.length ≤ 100000000) {i : Nat} (hi : i < l.length) :
    Calls Tryz.prog 295 #[.slice (some ⟨g, 0, none⟩) l.length cap, .int .i64 i, .int .i64 i] w fun e w' => e = .returned (.tuple #[]) ∧ QRow B w' (.slice (some ⟨g, 0, none⟩) (swapL l i i hi hi).length cap) (swapL l i i hi hi) ∧ Touch (fun q => q = g) w w' := by
  have hlt : g < w.heap.size := (hr.lt g rfl).2
  have hp1 := put9_row hr hi l[i]
  have hp2 := put9_row hp1 (k := i) (by simpa using hi) l[i]
  have hT := ((put9_touch w g (i * 9) l[i]).trans ((put9_touch (put9 w g (i * 9) l[i]) g (i * 9) l[i]).mono fun q _ e => Or.inl e)).drew
  have hp3 : QRow B (put9 (put9 w g (i * 9) l[i]) g (i * 9) l[i]).drew (.slice (some ⟨g, 0, none⟩) (swapL l i i hi hi).length cap) (swapL l i i hi hi) := ownsRow_below hp2 (Below.refl _ _).drew
  have ca := fun (m : Nat) (hm : m < 9) => wt_cell hr hi hm
  have fz := fun (m : Nat) => wt_frozen hr m
  generalize hx : l[i] = x at *
  obtain ⟨⟨⟨xr, xs, xw, xm⟩, xb⟩, xn⟩ := x
  have x0 : w.cell? ⟨g, i * 9, none⟩ = some (.int .i64 xr) := ca 0 (by omega)
  have fx0 : w.frozen? ⟨g, i * 9, none⟩ = false := fz _
  have x1 : w.cell? ⟨g, i * 9 + 1, none⟩ = some (.int .i64 xs) := ca 1 (by omega)
  have fx1 : w.frozen? ⟨g, i * 9 + 1, none⟩ = false := fz _
  have x2 : w.cell? ⟨g, i * 9 + 2, none⟩ = some (.int .i64 xw.a) := ca 2 (by omega)
  have fx2 : w.frozen? ⟨g, i * 9 + 2, none⟩ = false := fz _
  have x3 : w.cell? ⟨g, i * 9 + 3, none⟩ = some (.int .i64 xw.b) := ca 3 (by omega)
  have fx3 : w.frozen? ⟨g, i * 9 + 3, none⟩ = false := fz _
  have x4 : w.cell? ⟨g, i * 9 + 4, none⟩ = some (.int .i64 xw.c) := ca 4 (by omega)
  have fx4 : w.frozen? ⟨g, i * 9 + 4, none⟩ = false := fz _
  have x5 : w.cell? ⟨g, i * 9 + 5, none⟩ = some (.int .i64 xw.d) := ca 5 (by omega)
  have fx5 : w.frozen? ⟨g, i * 9 + 5, none⟩ = false := fz _
  have x6 : w.cell? ⟨g, i * 9 + 6, none⟩ = some (.int .i64 xw.e) := ca 6 (by omega)
  have fx6 : w.frozen? ⟨g, i * 9 + 6, none⟩ = false := fz _
  have x7 : w.cell? ⟨g, i * 9 + 7, none⟩ = some (.map (some xb)) := ca 7 (by omega)
  have fx7 : w.frozen? ⟨g, i * 9 + 7, none⟩ = false := fz _
  have x8 : w.cell? ⟨g, i * 9 + 8, none⟩ = some (.int .i64 xn) := ca 8 (by omega)
  have fx8 : w.frozen? ⟨g, i * 9 + 8, none⟩ = false := fz _
  have HP := hide (⟨hp3, hT⟩ : _ ∧ _)
  obtain ⟨n, hn⟩ : ∃ n, l.length = n := ⟨_, rfl⟩
  rw [hn]
  have hi' : i < n := by omega
  have hl' : n ≤ 100000000 := by omega
  clear hp1 hp2 hp3 hT ca fz hx hr hn
  go_enter Tryz.func295, Tryz.ntmps295
  go_upto_region 0 with (fail)
  go_region
  obtain ⟨hp3, hT⟩ := HP.out
  go_end0
  exact ⟨rfl, hp3, hT⟩
end Go.Proofs.YtiplgdkpnhamaaaGreatDoor

namespace Go.Proofs.YtiplgdkpnhamaaaGreatDoor.Tv
open Go.RowKit
structure PApi (PR : World → (Nat → Tag) → Tag → Nat → Nat → Nat → DRep → Prop) : Prop where
  move : ∀ {w w' : World} {o o' : Nat → Tag} {t : Tag} {b n i : Nat} {d : DRep}, PR w o t b n i d → (∀ q, q < w.heap.size → o q = t → w'.heap[q]? = w.heap[q]? ∧ o' q = t) → PR w' o' t b n i d
  begins : ∀ (w : World) (o : Nat → Tag) (t : Tag) (b n i : Nat) (d : DRep), PR w o t b n i d → Room d → Calls Tryz.prog 27 #[ptr b] w fun e w' => e = .returned (beginAns d) ∧ ∃ o', PR w' o' t b n i (beginD d) ∧ TouchT (· = t) w o w' o'
  add : ∀ (w : World) (o : Nat → Tag) (t : Tag) (b n i : Nat) (d : DRep) (tx : Int) (p : ROp), PR w o t b n i d → Room d → p.kind = 1 → p.key.size ≤ maxLen → Calls Tryz.prog 28 #[ptr b, .int .i64 tx, .string p.key, .int .i64 p.amount] w fun e w' => e = .returned (.int .i64 (doesErr (opnAt d tx) p)) ∧ ∃ o', PR w' o' t b n i (doesD d tx p) ∧ TouchT (· = t) w o w' o'
  write : ∀ (w : World) (o : Nat → Tag) (t : Tag) (b n i : Nat) (d : DRep) (tx : Int) (p : ROp), PR w o t b n i d → Room d → p.kind = 2 → p.key.size ≤ maxLen → p.value.size ≤ maxLen → Calls Tryz.prog 30 #[ptr b, .int .i64 tx, .string p.key, .string p.value] w fun e w' => e = .returned (.int .i64 (doesErr (opnAt d tx) p)) ∧ ∃ o', PR w' o' t b n i (doesD d tx p) ∧ TouchT (· = t) w o w' o'
  insert : ∀ (w : World) (o : Nat → Tag) (t : Tag) (b n i : Nat) (d : DRep) (tx : Int) (p : ROp), PR w o t b n i d → Room d → p.kind = 3 → p.key.size ≤ maxLen → p.value.size ≤ maxLen → Calls Tryz.prog 38 #[ptr b, .int .i64 tx, .string p.key, .string p.value] w fun e w' => e = .returned (.int .i64 (doesErr (opnAt d tx) p)) ∧ ∃ o', PR w' o' t b n i (doesD d tx p) ∧ TouchT (· = t) w o w' o'
  remove : ∀ (w : World) (o : Nat → Tag) (t : Tag) (b n i : Nat) (d : DRep) (tx : Int) (p : ROp), PR w o t b n i d → Room d → p.kind = 4 → p.key.size ≤ maxLen → p.value.size ≤ maxLen → Calls Tryz.prog 44 #[ptr b, .int .i64 tx, .string p.key, .string p.value] w fun e w' => e = .returned (.int .i64 (doesErr (opnAt d tx) p)) ∧ ∃ o', PR w' o' t b n i (doesD d tx p) ∧ TouchT (· = t) w o w' o'
  read : ∀ (w : World) (o : Nat → Tag) (t tl : Tag) (b n i : Nat) (d : DRep) (tx : Int) (key : ByteArray), PR w o t b n i d → Room d → tl ≠ t → key.size ≤ maxLen → Calls Tryz.prog 33 #[ptr b, .int .i64 tx, .string key] w fun e w' => ∃ lv o', e = .returned (valAgg (readAns (opnAt d tx) key d.hs n).1 lv (readAns (opnAt d tx) key d.hs n).2.2) ∧
    PR w' o' t b n i d ∧ TouchT (· = t) w o w' o' ∧ Pc w' o' tl 9 1 lv (readAns (opnAt d tx) key d.hs n).2.1.length (strs (readAns (opnAt d tx) key d.hs n).2.1)
  commit : ∀ (w : World) (o : Nat → Tag) (t : Tag) (b n i : Nat) (d : DRep) (tx : Int), PR w o t b n i d → Room d → Calls Tryz.prog 32 #[ptr b, .int .i64 tx] w fun e w' => e = .returned (commitAns i d tx) ∧ ∃ o', PR w' o' t b n i (commitD i d tx) ∧ TouchT (· = t) w o w' o'
  abort : ∀ (w : World) (o : Nat → Tag) (t : Tag) (b n i : Nat) (d : DRep) (tx : Int), PR w o t b n i d → Room d → Calls Tryz.prog 34 #[ptr b, .int .i64 tx] w fun e w' => e = .returned (abortAns d tx) ∧ ∃ o', PR w' o' t b n i (abortD d tx) ∧ TouchT (· = t) w o w' o'
  visible : ∀ (w : World) (o : Nat → Tag) (t tl : Tag) (b n i : Nat) (d : DRep), PR w o t b n i d → Room d → tl ≠ t → Calls Tryz.prog 22 #[ptr b] w fun e w' => ∃ lv o', e = .returned lv ∧ PR w' o' t b n i d ∧ TouchT (· = t) w o w' o' ∧ Pc w' o' tl 3 1 lv d.vis.length (ints d.vis)
abbrev PRx (xs : Nat → DX) : World → (Nat → Tag) → Tag → Nat → Nat → Nat → DRep → Prop := fun w o t b n i d => PR (xs i) w o t b n i d
theorem papi (xs : Nat → DX) : PApi (PRx xs) where
  move h hm := PR.move h hm
  begins w o t b n i d h _ := by
    obtain ⟨p, h1, h2⟩ := h
    refine (begin_call h2).mono ?_
    rintro e w' ⟨rfl, p', h3, h4⟩
    exact ⟨rfl, PR.out h1 h3 h4⟩
  add w o t b n i d tx q h _ hk hs := by
    obtain ⟨p, h1, h2⟩ := h
    refine (add_call h2 tx q hk hs).mono ?_
    rintro e w' ⟨rfl, p', h3, h4⟩
    exact ⟨rfl, PR.out h1 h3 h4⟩
  write w o t b n i d tx q h _ hk hs hv := by
    obtain ⟨p, h1, h2⟩ := h
    refine (write_call h2 tx q hk hs hv).mono ?_
    rintro e w' ⟨rfl, p', h3, h4⟩
    exact ⟨rfl, PR.out h1 h3 h4⟩
  insert w o t b n i d tx q h _ hk hs hv := by
    obtain ⟨p, h1, h2⟩ := h
    refine (insert_call h2 tx q hk hs hv).mono ?_
    rintro e w' ⟨rfl, p', h3, h4⟩
    exact ⟨rfl, PR.out h1 h3 h4⟩
  remove w o t b n i d tx q h _ hk hs hv := by
    obtain ⟨p, h1, h2⟩ := h
    refine (remove_call h2 tx q hk hs hv).mono ?_
    rintro e w' ⟨rfl, p', h3, h4⟩
    exact ⟨rfl, PR.out h1 h3 h4⟩
  read w o t tl b n i d tx key h hR _ hs := by
    have hpr := h
    obtain ⟨p, h1, h2⟩ := h
    refine (read_call h2 hR.hist tx key hs).mono ?_
    rintro e w' ⟨lv, rfl, h3, h4⟩
    refine ⟨lv, own2 o w.heap.size fun _ => tl, rfl, PR.move hpr fun q hq e => ⟨h4.block q hq, (own2_low hq).trans e⟩, ⟨Touch.ofBelow h4, fun q hq => own2_low hq⟩, Pc.new h3 (fun q _ => rfl)⟩
  commit w o t b n i d tx h hR := by
    obtain ⟨p, h1, h2⟩ := h
    refine (commit_ok _ w p b n i d tx h2 hR.hist).mono ?_
    rintro e w' ⟨rfl, p', h3, h4⟩
    exact ⟨rfl, PR.outW h1 h3 h4⟩
  abort w o t b n i d tx h hR := by
    obtain ⟨p, h1, h2⟩ := h
    refine (abort_any h2 hR.hist tx).mono ?_
    rintro e w' ⟨rfl, p', h3, h4⟩
    exact ⟨rfl, PR.out h1 h3 h4⟩
  visible w o t tl b n i d h _ _ := by
    have hpr := h
    obtain ⟨p, h1, h2⟩ := h
    refine (visible_call h2).mono ?_
    rintro e w' ⟨lv, rfl, h3, h4⟩
    refine ⟨lv, own2 o w.heap.size fun _ => tl, rfl, PR.move hpr fun q hq e => ⟨h4.block q hq, (own2_low hq).trans e⟩, ⟨Touch.ofBelow h4, fun q hq => own2_low hq⟩, Pc.new h3 (fun q _ => rfl)⟩
end Go.Proofs.YtiplgdkpnhamaaaGreatDoor.Tv

namespace Go.Proofs.YtiplgdkpnhamaaaGreatDoor
open Go.RowKit Go.Sort
theorem QPerm.swpAny {B : Nat} {w : World} {qb g cap : Nat} {l l' : List Wt} {wr : World} (h : QPerm B w qb g cap l l' wr) (hl : l.length ≤ 100000000) {i j : Nat} (hi : i < l'.length) (hj : j < l'.length) :
    Calls Tryz.prog 295 #[.slice (some ⟨g, 0, none⟩) l.length cap, .int .i64 i, .int .i64 j] wr fun e w' => e = .returned (.tuple #[]) ∧ QPerm B w qb g cap l (swapL l' i j hi hj) w' := by
  by_cases hij : i = j
  · subst hij
    have a := q_swap0 B wr g cap l' h.row (by rw [h.len]; exact hl) hi
    rw [h.len] at a
    refine a.mono ?_
    rintro e w' ⟨rfl, h1, h2⟩
    exact ⟨rfl, h.swap hi hj h1 h2⟩
  · exact h.swp hl hi hj hij
def QX (w : World) (qb : Nat) (l : List Wt) (X : Nat → Prop) : Prop := ∃ sv, QIn 0 w qb sv l ∧ X qb ∧ (∀ q, sv.ownBlock = some q → X q) ∧ HeapF wLt (vw dWt l) l.length
abbrev OrNew (X : Nat → Prop) (w : World) : Nat → Prop := fun q => X q ∨ w.heap.size ≤ q
def HPush (w : World) (qb : Nat) (l : List Wt) (y : Wt) (X : Nat → Prop) (e : Ending) (w' : World) : Prop := e = .returned (.tuple #[]) ∧ ∃ l', l'.Perm (l ++ [y]) ∧ QX w' qb l' (OrNew X w) ∧ Touch X w w'
set_option maxRecDepth 100000 in
set_option maxHeartbeats 4000000 in
theorem heap_push (w : World) (qb : Nat) (l : List Wt) (y : Wt) (X : Nat → Prop) (hq : QX w qb l X) (hl : l.length ≤ 90000000) :
    Calls Tryz.prog 126 #[qIface qb, .iface 213 (wtVal y)] w (HPush w qb l y X) := by
  obtain ⟨sv, hq, hX1, hX2, hh⟩ := hq
  have hp := q_push w qb sv l y hq (by omega)
  have HP := hide hp
  have hm0 := meth_push qb w
  have HH := hide (⟨hh, hl⟩ : _ ∧ _)
  have HX := hide (⟨hX1, hX2⟩ : _ ∧ _)
  clear hp hq hh hl hX1 hX2
  obtain ⟨yv, hyv⟩ : ∃ yv, wtVal y = yv := ⟨_, rfl⟩
  rw [hyv] at HP ⊢
  clear hyv
  go_enter Tryz.func126, Tryz.ntmps126
  go_wp2_with (first | (go_at_call 294; refine HP.out.mono ?_; rintro e w1 ⟨rfl, sv1, hq1, hT1, hN1⟩; refine Hid.out ?_))
  refine Lib.hid ?_
  obtain ⟨g, cap, rfl, hcap, -⟩ := Row.pos (ownsRow_low hq1.row (Nat.zero_le _)) (by simp)
  have hm1 := meth_len qb w1 hq1.cell
  have hl1 : (l ++ [y]).length = l.length + 1 := by simp
  have hup : UpF wLt (vw dWt (l ++ [y])) (l ++ [y]).length l.length := by
    rw [hl1]
    exact HH.out.1.grow fun k hk => by simp [vw, List.getElem?_append_left hk]
  have hu := heap_up 0 w1 qb g cap (l ++ [y]) hq1 (by have := HH.out.2; omega) (j := l.length) (by omega) hup
  have HU := hide hu
  have hn := fun W => q_len W (some ⟨g, 0, none⟩) (l ++ [y]).length cap
  have HN := hide hn
  rw [hl1] at hm1 HN
  have hlb := HH.out.2
  have H1 := hide (⟨hT1, hN1⟩ : _ ∧ _)
  clear hu hn hq1 hT1 hN1 hup
  go_wp2_with (first | (go_at_call 128; refine (HN.out _).mono ?_; rintro e w2 ⟨rfl, rfl⟩) | (go_at_call 172; refine HU.out.mono ?_; rintro e w3 ⟨rfl, l', hQ, hH⟩; have HQ := hide (⟨hQ, hH⟩ : _ ∧ _); clear hQ hH))
  go_end0
  have hg : OrNew X w g := by
    rcases H1.out.2 g rfl with c | c
    · exact Or.inl (HX.out.2 g c)
    · exact Or.inr c
  have hT := H1.out.1.mono (T := X) fun q _ c => by
    rcases c with c | c
    · rw [c]; exact HX.out.1
    · exact HX.out.2 q c
  refine ⟨rfl, l', HQ.out.1.perm, ⟨_, HQ.out.1.q, Or.inl HX.out.1, fun q hq => ?_, HQ.out.2⟩, hT.trans (HQ.out.1.tch.mono fun q _ c => by rw [c]; exact hg)⟩
  have : q = g := by simp [Value.ownBlock] at hq; exact hq.symm
  rw [this]; exact hg
def HPop (w : World) (qb : Nat) (l : List Wt) (X : Nat → Prop) (e : Ending) (w' : World) : Prop := ∃ y l', e = .returned (.iface 213 (wtVal y)) ∧ (y :: l').Perm l ∧ (∀ z, z ∈ l → wLt z y = false) ∧ QX w' qb l' X ∧ Touch X w w'
theorem vw_mem {l : List Wt} {z : Wt} (h : z ∈ l) : ∃ k, k < l.length ∧ vw dWt l k = z := by
  obtain ⟨k, hk, rfl⟩ := List.mem_iff_getElem.1 h
  exact ⟨k, hk, vw_get hk⟩
set_option maxRecDepth 100000 in
set_option maxHeartbeats 4000000 in
theorem heap_pop (w : World) (qb : Nat) (l : List Wt) (X : Nat → Prop) (hq : QX w qb l X) (hl : l.length ≤ 90000000) (hl0 : 0 < l.length) :
    Calls Tryz.prog 129 #[qIface qb] w (HPop w qb l X) := by
  obtain ⟨sv, hq, hX1, hX2, hh⟩ := hq
  obtain ⟨g, cap, rfl, hcap, -⟩ := Row.pos (ownsRow_low hq.row (Nat.zero_le _)) hl0
  have hQ0 : QPerm 0 w qb g cap l l w := ⟨rfl, List.Perm.refl _, hq, Touch.refl _ _⟩
  obtain ⟨n, hn⟩ : ∃ n, l.length = n + 1 := ⟨l.length - 1, by omega⟩
  have h0l : 0 < l.length := hl0
  have hnl : n < l.length := by omega
  have hm0 := meth_len qb w hq.cell
  have hm1 := meth_swap qb w hq.cell
  have hlen := fun W => q_len W (some ⟨g, 0, none⟩) l.length cap
  have hsw := hQ0.swpAny (by omega) h0l hnl
  rw [show ((0 : Nat) : Int) = 0 from rfl] at hsw
  have HS := hide hsw
  have HN := hide hlen
  have hn9 : n ≤ 90000000 := by omega
  have HH := hide (⟨hh, hn, hcap⟩ : _ ∧ _ ∧ _)
  have HX := hide (⟨hX1, hX2 g rfl⟩ : X qb ∧ X g)
  clear hX1 hX2
  rw [hn] at hm0 hm1 HN HS
  clear hsw hlen hq hQ0 hl hh hcap hl0 hn
  go_enter Tryz.func129, Tryz.ntmps129
  go_wp2_with (first | (go_at_call 128; refine (HN.out _).mono ?_; rintro e w2 ⟨rfl, rfl⟩) | (go_at_call 295; refine HS.out.mono ?_; rintro e w1 ⟨rfl, hQ1⟩; refine Hid.out ?_))
  refine Lib.hid ?_
  obtain ⟨L, hL⟩ : ∃ L, swapL l 0 n h0l hnl = L := ⟨_, rfl⟩
  rw [hL] at hQ1
  have hvL : vw dWt L = sw (vw dWt l) 0 n := by rw [← hL]; exact vw_swap dWt l h0l hnl
  have hLl : L.length = n + 1 := hQ1.len.trans HH.out.2.1
  have hq1 : QIn 0 w1 qb (.slice (some ⟨g, 0, none⟩) L.length cap) L := by have := hQ1.q; rw [← hQ1.len] at this; exact this
  have hdn : DownF wLt (vw dWt L) n 0 := by
    have a := HH.out.1
    rw [HH.out.2.1] at a
    exact a.pop fun k h1 h2 => by rw [hvL]; unfold sw; rw [if_neg (by omega), if_neg (by omega)]
  have hdw := heap_down 0 w1 qb g cap L hq1 (by omega) (n := n) (by omega) hdn
  have HD := hide hdw
  have H1 := hide (⟨hQ1, hvL, hLl⟩ : _ ∧ _ ∧ _)
  clear hdw hq1 hdn hQ1 hvL hL
  go_wp2_with (first | (go_at_call 173; refine HD.out.mono ?_; rintro e w3 ⟨⟨b, rfl⟩, l2, hQ2, hH2, hE2⟩; refine Hid.out ?_))
  refine Lib.hid ?_
  have h2l : l2.length = n + 1 := hQ2.len.trans hLl
  have hq2 : QIn 0 w3 qb (.slice (some ⟨g, 0, none⟩) l2.length cap) l2 := by have := hQ2.q; rw [← hQ2.len] at this; exact this
  have hm3 := meth_pop qb w3
  have hpp := q_pop 0 w3 qb g cap n l2 hq2 h2l (by omega) (by have := HH.out; omega)
  have HPP := hide hpp
  have H2 := hide (⟨hQ2, hH2, hE2⟩ : _ ∧ _ ∧ _)
  clear hpp hq2 hQ2 hH2 hE2
  go_wp2_with (first | (go_at_call 293; refine HPP.out.mono ?_; rintro e w4 ⟨rfl, hq4, hB4⟩; have H4 := hide (⟨hq4, hB4⟩ : _ ∧ _); clear hq4 hB4))
  go_ret
  obtain ⟨hQ1, hvL, -⟩ := H1.out
  obtain ⟨hQ2, hH2, hE2⟩ := H2.out
  have hn2 : n < l2.length := by omega
  have ey : l2[n] = vw dWt l 0 := by
    have a := hE2 n (Nat.le_refl _)
    rw [vw_get hn2, hvL] at a
    rw [a]; unfold sw; rw [if_pos rfl]
  have ht : (l2.take n).length = n := by rw [List.length_take]; omega
  have hp2 : (l2[n] :: l2.take n).Perm l2 := by
    have e : l2 = l2.take n ++ [l2[n]] := by
      have := List.take_succ_eq_append_getElem hn2
      rw [← this, List.take_of_length_le (by omega)]
    exact (List.perm_append_singleton _ _).symm.trans (by rw [← e])
  have hT : Touch X w2 w4 := ((hQ1.tch.mono fun q _ c => by rw [c]; exact HX.out.2).then (hQ2.tch.mono fun q _ c => by rw [c]; exact HX.out.2)).then (H4.out.2.mono fun q _ c => by rw [c]; exact HX.out.1)
  have hX3 : ∀ q, (Value.slice (some ⟨g, 0, none⟩) (l2.take n).length cap).ownBlock = some q → X q := fun q hq => by
    have e : q = g := by simp [Value.ownBlock] at hq; exact hq.symm
    rw [e]; exact HX.out.2
  refine ⟨l2[n], l2.take n, rfl, hp2.trans (hQ2.perm.trans hQ1.perm), fun z hz => ?_, ⟨_, H4.out.1, HX.out.1, hX3, ?_⟩, hT⟩
  · obtain ⟨k, hk, rfl⟩ := vw_mem hz
    rw [ey]
    exact HH.out.1.min wLt_ord k hk
  · rw [ht]
    exact hH2.cut (Nat.le_refl _) fun k hk => by simp [vw, hk]
end Go.Proofs.YtiplgdkpnhamaaaGreatDoor

namespace Go.Proofs.YtiplgdkpnhamaaaGreatDoor.Tv
open Go.RowKit
theorem RepP.visLen {xq : DX} {w : World} {p : Nat → Own} {b n i : Nat} {d : DRep} {sb : Nat} {st : St} {sl tbs mbs : Nat → Nat} {hv kn : List Value} (h : RepP xq w p b n i d sb st sl tbs mbs hv kn) : d.vis.length = n := by rw [h.ok.vis, visOf_len]
theorem RepP.visCall {xq : DX} {w : World} {p : Nat → Own} {b n i : Nat} {d : DRep} {sb : Nat} {st : St} {sl tbs mbs : Nat → Nat} {hv kn : List Value} (h : RepP xq w p b n i d sb st sl tbs mbs hv kn) : Calls Tryz.prog 57 #[bptr sb] w fun e w' => e = .returned (vecOf d.vis).val ∧ Below w.heap.size w w' := by
  obtain ⟨vb, cb, eb, ov, cv, ev, kv, hs⟩ := h.sto
  rw [← h.ok.svis]
  exact visible_any w sb st.vis (hs.blk.blk.cell 0) (hs.blk.blk.cell 1) (hs.blk.blk.cell 2) (hs.blk.blk.cell 3) (hs.blk.blk.cell 4)
set_option maxRecDepth 100000 in
set_option maxHeartbeats 4000000 in
theorem head_any {xq : DX} {w : World} {p : Nat → Own} {b n i : Nat} {d : DRep} {sb : Nat} {st : St} {sl tbs mbs : Nat → Nat} {hv kn : List Value} (h : RepP xq w p b n i d sb st sl tbs mbs hv kn) :
    Calls Tryz.prog 72 #[bptr b] w fun e w' => e = .returned (headVal i (vecOf d.vis)) ∧ Below w.heap.size w w' := by
  generalize hW0 : w.alloc (.cells #[.int .i64 0, .int .i64 0, .int .i64 0, .int .i64 0, .int .i64 0, .int .i64 0] 144) = W0
  have hB0 : Below w.heap.size w W0 := by rw [← hW0]; exact (Below.refl _ _).alloc (Nat.le_refl _) _
  have bx : Blk W0 w.heap.size [.int .i64 0, .int .i64 0, .int .i64 0, .int .i64 0, .int .i64 0, .int .i64 0] 144 := by rw [← hW0]; exact heap_alloc_new w _
  have h0 := h.below hB0
  obtain ⟨c0, -, c2⟩ := h0.cellOf
  have y0 := Bel.cell c0
  have y2 := Bel.cell c2
  have hc : ∀ f : Fam (Bel W0), Calls Tryz.prog 57 #[bptr sb] f.w fun e w'' => e = .returned (vecOf d.vis).val ∧ ∃ g : Fam (Bel W0), w'' = g.w := fun f => Bel.call f (h0.below f.ok).visCall
  obtain ⟨v, hv'⟩ : ∃ v, vecOf d.vis = v := ⟨_, rfl⟩
  rw [hv'] at hc ⊢
  have HC := hide hc
  have HW0 := hide hW0
  have HH := hide (⟨hB0, bx⟩ : _ ∧ _)
  clear hc hW0 hB0 bx h h0 c0 c2 hv'
  go_enter Tryz.func72, Tryz.ntmps72
  go_upto_region 1 with (fail)
  rw [HW0.out]
  refine region_fam_tail (Bel W0) 10 (by kernel_rfl) (by kernel_rfl) (Below.refl _ _).drew ?_
  simp only [List.take_succ_cons, List.take_zero, List.drop_succ_cons, List.drop_zero]
  repeat (go_big_quiet_step (first | (go_at_call 57; exact HC.out _)))
  refine wpQuiet_nil ?_
  intro _ hw'
  obtain ⟨fq, rfl⟩ := hw'
  obtain ⟨w3, hB3⟩ := fq
  try dsimp only
  clear y0 y2
  have b3 := HH.out.2.below hB3
  have r0 : w3.cell? ⟨w.heap.size, 0, none⟩ = some (.int .i64 0) := b3.cell 0
  have r1 : w3.cell? ⟨w.heap.size, 1, none⟩ = some (.int .i64 0) := b3.cell 1
  have r2 : w3.cell? ⟨w.heap.size, 2, none⟩ = some (.int .i64 0) := b3.cell 2
  have r3 : w3.cell? ⟨w.heap.size, 3, none⟩ = some (.int .i64 0) := b3.cell 3
  have r4 : w3.cell? ⟨w.heap.size, 4, none⟩ = some (.int .i64 0) := b3.cell 4
  have r5 : w3.cell? ⟨w.heap.size, 5, none⟩ = some (.int .i64 0) := b3.cell 5
  have q0 : w3.frozen? ⟨w.heap.size, 0, none⟩ = false := b3.frozen 0
  have q1 : w3.frozen? ⟨w.heap.size, 1, none⟩ = false := b3.frozen 1
  have q2 : w3.frozen? ⟨w.heap.size, 2, none⟩ = false := b3.frozen 2
  have q3 : w3.frozen? ⟨w.heap.size, 3, none⟩ = false := b3.frozen 3
  have q4 : w3.frozen? ⟨w.heap.size, 4, none⟩ = false := b3.frozen 4
  have q5 : w3.frozen? ⟨w.heap.size, 5, none⟩ = false := b3.frozen 5
  have hl := b3.lt
  have H3 := hide (⟨HH.out.1.trans (hB3.mono HH.out.1.size), b3⟩ : _ ∧ _)
  clear b3 hB3
  go_wp2_with fail
  have hb5 := put6_blk i v H3.out.2
  have hT5 := put6_touch w3 w.heap.size i v
  unfold put6 at hb5 hT5
  generalize World.setCell _ _ _ = W7 at *
  have s0 : W7.cell? ⟨w.heap.size, 0, none⟩ = some (.int .i64 i) := hb5.cell 0
  have s1 : W7.cell? ⟨w.heap.size, 1, none⟩ = some (.int .i64 v.a) := hb5.cell 1
  have s2 : W7.cell? ⟨w.heap.size, 2, none⟩ = some (.int .i64 v.b) := hb5.cell 2
  have s3 : W7.cell? ⟨w.heap.size, 3, none⟩ = some (.int .i64 v.c) := hb5.cell 3
  have s4 : W7.cell? ⟨w.heap.size, 4, none⟩ = some (.int .i64 v.d) := hb5.cell 4
  have s5 : W7.cell? ⟨w.heap.size, 5, none⟩ = some (.int .i64 v.e) := hb5.cell 5
  exact bodyPost_ret (v := headVal i v) (by simp [results, Tryz.results72, go_sem, s0, s1, s2, s3, s4, s5]) rfl ⟨rfl, below_tch H3.out.1 hT5 (Nat.le_refl _) H3.out.1.size⟩
theorem vec_list_take {l : List Int} {n : Nat} (hl : l.length = n) (hn : n ≤ 5) : (vecOf l).list.take n = l := by
  subst hl
  match l, hn with
  | [], _ => rfl
  | [a], _ => rfl
  | [a, b], _ => rfl
  | [a, b, c], _ => rfl
  | [a, b, c, d], _ => rfl
  | [a, b, c, d, e], _ => rfl
  | a :: b :: c :: d :: e :: f :: l, h => simp at h
theorem RepP.vis64 {xq : DX} {w : World} {p : Nat → Own} {b n i : Nat} {d : DRep} {sb : Nat} {st : St} {sl tbs mbs : Nat → Nat} {hv kn : List Value} (h : RepP xq w p b n i d sb st sl tbs mbs hv kn) (hR : d.hs.length ≤ 1100000) : ∀ k : Nat, 0 ≤ (vecOf d.vis).get k ∧ (vecOf d.vis).get k ≤ 1100000 := fun k => by
  rw [vecOf_get (by rw [h.visLen]; exact h.ok.hist.n5), Int.toNat_natCast, h.ok.vis]
  by_cases c : k < n
  · rw [visOf_get c]; have := cntR_le d.hs k; omega
  · rw [visOf_out (by omega)]; omega
set_option maxRecDepth 100000 in
set_option maxHeartbeats 4000000 in
theorem summary_call {xq : DX} {w : World} {p : Nat → Own} {b n i : Nat} {d : DRep} (h : RepIn xq w p b n i d) (hR : d.hs.length ≤ 1100000) (ht : Tabs w) :
    Calls Tryz.prog 37 #[bptr b] w fun e w' => e = .returned (.string ⟨(sumT n i d.vis).toArray⟩) ∧ Below w.heap.size w w' := by
  obtain ⟨sb, st, sl, tbs, mbs, hv, kn, h⟩ := h
  have hn5 := h.ok.hist.n5
  have hi := h.ok.hi
  obtain ⟨-, c1, -⟩ := h.cellOf
  have y1 := Bel.cell c1
  have hc : ∀ f : Fam (Bel w), Calls Tryz.prog 72 #[bptr b] f.w fun e w'' => e = .returned (headVal i (vecOf d.vis)) ∧ ∃ g : Fam (Bel w), w'' = g.w := fun f => Bel.call f (head_any (h.below f.ok))
  have hs : ∀ f : Fam (Bel w), Calls Tryz.prog 71 #[.int .i64 n, headVal i (vecOf d.vis)] f.w fun e w'' => e = .returned (.string ⟨(sumT n i d.vis).toArray⟩) ∧ ∃ g : Fam (Bel w), w'' = g.w := fun f => by
    have a := write_summary f.w n i (vecOf d.vis) hn5 (by omega) (fun k hk => by
      obtain ⟨r, -, rfl⟩ := vec_mem hk
      have := h.vis64 hR r; omega) (ht.later f.ok)
    rw [vec_list_take h.visLen hn5] at a
    exact Bel.call f a
  obtain ⟨v, hv'⟩ : ∃ v, vecOf d.vis = v := ⟨_, rfl⟩
  obtain ⟨tt, htt⟩ : ∃ tt : ByteArray, ⟨(sumT n i d.vis).toArray⟩ = tt := ⟨_, rfl⟩
  simp only [hv', htt] at hc hs ⊢
  have HC := hide hc
  have HS := hide hs
  clear hc hs h hv' htt c1 ht
  go_enter Tryz.func37, Tryz.ntmps37
  go_upto_region 1 with (fail)
  refine region_fam (Bel w) (by kernel_rfl) (by kernel_rfl) (Below.refl _ _).drew ?_
  repeat (go_big_quiet_step (first | (go_at_call 72; exact HC.out _) | (go_at_call 71; exact HS.out _)))
  refine wpQuiet_nil ?_
  intro _ hw'
  obtain ⟨f1, rfl⟩ := hw'
  go_wp2_with fail
  go_ret
  exact ⟨rfl, f1.ok⟩
end Go.Proofs.YtiplgdkpnhamaaaGreatDoor.Tv

namespace Go.Proofs.YtiplgdkpnhamaaaGreatDoor
open Go.RowKit Go.Sort
def SeqEnd {α : Type} (S : List α → Prop) (J : (Nat → Prop) → List α → World → Prop) (e : Ending) (W' : World) : Prop := (∃ v, e = .returned v) ∧ ∃ xs, S xs ∧ J (fun _ => False) xs W'
def SeqX {α : Type} (n : Nat) (P : Program) (g : Nat) (lb : Array Value) (encs : α → Array Value) (L : List α) (S : List α → Prop) (w : World) : Prop :=
  ∀ (l : Nat) (J : (Nat → Prop) → List α → World → Prop) (W : World), Below w.heap.size w W →
    (∀ X Y pre W1 W2, J X pre W1 → Touch X W1 W2 → (∀ q, Y q → (X q ∨ W1.heap.size ≤ q) ∧ q < W2.heap.size) → J Y pre W2) →
    (∀ X pre x W1, J X pre W1 → x ∈ L → pre.length < L.length → YieldAt Fence.wide (n - 1) P l (encs x) W1 fun e W' => e = .returned (.bool true) ∧ J X (pre ++ [x]) W' ∧ W1.heap.size ≤ W'.heap.size ∧ ∀ q, X q → W'.heap[q]? = W1.heap[q]?) →
    J (fun _ => False) [] W → CallsIn Fence.wide n P g (#[.func (.yield l) #[] #[]] ++ lb) W (SeqEnd S J)
def wtsOf (ys : List (Tr × Nat)) : List Wt := List.zipWith (fun x v => ⟨x, v.count⟩) ys (needsOf (ys.map Prod.fst))
theorem wts_len (ys : List (Tr × Nat)) : (wtsOf ys).length = ys.length := by
  unfold wtsOf
  rw [List.length_zipWith]
  have : (needsOf (ys.map Prod.fst)).length = ys.length := by
    show (needsFrom noLat (ys.map Prod.fst)).length = _
    rw [needs_length, List.length_map]
  omega
theorem wts_take {ys : List (Tr × Nat)} {k : Nat} (hk : k < ys.length) (hn : k < (needsOf (ys.map Prod.fst)).length) : (wtsOf ys).take (k + 1) = (wtsOf ys).take k ++ [⟨ys[k], (needsOf (ys.map Prod.fst))[k].count⟩] := by
  rw [List.take_succ_eq_append_getElem (by rw [wts_len]; exact hk)]
  simp [wtsOf]
theorem QX.mono {w : World} {qb : Nat} {l : List Wt} {X Y : Nat → Prop} (h : QX w qb l X) (hXY : ∀ q, q < w.heap.size → X q → Y q) : QX w qb l Y := by
  obtain ⟨sv, h1, h2, h3, h4⟩ := h
  exact ⟨sv, h1, hXY _ h1.blk.lt h2, fun q hq => hXY q (h1.row.lt q hq).2 (h3 q hq), h4⟩
theorem QX.move {w w' : World} {qb : Nat} {l : List Wt} {X : Nat → Prop} (h : QX w qb l X) (hm : ∀ q, X q → w'.heap[q]? = w.heap[q]?) : QX w' qb l X := by
  obtain ⟨sv, h1, h2, h3, h4⟩ := h
  exact ⟨sv, ⟨h1.blk.move (hm _ h2), own_move h1.row fun q hq => hm q (h3 q hq)⟩, h2, h3, h4⟩
theorem QX.later {w w' : World} {qb : Nat} {l : List Wt} {X : Nat → Prop} (h : QX w qb l X) (hb : Below w.heap.size w w') : QX w' qb l X := by
  obtain ⟨sv, h1, h2, h3, h4⟩ := h
  exact ⟨sv, h1.later hb, h2, h3, h4⟩
structure PushAt (W : World) (qb : Nat) (nv : Value) (ys : List (Tr × Nat)) (k : Nat) (wr : World) : Prop where
  bel : Below W.heap.size W wr
  nds : wr.ownsRow W.heap.size 104 5 nv ys.length ((needsOf (ys.map Prod.fst)).flatMap Vec.cells)
  q : ∃ l, l.Perm ((wtsOf ys).take k) ∧ QX wr qb l fun q => W.heap.size ≤ q ∧ nv.ownBlock ≠ some q
theorem PushAt.later {W : World} {qb : Nat} {nv : Value} {ys : List (Tr × Nat)} {k : Nat} {wr w' : World} (h : PushAt W qb nv ys k wr) (hb : Below wr.heap.size wr w') : PushAt W qb nv ys k w' := by
  obtain ⟨l, h1, h2⟩ := h.q
  exact ⟨h.bel.trans (hb.mono h.bel.size), ownsRow_below h.nds hb, l, h1, h2.later hb⟩
def qlen (w : World) (qb : Nat) : Nat := match w.cell? ⟨qb, 0, none⟩ with | some (.slice _ n _) => n | _ => 0
theorem QX.cell {w : World} {qb : Nat} {l : List Wt} {X : Nat → Prop} (h : QX w qb l X) : ∃ a c, w.cell? ⟨qb, 0, none⟩ = some (.slice a l.length c) ∧ qb < w.heap.size := by
  obtain ⟨sv, h1, -⟩ := h
  obtain ⟨a, c, rfl, -⟩ := Row.shape (ownsRow_low h1.row (Nat.zero_le _))
  exact ⟨a, c, h1.cell, h1.blk.lt⟩
theorem QX.qlen {w : World} {qb : Nat} {l : List Wt} {X : Nat → Prop} (h : QX w qb l X) : qlen w qb = l.length := by
  obtain ⟨a, c, e, -⟩ := h.cell
  unfold Go.Proofs.YtiplgdkpnhamaaaGreatDoor.qlen
  rw [e]
structure Pops (J : (Nat → Prop) → List Wt → World → Prop) (X : Nat → Prop) (qb : Nat) (L pre rest : List Wt) (wv : World) : Prop where
  perm : (pre ++ rest).Perm L
  srt : pre.Pairwise fun a b => wLt b a = false
  lo : ∀ a, a ∈ pre → ∀ b, b ∈ rest → wLt b a = false
  q : QX wv qb rest X
  j : J X pre wv
  xb : ∀ q, X q → q < wv.heap.size
theorem field_wt (v0 v1 v2 v3 v4 v5 v6 v7 v8 : Value) (W : World) : (Instr.field 213 (.agg #[v0, v1, v2, v3, v4, v5, v6, v7, v8]) 0).run Tryz.prog W = .ok (.agg #[v0, v1, v2, v3, v4, v5, v6, v7]) W := by kernel_rfl
set_option maxRecDepth 100000 in
set_option maxHeartbeats 4000000 in
theorem inorder_seq (n Lb base : Nat) (ys : List (Tr × Nat)) (lv : Value) (w : World) (hc0 : w.cell? ⟨Lb, 0, none⟩ = some lv) (hrow0 : w.ownsRow base 139 8 lv ys.length (ys.flatMap trCells)) (hl : ys.length ≤ 50000000) (hf : ∀ x, x ∈ ys → x.1.rep < 5 ∧ 0 ≤ x.1.seq ∧ x.1.seq ≤ 9223372036854775807) (hsm : ∀ v, v ∈ needsOf (ys.map Prod.fst) → v.small) :
    SeqX n Tryz.prog 124 #[bptr Lb] (fun y : Wt => #[.agg #[.int .i64 y.x.1.rep, .int .i64 y.x.1.seq, .int .i64 y.x.1.saw.a, .int .i64 y.x.1.saw.b, .int .i64 y.x.1.saw.c, .int .i64 y.x.1.saw.d, .int .i64 y.x.1.saw.e, .map (some y.x.2)]]) (wtsOf ys) (fun xs => xs.Perm (wtsOf ys) ∧ xs.Pairwise fun a b => wLt b a = false) w := by
  intro l J W hW hJ hY h0
  have hc : W.cell? ⟨Lb, 0, none⟩ = some lv := cell_later hW hc0
  have hrow := ownsRow_below hrow0 hW
  show CallsIn _ _ _ _ #[.func (.yield l) #[] #[], bptr Lb] W _
  refine callsIn_of_wp Tryz.func124 rfl trivial ?_ rfl
  simp only [Tryz.ntmps124, List.size_toArray, List.length_cons, List.length_nil, Nat.reduceAdd, Nat.reduceSub, Array.replicate_succ, Array.replicate_zero, List.push_toArray, List.append_toArray, List.nil_append, List.cons_append]
  refine wpIn_wide.2 ?_
  have HY := hide hY
  have HJ := hide (⟨hJ, h0⟩ : _ ∧ _)
  have HL := hide (⟨hrow, hl, hf, hsm⟩ : _ ∧ _ ∧ _ ∧ _)
  clear hY hJ h0 hrow hc0 hrow0 hW hl hf hsm
  obtain ⟨ao, cap, rfl, -⟩ := Row.shape (ownsRow_low HL.out.1 (Nat.zero_le _))
  generalize hW2 : (W.alloc (.cells #[] 213)).alloc (.cells #[.slice (some ⟨W.heap.size, 0, none⟩) 0 0] 208) = W2
  have hB2 : Below W.heap.size W W2 := by rw [← hW2]; exact ((Below.refl _ _).alloc (Nat.le_refl _) _).alloc (by simp) _
  have hq2 : QX W2 (W.heap.size + 1) [] fun q => W.heap.size ≤ q := by
    refine ⟨.slice (some ⟨W.heap.size, 0, none⟩) 0 0, ⟨?_, rfl, .inr ⟨W.heap.size, 0, #[], rfl, Nat.zero_le _, ?_, Nat.le_refl _, Nat.zero_le _, rfl, rfl⟩⟩, Nat.le_succ _, fun q hq => ?_, fun k h1 h2 => by simp at h2⟩
    · rw [← hW2, show W.heap.size + 1 = (W.alloc (.cells #[] 213)).heap.size by simp]; exact heap_alloc_new _ _
    · rw [← hW2]; exact (Below.heap_alloc _ _ _ (by simp)).trans (heap_alloc_new W _)
    · have e : q = W.heap.size := by simp [Value.ownBlock] at hq; exact hq.symm
      omega
  have hc2 := cell_later hB2 hc
  have hnd := needs_any W2 base ys (.slice ao ys.length cap) (ownsRow_below HL.out.1 hB2) HL.out.2.1 HL.out.2.2.1
  have HN := hide hnd
  have H2 := hide (⟨hB2, hq2⟩ : _ ∧ _)
  have HW2 := hide hW2
  obtain ⟨qb, hqb⟩ : ∃ qb, W.heap.size + 1 = qb := ⟨_, rfl⟩
  have HQB := hide hqb
  have HC := hide hc
  clear hnd hB2 hq2 hc hW2
  go_upto_region 1 with (fail)
  rw [HW2.out]
  try simp only [hqb]
  clear hqb
  go_wp2_with (go_at_call 125; refine HN.out.mono ?_; rintro e w3 ⟨nv, rfl, hrn, hB3⟩; obtain ⟨an, cn, rfl, -⟩ := Row.shape (ownsRow_low hrn (Nat.zero_le _)); have H3 := hide (⟨hrn, hB3⟩ : _ ∧ _); have hc3 := cell_later hB3 hc2; clear hrn hB3 hc2)
  have HP0 : Hid (PushAt W qb (.slice an ys.length cn) ys 0 w3) := by
    refine ⟨H2.out.1.trans (H3.out.2.mono H2.out.1.size), ownsRow_low H3.out.1 H2.out.1.size, [], by simp, ?_⟩
    have a := H2.out.2
    rw [HQB.out] at a
    refine (a.mono fun q hq hX => ?_).later H3.out.2
    refine ⟨hX, fun e => ?_⟩
    have := (H3.out.1.lt q e).1
    omega
  have hll := HL.out.2.1
  clear H2 HN HW2 H3 hc3
  go_loopw [11] (fun iv wr => ∃ k : Nat, k ≤ ys.length ∧ iv = .int .i64 k ∧ Hid (PushAt W qb (.slice an ys.length cn) ys k wr)) (fun iv _ => ys.length - (intOf iv).toNat)
  case atStart => exact ⟨0, Nat.zero_le _, rfl, HP0⟩
  case round =>
    obtain ⟨k, hk, rfl, HP⟩ := hrel
    by_cases hkl : k < ys.length
    · have hnl : k < (needsOf (ys.map Prod.fst)).length := by
        show k < (needsFrom noLat (ys.map Prod.fst)).length
        rw [needs_length, List.length_map]; exact hkl
      have hbel := HP.out.bel
      have hrw := ownsRow_below HL.out.1 hbel
      obtain ⟨gn, cn', hv1, -, -, hgl, hcl, -⟩ := Row.pos (ownsRow_low HP.out.nds (Nat.zero_le _)) (by omega)
      obtain ⟨ga, ca', hv2, -, -, hal, hcl2, -⟩ := Row.pos (ownsRow_low hrw (Nat.zero_le _)) (by omega)
      cases hv1
      cases hv2
      have hcW := cell_later hbel HC.out
      have hlb := World.block_lt_of_cell? wr _ hcW
      have cv := fun (j : Nat) (hj : j < 5) => (hcl (k * 5 + j) (by omega)).trans (flat_get Vec.cells 5 (fun _ => rfl) _ k j hnl hj)
      have cx := fun (j : Nat) (hj : j < 8) => (hcl2 (k * 8 + j) (by omega)).trans (flat_get trCells 8 (fun _ => rfl) _ k j hkl hj)
      have hsmk := HL.out.2.2.2 _ (List.getElem_mem hnl)
      have htk := wts_take hkl hnl
      obtain ⟨v, hv⟩ : ∃ v, (needsOf (ys.map Prod.fst))[k] = v := ⟨_, rfl⟩
      obtain ⟨x, hx⟩ : ∃ x, ys[k] = x := ⟨_, rfl⟩
      rw [hv] at cv hsmk htk
      rw [hx] at cx htk
      obtain ⟨⟨r, sq, ⟨s0, s1, s2, s3, s4⟩, wm⟩, mb⟩ := x
      have v0 : wr.cell? ⟨gn, k * 5, none⟩ = some (.int .i64 v.a) := cv 0 (by omega)
      have v1 : wr.cell? ⟨gn, k * 5 + 1, none⟩ = some (.int .i64 v.b) := cv 1 (by omega)
      have v2 : wr.cell? ⟨gn, k * 5 + 2, none⟩ = some (.int .i64 v.c) := cv 2 (by omega)
      have v3 : wr.cell? ⟨gn, k * 5 + 3, none⟩ = some (.int .i64 v.d) := cv 3 (by omega)
      have v4 : wr.cell? ⟨gn, k * 5 + 4, none⟩ = some (.int .i64 v.e) := cv 4 (by omega)
      generalize hW6 : wr.alloc (.cells #[.int .i64 v.a, .int .i64 v.b, .int .i64 v.c, .int .i64 v.d, .int .i64 v.e] 104) = W6
      have hB6 : Below wr.heap.size wr W6 := by rw [← hW6]; exact (Below.refl _ _).alloc (Nat.le_refl _) _
      have b6 : Blk W6 wr.heap.size v.cells 104 := by rw [← hW6]; exact heap_alloc_new wr _
      have HCX := hide cx
      have HCW := hide hcW
      have H6 := hide (⟨hB6, b6, htk, hsmk⟩ : _ ∧ _ ∧ _ ∧ _)
      have HW6 := hide hW6
      clear cv cx hcl hcl2 hcW hrw hbel hB6 b6 hv hx htk hsmk hW6
      go_upto_region 4 with (fail)
      rw [HW6.out]
      obtain ⟨hB6, b6, htk, hsmk⟩ := H6.out
      have hcx := HCX.out
      have y0 := Bel.cell (cell_later hB6 HCW.out)
      have x0 := Bel.cell (cell_later hB6 (show wr.cell? ⟨ga, k * 8, none⟩ = some (.int .i64 r) from hcx 0 (by omega)))
      have x1 := Bel.cell (cell_later hB6 (show wr.cell? ⟨ga, k * 8 + 1, none⟩ = some (.int .i64 sq) from hcx 1 (by omega)))
      have x2 := Bel.cell (cell_later hB6 (show wr.cell? ⟨ga, k * 8 + 2, none⟩ = some (.int .i64 s0) from hcx 2 (by omega)))
      have x3 := Bel.cell (cell_later hB6 (show wr.cell? ⟨ga, k * 8 + 3, none⟩ = some (.int .i64 s1) from hcx 3 (by omega)))
      have x4 := Bel.cell (cell_later hB6 (show wr.cell? ⟨ga, k * 8 + 4, none⟩ = some (.int .i64 s2) from hcx 4 (by omega)))
      have x5 := Bel.cell (cell_later hB6 (show wr.cell? ⟨ga, k * 8 + 5, none⟩ = some (.int .i64 s3) from hcx 5 (by omega)))
      have x6 := Bel.cell (cell_later hB6 (show wr.cell? ⟨ga, k * 8 + 6, none⟩ = some (.int .i64 s4) from hcx 6 (by omega)))
      have x7 := Bel.cell (cell_later hB6 (show wr.cell? ⟨ga, k * 8 + 7, none⟩ = some (.map (some mb)) from hcx 7 (by omega)))
      have z0 := Bel.cell (show W6.cell? ⟨wr.heap.size, 0, none⟩ = some (.int .i64 v.a) from b6.cell 0)
      have z1 := Bel.cell (show W6.cell? ⟨wr.heap.size, 1, none⟩ = some (.int .i64 v.b) from b6.cell 1)
      have z2 := Bel.cell (show W6.cell? ⟨wr.heap.size, 2, none⟩ = some (.int .i64 v.c) from b6.cell 2)
      have z3 := Bel.cell (show W6.cell? ⟨wr.heap.size, 3, none⟩ = some (.int .i64 v.d) from b6.cell 3)
      have z4 := Bel.cell (show W6.cell? ⟨wr.heap.size, 4, none⟩ = some (.int .i64 v.e) from b6.cell 4)
      have hct : ∀ f : Fam (Bel W6), Calls Tryz.prog 127 #[v.val] f.w fun e w'' => e = .returned (.int .i64 v.count) ∧ ∃ g : Fam (Bel W6), w'' = g.w := fun f => Bel.call f (count_any f.w v hsmk)
      have HCT := hide hct
      have HPU : Hid (∀ W7, Below W6.heap.size W6 W7 → Calls Tryz.prog 126 #[qIface qb, .iface 213 (.agg #[.int .i64 r, .int .i64 sq, .int .i64 s0, .int .i64 s1, .int .i64 s2, .int .i64 s3, .int .i64 s4, .map (some mb), .int .i64 v.count])] W7 fun e w' => e = .returned (.tuple #[]) ∧ Hid (PushAt W qb (.slice (some ⟨gn, 0, none⟩) ys.length cn) ys (k + 1) w')) := fun W7 hB7 => by
        have hP7 := (HP.out.later hB6).later hB7
        obtain ⟨l7, hp7, hq7⟩ := hP7.q
        have hl7 : l7.length ≤ 50000000 := by
          have := hp7.length_eq
          rw [List.length_take, wts_len] at this
          omega
        refine (heap_push W7 qb l7 ⟨(⟨r, sq, ⟨s0, s1, s2, s3, s4⟩, wm⟩, mb), v.count⟩ _ hq7 (by omega)).mono ?_
        rintro e w8 ⟨rfl, l8, hp8, hq8, hT8⟩
        have hs7 : W.heap.size ≤ W7.heap.size := hP7.bel.size
        refine ⟨rfl, ⟨⟨hT8.os.trans hP7.bel.os, hT8.tape.trans hP7.bel.tape, hT8.output.trans hP7.bel.output, Nat.le_trans hs7 hT8.size, fun q hq => (hT8.block q (by omega) (fun c => by omega)).trans (hP7.bel.block q hq)⟩, own_move hP7.nds fun q hq => hT8.block q (hP7.nds.lt q hq).2 fun c => c.2 hq, l8, ?_, hq8.mono fun q _ c => ?_⟩⟩
        · rw [htk]
          exact hp8.trans (List.Perm.append_right _ hp7)
        · rcases c with c | c
          · exact c
          · exact ⟨by omega, fun e => by have := (hP7.nds.lt q e).2; omega⟩
      clear hct hcx hB6 b6 htk hsmk
      refine region_fam_tail (Bel W6) 10 (by kernel_rfl) (by kernel_rfl) (Below.refl _ _).drew ?_
      simp only [List.take_succ_cons, List.take_zero, List.drop_succ_cons, List.drop_zero]
      repeat (go_big_quiet_step (first | (go_at_call 127; exact HCT.out _)))
      refine wpQuiet_nil ?_
      intro _ hw'
      obtain ⟨fq, rfl⟩ := hw'
      obtain ⟨W7, hB7⟩ := fq
      try dsimp only
      have HB7 := hide hB7
      clear y0 x0 x1 x2 x3 x4 x5 x6 x7 z0 z1 z2 z3 z4 hB7
      go_wp2_with (go_at_call 126; refine (HPU.out W7 HB7.out).mono ?_; rintro e w8 ⟨rfl, hP8⟩)
      exact ⟨⟨k + 1, by omega, by simp, hP8⟩, by simp only [intOf]; omega⟩
    · have hke : k = ys.length := by omega
      subst hke
      go_wp2_with fail
      obtain ⟨l0, hp0, hq0⟩ := HP.out.q
      have hbel := HP.out.bel
      have HS : Hid (Pops J (fun q => W.heap.size ≤ q ∧ q < wr.heap.size) qb (wtsOf ys) [] l0 wr) := by
        refine ⟨?_, by simp, by simp, hq0.mono fun q hq hX => ⟨hX.1, hq⟩, ?_, fun q hX => hX.2⟩
        · rw [List.take_of_length_le (by rw [wts_len]; exact Nat.le_refl _)] at hp0
          simpa using hp0
        · exact HJ.out.1 (fun _ => False) _ [] W wr HJ.out.2 (Touch.ofBelow hbel) fun q hX => ⟨Or.inr hX.1, hX.2⟩
      generalize (fun q => W.heap.size ≤ q ∧ q < wr.heap.size) = X at HS
      clear hp0 hq0 hbel HP0 HP
      go_loopw [] (fun wv => ∃ pre rest, Hid (Pops J X qb (wtsOf ys) pre rest wv)) (fun wv => qlen wv qb)
      case atStart => exact ⟨[], l0, HS⟩
      case round =>
        obtain ⟨pre, rest, HR⟩ := hrel
        obtain ⟨a, c, hcell, hlt⟩ := HR.out.q.cell
        have hln := fun W => q_len W a rest.length c
        have HLN := hide hln
        clear hln
        by_cases hr0 : rest.length = 0
        · rw [hr0] at hcell HLN
          go_wp2_with (go_at_call 128; refine (HLN.out _).mono ?_; rintro e w2 ⟨rfl, rfl⟩)
          go_end0
          have hr : rest = [] := List.length_eq_zero_iff.1 hr0
          have h1 := HR.out
          rw [hr] at h1
          refine ⟨⟨_, rfl⟩, pre, ⟨by simpa using h1.perm, h1.srt⟩, HJ.out.1 X _ pre _ _ h1.j (Touch.refl _ _) fun q hX => hX.elim⟩
        · have hr1 : (0 : Int) < (rest.length : Nat) := by omega
          go_upto_region 7 with (go_at_call 128; refine (HLN.out _).mono ?_; rintro e w2 ⟨rfl, rfl⟩)
          have hrl : rest.length ≤ 50000000 := by
            have := HR.out.perm.length_eq
            rw [List.length_append, wts_len] at this
            omega
          have hpop := heap_pop w2 qb rest X HR.out.q (by omega) (by omega)
          have HPOP := hide hpop
          have hta := as_wt
          have hfd := field_wt
          clear hpop hcell hlt
          go_cut [40] (fun bv wc => bv = .bool false ∧ ∃ pre' rest', Hid (Pops J X qb (wtsOf ys) pre' rest' wc ∧ rest'.length < rest.length))
          case first =>
            refine (wpIn_wide (n := n)).1 ?_
            gi_wp2
            refine ⟨trivial, fun h => by simp [Fence.wide] at h, (callsIn_wide.2 HPOP.out).mono ?_⟩
            rintro e w3 ⟨y, rest', rfl, hpp, hmn, hqx, hT⟩
            have hym : y ∈ wtsOf ys := HR.out.perm.mem_iff.1 (List.mem_append_right _ (hpp.mem_iff.1 (by simp)))
            have hJ3 : J X pre w3 := HJ.out.1 X X pre w2 w3 HR.out.j hT fun q hX => ⟨Or.inl hX, Nat.lt_of_lt_of_le (HR.out.xb q hX) hT.size⟩
            obtain ⟨fn, tmps, assign, body, hy, hR⟩ := HY.out X pre y w3 hJ3 hym (by
              have := HR.out.perm.length_eq
              rw [List.length_append] at this
              omega)
            have HRR := hide hR
            have HPP := hide (⟨hpp, hmn, hqx, hT⟩ : _ ∧ _ ∧ _ ∧ _)
            clear hR hpp hmn hqx hT hJ3 hym
            gi_wp2
            refine ⟨fun h => by simp [Fence.wide] at h, HRR.out.mono ?_⟩
            rintro e W4 ⟨rfl, hJ4, hsz, hX4⟩
            have H4 := hide (⟨hJ4, hsz, hX4⟩ : _ ∧ _ ∧ _)
            clear hJ4 hsz hX4 hy
            gi_wp2
            go_meet
            obtain ⟨hJ4, hsz, hX4⟩ := H4.out
            obtain ⟨hpp, hmn, hqx, hT⟩ := HPP.out
            refine ⟨rfl, pre ++ [y], rest', ⟨?_, ?_, ?_, hqx.move hX4, hJ4, fun q hX => ?_⟩, ?_⟩
            · have e : pre ++ [y] ++ rest' = pre ++ (y :: rest') := by simp
              rw [e]
              exact (List.Perm.append_left pre hpp).trans HR.out.perm
            · rw [List.pairwise_append]
              refine ⟨HR.out.srt, by simp, fun a ha b hb => ?_⟩
              rw [List.mem_singleton] at hb
              subst hb
              exact HR.out.lo a ha b (hpp.mem_iff.1 (by simp))
            · intro a ha b hb
              have hb' : b ∈ rest := hpp.mem_iff.1 (List.mem_cons_of_mem _ hb)
              rw [List.mem_append, List.mem_singleton] at ha
              rcases ha with ha | rfl
              · exact HR.out.lo a ha b hb'
              · exact hmn b hb'
            · exact Nat.lt_of_lt_of_le (Nat.lt_of_lt_of_le (HR.out.xb q hX) hT.size) hsz
            · have := hpp.length_eq
              simp at this
              omega
          case rest =>
            obtain ⟨rfl, pre', rest', HR'⟩ := hcut
            go_wp2_with fail
            exact ⟨⟨pre', rest', HR'.out.1⟩, by rw [HR'.out.1.q.qlen, HR.out.q.qlen]; exact HR'.out.2⟩
end Go.Proofs.YtiplgdkpnhamaaaGreatDoor

namespace Go.Proofs.YtiplgdkpnhamaaaGreatDoor.Tv
open Go.RowKit
theorem repCells_kn {i n : Int} {sb : Nat} {hv kn op : List Value} (h1 : hv.length = 5) (h2 : kn.length = 25) {k : Nat} (hk : k < 25) : (repCells i n sb hv kn op)[8 + k]? = kn[k]? := by
  unfold repCells
  rw [List.getElem?_append_left (by simp; omega), List.getElem?_append_right (by simp; omega)]
  congr 1
  simp; omega
theorem repCells_setK {i n : Int} {sb : Nat} {hv kn op : List Value} (h1 : hv.length = 5) (h2 : kn.length = 25) {k : Nat} (hk : k < 25) (x : Value) : (repCells i n sb hv kn op).set (8 + k) x = repCells i n sb hv (kn.set k x) op := by
  unfold repCells
  rw [List.set_append_left _ _ (by simp; omega), List.set_append_right _ _ (by simp; omega)]
  congr 3
  simp; omega
theorem RepP.reblk {xq xq' : DX} {w w' : World} {p : Nat → Own} {b n i : Nat} {d : DRep} {sb : Nat} {st : St} {sl tbs mbs : Nat → Nat} {hv kn kn' : List Value} (h : RepP xq w p b n i d sb st sl tbs mbs hv kn) (q : QT (fun t => t = Own.rep) w p w' p) (hb : Qb w' p .rep b (repCells i n sb hv kn' (opvs d tbs)) 114) (hk : kn' = latCells xq'.kn) (hg : xq'.gone = xq.gone) : RepP xq' w' p b n i d sb st sl tbs mbs hv kn' := by
  obtain ⟨vb, cb, eb, ov, cv, ev, kv, hs⟩ := h.sto
  refine ⟨hb, h.hlen, by rw [hk]; rfl, ⟨vb, cb, eb, ov, cv, ev, kv, hs.touch q (fun u hu e => by rw [e] at hu; exact hu)⟩, h.ok, fun r hr => ?_, fun k t e => ?_, h.snp, hk, fun r => by rw [hg]; exact h.gle r⟩
  · rw [hg]; exact (h.held r hr).touch q (by simp) (by simp)
  · have hx := h.tx k t e
    exact ⟨hx.blk.touch q (by simp), hx.ownT, hx.own.movet q (by rw [hx.ownT]; simp)⟩
def learnX (x : DX) (j : Nat) (v : Vec) : DX := { x with kn := latUpd x.kn j ((x.kn j).join v) }
set_option maxRecDepth 100000 in
set_option maxHeartbeats 4000000 in
theorem learn_any {xq : DX} {w : World} {p : Nat → Own} {b n i : Nat} {d : DRep} {sb : Nat} {st : St} {sl tbs mbs : Nat → Nat} {hv kn : List Value} (h : RepP xq w p b n i d sb st sl tbs mbs hv kn) {j : Nat} (hj : j < 5) (v : Vec) :
    Calls Tryz.prog 76 #[bptr b, headVal j v] w fun e w' => e = .returned (.tuple #[]) ∧ RepIn (learnX xq j v) w' p b n i d ∧ QT (fun t => t = .rep) w p w' p := by
  obtain ⟨u, hu⟩ : ∃ u, xq.kn j = u := ⟨_, rfl⟩
  generalize hW0 : w.alloc (.cells #[.int .i64 j, .int .i64 v.a, .int .i64 v.b, .int .i64 v.c, .int .i64 v.d, .int .i64 v.e] 144) = W0
  have hB0 : Below w.heap.size w W0 := by rw [← hW0]; exact (Below.refl _ _).alloc (Nat.le_refl _) _
  have bx : Blk W0 w.heap.size [.int .i64 j, .int .i64 v.a, .int .i64 v.b, .int .i64 v.c, .int .i64 v.d, .int .i64 v.e] 144 := by rw [← hW0]; exact heap_alloc_new w _
  have h0 := h.below hB0
  have ck : ∀ m, m < 5 → W0.cell? ⟨b, 8 + j * 5 + m, none⟩ = some (.int .i64 (u.get m)) := fun m hm => by
    rw [h0.blk.blk.cell, show 8 + j * 5 + m = 8 + (j * 5 + m) by omega, repCells_kn h.hlen h.klen (by omega), h.known, lat_cell _ hj hm, hu]
  have k0 := Bel.cell (show W0.cell? ⟨b, 8 + j * 5, none⟩ = some (.int .i64 u.a) from ck 0 (by omega))
  have k1 := Bel.cell (show W0.cell? ⟨b, 8 + j * 5 + 1, none⟩ = some (.int .i64 u.b) from ck 1 (by omega))
  have k2 := Bel.cell (show W0.cell? ⟨b, 8 + j * 5 + 2, none⟩ = some (.int .i64 u.c) from ck 2 (by omega))
  have k3 := Bel.cell (show W0.cell? ⟨b, 8 + j * 5 + 3, none⟩ = some (.int .i64 u.d) from ck 3 (by omega))
  have k4 := Bel.cell (show W0.cell? ⟨b, 8 + j * 5 + 4, none⟩ = some (.int .i64 u.e) from ck 4 (by omega))
  have y0 := Bel.cell (show W0.cell? ⟨w.heap.size, 0, none⟩ = some (.int .i64 j) from bx.cell 0)
  have y1 := Bel.cell (show W0.cell? ⟨w.heap.size, 1, none⟩ = some (.int .i64 v.a) from bx.cell 1)
  have y2 := Bel.cell (show W0.cell? ⟨w.heap.size, 2, none⟩ = some (.int .i64 v.b) from bx.cell 2)
  have y3 := Bel.cell (show W0.cell? ⟨w.heap.size, 3, none⟩ = some (.int .i64 v.c) from bx.cell 3)
  have y4 := Bel.cell (show W0.cell? ⟨w.heap.size, 4, none⟩ = some (.int .i64 v.d) from bx.cell 4)
  have y5 := Bel.cell (show W0.cell? ⟨w.heap.size, 5, none⟩ = some (.int .i64 v.e) from bx.cell 5)
  have hjn : ∀ f : Fam (Bel W0), Calls Tryz.prog 118 #[u.val, v.val] f.w fun e w'' => e = .returned (u.join v).val ∧ ∃ g : Fam (Bel W0), w'' = g.w := fun f => Bel.call f (join_any f.w u v)
  have HJN := hide hjn
  have HW0 := hide hW0
  have HH := hide (⟨h, hB0, h0, hu, ck⟩ : _ ∧ _ ∧ _ ∧ _ ∧ _)
  have e1 : ¬ (j : Int) < 0 := by omega
  have e2 : (j : Int) < 5 := by omega
  obtain ⟨jn, hjv⟩ : ∃ jn, u.join v = jn := ⟨_, rfl⟩
  rw [hjv] at HJN
  have HJV := hide hjv
  clear h hB0 bx h0 hjn hW0 hu ck hjv
  go_enter Tryz.func76, Tryz.ntmps76
  go_upto_region 1 with (fail)
  rw [HW0.out]
  refine region_fam_tail (Bel W0) 16 (by kernel_rfl) (by kernel_rfl) (Below.refl _ _).drew ?_
  simp only [List.take_succ_cons, List.take_zero, List.drop_succ_cons, List.drop_zero]
  repeat (go_big_quiet_step (first | (go_at_call 118; exact HJN.out _)))
  refine wpQuiet_nil ?_
  intro _ hw'
  obtain ⟨fq, rfl⟩ := hw'
  obtain ⟨W1, hB1⟩ := fq
  try dsimp only
  have c0 := k0 ⟨W1, hB1⟩
  have c1 := k1 ⟨W1, hB1⟩
  have c2 := k2 ⟨W1, hB1⟩
  have c3 := k3 ⟨W1, hB1⟩
  have c4 := k4 ⟨W1, hB1⟩
  dsimp only at c0 c1 c2 c3 c4
  have hb1 := HH.out.2.2.1.below hB1
  have f0 : W1.frozen? ⟨b, 8 + j * 5, none⟩ = false := hb1.blk.blk.frozen _
  have f1 : W1.frozen? ⟨b, 8 + j * 5 + 1, none⟩ = false := hb1.blk.blk.frozen _
  have f2 : W1.frozen? ⟨b, 8 + j * 5 + 2, none⟩ = false := hb1.blk.blk.frozen _
  have f3 : W1.frozen? ⟨b, 8 + j * 5 + 3, none⟩ = false := hb1.blk.blk.frozen _
  have f4 : W1.frozen? ⟨b, 8 + j * 5 + 4, none⟩ = false := hb1.blk.blk.frozen _
  have hlb := hb1.blk.blk.lt
  have H1 := hide (⟨hb1, hB1⟩ : _ ∧ _)
  clear k0 k1 k2 k3 k4 y0 y1 y2 y3 y4 y5 hb1 hB1
  go_wp2_with fail
  go_end0
  obtain ⟨h, hB0, h0, hu, ck⟩ := HH.out
  obtain ⟨h1, hB1⟩ := H1.out
  have b5 := ((((h1.blk.set (8 + j * 5) (.int .i64 jn.a)).set (8 + j * 5 + 1) (.int .i64 jn.b)).set (8 + j * 5 + 2) (.int .i64 jn.c)).set (8 + j * 5 + 3) (.int .i64 jn.d)).set (8 + j * 5 + 4) (.int .i64 jn.e)
  have ec : (((((repCells i n sb hv kn (opvs d tbs)).set (8 + j * 5) (.int .i64 jn.a)).set (8 + j * 5 + 1) (.int .i64 jn.b)).set (8 + j * 5 + 2) (.int .i64 jn.c)).set (8 + j * 5 + 3) (.int .i64 jn.d)).set (8 + j * 5 + 4) (.int .i64 jn.e) = repCells i n sb hv (latCells (learnX xq j v).kn) (opvs d tbs) := by
    rw [show 8 + j * 5 + 1 = 8 + (j * 5 + 1) by omega, show 8 + j * 5 + 2 = 8 + (j * 5 + 2) by omega, show 8 + j * 5 + 3 = 8 + (j * 5 + 3) by omega, show 8 + j * 5 + 4 = 8 + (j * 5 + 4) by omega]
    rw [repCells_setK h.hlen h.klen (by omega), repCells_setK h.hlen (by simp [h.klen]) (by omega), repCells_setK h.hlen (by simp [h.klen]) (by omega), repCells_setK h.hlen (by simp [h.klen]) (by omega), repCells_setK h.hlen (by simp [h.klen]) (by omega), h.known, lat_set _ hj]
    show repCells i n sb hv (latCells (latUpd xq.kn j jn)) _ = repCells i n sb hv (latCells (latUpd xq.kn j ((xq.kn j).join v))) _
    rw [hu, HJV.out]
  rw [ec] at b5
  have tg := h1.blk.tag
  have q5 := ((((((QT.refl (fun t => t = Own.rep) W1 p).set (p := ⟨b, 8 + j * 5, none⟩) tg (.int .i64 jn.a)).set (p := ⟨b, 8 + j * 5 + 1, none⟩) tg (.int .i64 jn.b)).set (p := ⟨b, 8 + j * 5 + 2, none⟩) tg (.int .i64 jn.c)).set (p := ⟨b, 8 + j * 5 + 3, none⟩) tg (.int .i64 jn.d)).set (p := ⟨b, 8 + j * 5 + 4, none⟩) tg (.int .i64 jn.e))
  have hB := hB0.trans (hB1.mono hB0.size)
  exact ⟨rfl, ⟨sb, st, sl, tbs, mbs, hv, _, h1.reblk q5 b5 rfl rfl⟩, (QT.ofBelow hB).trans q5⟩
end Go.Proofs.YtiplgdkpnhamaaaGreatDoor.Tv

namespace Go.Proofs.YtiplgdkpnhamaaaGreatDoor
open Go.RowKit Go.Sort
theorem touch_put {X : Nat → Prop} (W : World) {l : Nat} (o : Obj) (h : X l) : Touch X W (W.putObj l o) :=
  ⟨rfl, rfl, rfl, by simp, fun q _ hn => World.putObj_heap_other fun e => hn (by rw [e]; exact h)⟩
theorem range_x {α : Type} {P : Program} {n gf : Nat} {lb : Array Value} {encs : α → Array Value} {L : List α} {S : List α → Prop} {w0 : World} {g : Operand} {ps : Array Tmp} {assign body : Code} {Q : Exit → Act → World → Prop} {a : Act} {w : World}
    (h1 : 1 ≤ n) (hg : a.eval g = .func (.func gf) #[] lb) (eg : ∀ args w, (callFunc gf args).run P w = .ok (.enter gf args) w) (hseq : SeqX (n - 1) P gf lb encs L S w0) (hb0 : Below w0.heap.size w0 w) (hps : ∀ x, (encs x).size = ps.size)
    (I : (Nat → Prop) → List α → World → Prop) (hI : ∀ X Y pre W1 W2, I X pre W1 → Touch X W1 W2 → (∀ q, Y q → (X q ∨ W1.heap.size ≤ q) ∧ q < W2.heap.size) → I Y pre W2) (hIb : ∀ X pre W, I X pre W → ∀ q, X q → q < W.heap.size) (h0 : I (fun _ => False) [] w)
    (Ax : α → Act → World → (Nat → Prop) → Prop) (hAx : ∀ x a' W X l r o, Ax x a' W X → W.heap[l]? = some (.loop r) → Ax x a' (W.putObj l o) X)
    (hassign : ∀ (l : Nat) (X : Nat → Prop) (pre : List α) (x : α) (W : World) (K : Act → World → Prop), x ∈ L → pre.length < L.length → I X pre W → (∀ a' W' X', I X' pre W' → (∀ q, X q → X' q) → Touch (fun _ => False) W W' → Ax x a' W' X' → K a' W') → assign.wpIn (Fence.wide.inRound l) (n - 1 - 1) P (Exit.then K fun _ _ _ => False) { tmps := (ps.zip (encs x)).foldl (fun t (p, v) => t.setIfInBounds p v) a.tmps, defers := [] } W)
    (hbody : ∀ (l : Nat) (X : Nat → Prop) (pre : List α) (x : α) (a' : Act) (W : World), x ∈ L → pre.length < L.length → I X pre W → Ax x a' W X → body.wpIn (Fence.wide.inRound l) (n - 1 - 1) P (fun e _ W' => e = .normal ∧ I X (pre ++ [x]) W' ∧ W.heap.size ≤ W'.heap.size ∧ ∀ q, X q → W'.heap[q]? = W.heap[q]?) a' W)
    (hdone : ∀ (D : Nat) (xs : List α) (W : World), w.heap.size ≤ D → S xs → I (fun q => q = D) xs W → W.heap[D]? = some (.deferred (some [])) → Q .normal { a with defers := { target := .collected D, args := #[] } :: a.defers } W) :
    (Code.rangeFunc g ps assign body).wpIn Fence.wide n P Q a w := by
  refine wpIn_rangeFunc fun fn hfn => ?_
  let rc : LoopState → Loop := fun st => { state := st, pending := none, fn, tmps := a.tmps, params := ps, assign, body, defers := w.heap.size }
  obtain ⟨W1, hW1⟩ : ∃ W1, (w.alloc (.deferred (some []))).alloc (.loop (rc .ready)) = W1 := ⟨_, rfl⟩
  have hs1 : W1.heap.size = w.heap.size + 2 := by rw [← hW1]; simp
  have hT1 : Touch (fun _ => False) w W1 := by rw [← hW1]; exact ((Touch.refl _ _).alloc _).alloc _
  have hl1 : W1.heap[w.heap.size + 1]? = some (.loop (rc .ready)) := by
    have := World.alloc_heap_new (w.alloc (.deferred (some []))) (.loop (rc .ready))
    rw [World.size_alloc] at this
    rw [← hW1]; exact this
  have hd1 : W1.heap[w.heap.size]? = some (.deferred (some [])) := by
    rw [← hW1]; exact (Below.heap_alloc _ _ _ (by simp)).trans (World.alloc_heap_new w _)
  let U : (Nat → Prop) → Nat → Prop := fun X q => X q ∨ q = w.heap.size ∨ q = w.heap.size + 1
  let J : (Nat → Prop) → List α → World → Prop := fun X pre W => I (U X) pre W ∧ W.heap[w.heap.size + 1]? = some (.loop (rc .ready)) ∧ W.heap[w.heap.size]? = some (.deferred (some [])) ∧ ¬ X w.heap.size ∧ ¬ X (w.heap.size + 1)
  have hlt : ∀ {W : World} {q : Nat} {o : Obj}, W.heap[q]? = some o → q < W.heap.size := fun h => (Array.getElem?_eq_some_iff.1 h).1
  have hJ : ∀ X Y pre A B, J X pre A → Touch X A B → (∀ q, Y q → (X q ∨ A.heap.size ≤ q) ∧ q < B.heap.size) → J Y pre B := fun X Y pre A B hJ hT hY => by
    obtain ⟨j1, j2, j3, j4, j5⟩ := hJ
    have l2 := hlt j2
    have l3 := hlt j3
    have hsz := hT.size
    refine ⟨hI (U X) (U Y) pre A B j1 (hT.mono fun q _ h => Or.inl h) fun q hq => ?_, (hT.block _ l2 j5).trans j2, (hT.block _ l3 j4).trans j3, fun c => ?_, fun c => ?_⟩
    · rcases hq with hq | rfl | rfl
      · obtain ⟨c, d⟩ := hY q hq
        exact ⟨c.imp Or.inl id, d⟩
      · exact ⟨Or.inl (Or.inr (Or.inl rfl)), by omega⟩
      · exact ⟨Or.inl (Or.inr (Or.inr rfl)), by omega⟩
    · rcases (hY _ c).1 with d | d
      · exact j4 d
      · omega
    · rcases (hY _ c).1 with d | d
      · exact j5 d
      · omega
  have hb1 : Below w0.heap.size w0 W1 := by
    rw [← hW1]; exact hb0.trans ((((Below.refl _ w).alloc (Nat.le_refl _) _).alloc (by simp) _).mono hb0.size)
  have hJ0 : J (fun _ => False) [] W1 := ⟨hI _ _ [] w W1 h0 hT1 (fun q hq => by
    rcases hq with hq | rfl | rfl
    · exact hq.elim
    · exact ⟨Or.inr (Nat.le_refl _), by omega⟩
    · exact ⟨Or.inr (Nat.le_succ _), by omega⟩), hl1, hd1, id, id⟩
  refine ⟨w.heap.size + 1, [{ target := .collected w.heap.size, args := #[] }], W1, { target := .fn (.func gf) lb, args := #[.func (.yield (w.heap.size + 1)) #[] #[]] }, W1, gf, #[.func (.yield (w.heap.size + 1)) #[] #[]] ++ lb, W1, ?_, ?_, fun _ _ => trivial, ?_, fun _ => h1, ?_⟩
  · rw [← hW1]; exact run_enterLoop_outer _ _ _ _ _
  · simp only [resolve, hg]
    simp [go_sem]
  · simp [invoke, go_sem, eg]
  refine (hseq (w.heap.size + 1) J W1 hb1 hJ (fun X pre x A hA hx hlen => ?_) hJ0).mono ?_
  · obtain ⟨j1, j2, j3, j4, j5⟩ := hA
    refine ⟨fn, _, assign, body, run_yield j2 (hps x), roundIn_of_wpIn hfn (hassign _ (U X) pre x A _ hx hlen j1 fun a' Wa X' hIa hsub hTa hax => ?_)⟩
    have la := (hTa.block _ (hlt j2) id).trans j2
    have da := (hTa.block _ (hlt j3) id).trans j3
    have xl : X' (w.heap.size + 1) := hsub _ (Or.inr (Or.inr rfl))
    have xd : X' w.heap.size := hsub _ (Or.inr (Or.inl rfl))
    refine ⟨_, run_beginRound la rfl, ?_⟩
    have hT5 := touch_put (X := X') Wa (.loop { rc .ready with state := .busy }) xl
    have hI5 := hI X' X' pre Wa _ hIa hT5 fun q hq => ⟨Or.inl hq, by rw [World.putObj_size]; exact hIb _ _ _ hIa q hq⟩
    have l5 : (Wa.putObj (w.heap.size + 1) (.loop { rc .ready with state := .busy })).heap[w.heap.size + 1]? = some (.loop { rc .ready with state := .busy }) := World.putObj_heap_same (hlt la)
    refine wpIn_mono (hbody _ X' pre x a' _ hx hlen hI5 (hAx _ _ _ _ _ _ _ hax la)) ?_
    rintro e a3 W6 ⟨rfl, hI6, hs6, hk6⟩
    have l6 := (hk6 _ xl).trans l5
    refine ⟨_, _, run_endRound none l6, rfl, ⟨hI X' (U X) _ W6 _ hI6 (touch_put W6 _ xl) fun q hq => ⟨Or.inl (hsub q hq), by rw [World.putObj_size]; exact hIb _ _ _ hI6 q (hsub q hq)⟩, World.putObj_heap_same (hlt l6), ?_, j4, j5⟩, ?_, fun q hq => ?_⟩
    · rw [World.putObj_heap_other (by omega), hk6 _ xd, World.putObj_heap_other (by omega)]; exact da
    · rw [World.putObj_size]; rw [World.putObj_size] at hs6; exact Nat.le_trans hTa.size hs6
    · have hql : q ≠ w.heap.size + 1 := fun e => j5 (by rw [← e]; exact hq)
      rw [World.putObj_heap_other hql, hk6 q (hsub q (Or.inl hq)), World.putObj_heap_other hql]
      exact hTa.block q (hIb _ _ _ j1 q (Or.inl hq)) id
  · rintro e W2 ⟨⟨v, rfl⟩, xs, hS, j1, j2, j3, -, -⟩
    refine ⟨none, _, run_endLoop j2 (by simp [rc]), hdone w.heap.size xs _ (Nat.le_refl _) hS (hI _ _ xs W2 _ j1 (touch_put W2 _ (Or.inr (Or.inr rfl))) fun q hq => ?_) ((World.putObj_heap_other (by omega)).trans j3)⟩
    subst hq
    exact ⟨Or.inl (Or.inr (Or.inl rfl)), by rw [World.putObj_size]; exact hlt j3⟩
set_option maxRecDepth 100000 in
theorem inorder_call (w : World) (ao : Option Addr) (m c : Nat) : Calls Tryz.prog 81 #[.slice ao m c] w fun e w' => e = .returned (.func (.func 124) #[] #[bptr w.heap.size]) ∧ w' = w.alloc (.cells #[.slice ao m c] 106) := by
  have hmf : ∀ (fn : Fn) (first cap : Array Value) (w : World), (Instr.makeFunc fn first cap).run Tryz.prog w = .ok (.func fn first cap) w := fun _ _ _ _ => rfl
  go_enter Tryz.func81, Tryz.ntmps81
  go_wp2_with fail
  go_ret
  exact ⟨rfl, rfl⟩
end Go.Proofs.YtiplgdkpnhamaaaGreatDoor

namespace Go.Proofs.YtiplgdkpnhamaaaGreatDoor.Tv
open Go.RowKit
def canD (d : DRep) (u : RTx) : Bool := canF u.rep.toNat u.seq (vecOf u.saw) (vecOf d.vis)
def stepD (d : DRep) (u : RTx) : DRep := if canD d u = true then showD d u else d
def passD (d : DRep) (us : List RTx) : DRep := us.foldl stepD d
theorem passD_snoc (d : DRep) (us : List RTx) (u : RTx) : passD d (us ++ [u]) = stepD (passD d us) u := by simp [passD]
theorem passD_opn (d : DRep) : ∀ us, (passD d us).opn = d.opn := by
  intro us
  induction us using snoc_ind with
  | h0 => rfl
  | h1 us u ih =>
    rw [passD_snoc]
    unfold stepD
    split
    · exact ih
    · exact ih
structure RecI (xq : DX) (b n i : Nat) (d : DRep) (w0 : World) (p0 : Nat → Own) (bR B : Nat) (L : List Wt) (tx : Wt → RTx) (X : Nat → Prop) (pre : List Wt) (W : World) : Prop where
  ex : ∃ p, RepIn xq W p b n i (passD d (pre.map tx)) ∧ QW w0 p0 W p ∧ (∀ q, X q → p q = .other) ∧ p bR = .other ∧ ∀ z, z ∈ L → p z.x.2 = .held 5
  box : Blk W bR [bptr b] 45
  tr : ∀ z, z ∈ L → TrIn W z.x ∧ z.x.2 < B
  mem : ∀ z, z ∈ pre → z ∈ L
  xb : ∀ q, X q → B ≤ q ∧ q < W.heap.size
  lt : bR < B
  w0B : w0.heap.size ≤ B
  BW : B ≤ W.heap.size
section
variable {xq : DX} {b n i : Nat} {d : DRep} {w0 : World} {p0 : Nat → Own} {bR B : Nat} {L : List Wt} {tx : Wt → RTx} {X Y : Nat → Prop} {pre : List Wt} {W W2 : World}
theorem RecI.stable (h : RecI xq b n i d w0 p0 bR B L tx X pre W) (hT : Touch X W W2) (hY : ∀ q, Y q → (X q ∨ W.heap.size ≤ q) ∧ q < W2.heap.size) : RecI xq b n i d w0 p0 bR B L tx Y pre W2 := by
  obtain ⟨p, h1, h2, h3, h4, h5⟩ := h.ex
  have hBW := h.BW
  have h0B := h.w0B
  have hlow : ∀ q, q < B → W2.heap[q]? = W.heap[q]? := fun q hq => hT.block q (by omega) fun c => by have := (h.xb q c).1; omega
  refine ⟨⟨own2q p W.heap.size others, h1.move fun q hq hne => ⟨hT.block q hq fun c => hne (h3 q c), own2q_low hq⟩, ⟨?_, fun q hq e => ?_⟩, fun q hq => ?_, ?_, fun z hz => ?_⟩, h.box.move (hlow _ h.lt), fun z hz => ⟨MapIn.move (h.tr z hz).1 (hlow _ (h.tr z hz).2), (h.tr z hz).2⟩, h.mem, fun q hq => ⟨?_, (hY q hq).2⟩, h.lt, h0B, Nat.le_trans hBW hT.size⟩
  · exact ⟨hT.os.trans h2.touch.os, hT.tape.trans h2.touch.tape, hT.output.trans h2.touch.output, Nat.le_trans h2.touch.size hT.size, fun q hq hne => (hlow q (by omega)).trans (h2.touch.block q hq hne)⟩
  · rw [own2q_low (by omega)] at e; exact h2.stay q hq e
  · by_cases c : q < W.heap.size
    · rw [own2q_low c]
      rcases (hY q hq).1 with c' | c'
      · exact h3 q c'
      · omega
    · rw [own2q_high (by omega)]
  · rw [own2q_low (by have := h.lt; omega)]; exact h4
  · rw [own2q_low (by have := (h.tr z hz).2; omega)]; exact h5 z hz
  · rcases (hY q hq).1 with c | c
    · exact (h.xb q c).1
    · omega
theorem RecI.no (h : RecI xq b n i d w0 p0 bR B L tx X pre W) {z : Wt} (hz : z ∈ L) (hc : canD (passD d (pre.map tx)) (tx z) = false) (hB : Below W.heap.size W W2) : RecI xq b n i d w0 p0 bR B L tx X (pre ++ [z]) W2 := by
  have a := h.stable (Y := X) (Touch.ofBelow hB) fun q hq => ⟨Or.inl hq, Nat.lt_of_lt_of_le (h.xb q hq).2 hB.size⟩
  obtain ⟨p, h1, h2⟩ := a.ex
  refine ⟨⟨p, ?_, h2⟩, a.box, a.tr, fun y hy => ?_, a.xb, a.lt, a.w0B, a.BW⟩
  · rw [List.map_append, List.map_singleton, passD_snoc]
    unfold stepD
    rw [hc]
    exact h1
  · rw [List.mem_append, List.mem_singleton] at hy
    rcases hy with hy | rfl
    · exact h.mem y hy
    · exact hz
theorem RecI.yes (h : RecI xq b n i d w0 p0 bR B L tx X pre W) {z : Wt} (hz : z ∈ L) (hz5 : (tx z).rep.toNat < 5) (hc : canD (passD d (pre.map tx)) (tx z) = true) {p : Nat → Own} (h2 : QW w0 p0 W p) (h3 : ∀ q, X q → p q = .other) (h4 : p bR = .other) (h5 : ∀ z, z ∈ L → p z.x.2 = .held 5) {p' : Nat → Own} (hs : RepIn xq W2 p' b n i (showD (passD d (pre.map tx)) (tx z))) (hq : QT (fun t => stoTag t ∨ t = .rep ∨ t = .held (tx z).rep.toNat) W p W2 p') :
    RecI xq b n i d w0 p0 bR B L tx X (pre ++ [z]) W2 ∧ ∀ q, X q → W2.heap[q]? = W.heap[q]? := by
  have hBW := h.BW
  have hoth : ∀ q, q < W.heap.size → p q = .other → W2.heap[q]? = W.heap[q]? := fun q hq' e => hq.touch.block q hq' (by rw [e]; rintro (c | c | c); exact c; cases c; cases c)
  have hn : QT notOther W p W2 p' := hq.mono fun u hu => by
    rcases hu with hu | hu | hu
    · exact sto_not hu
    · rw [hu]; simp [notOther]
    · rw [hu]; simp [notOther]
  refine ⟨⟨⟨p', ?_, h2.trans (QT.qw hn), fun q c => (hq.same q (h.xb q c).2).trans (h3 q c), (hq.same _ (by have := h.lt; omega)).trans h4, fun y hy => (hq.same _ (by have := (h.tr y hy).2; omega)).trans (h5 y hy)⟩, h.box.move (hoth _ (by have := h.lt; omega) h4), fun y hy => ⟨?_, (h.tr y hy).2⟩, fun y hy => ?_, fun q c => ⟨(h.xb q c).1, Nat.lt_of_lt_of_le (h.xb q c).2 hq.size⟩, h.lt, h.w0B, Nat.le_trans hBW hq.size⟩, fun q c => hoth q (h.xb q c).2 (h3 q c)⟩
  · rw [List.map_append, List.map_singleton, passD_snoc]
    unfold stepD
    rw [hc]
    exact hs
  · exact MapIn.movet (h.tr y hy).1 hq (by rw [h5 y hy]; rintro (c | c | c); exact c; cases c; injection c with c; omega)
  · rw [List.mem_append, List.mem_singleton] at hy
    rcases hy with hy | rfl
    · exact h.mem y hy
    · exact hz
end
end Go.Proofs.YtiplgdkpnhamaaaGreatDoor.Tv

namespace Go.Proofs.YtiplgdkpnhamaaaGreatDoor
open Go.RowKit Go.Sort
set_option maxRecDepth 100000 in
set_option maxHeartbeats 2000000 in
theorem search_cov (w : World) (Bv Bl : Nat) (n : Nat) (pr : Nat → Bool) (hn : n ≤ 100000000) (hf : ∀ W i, Below w.heap.size w W → i < n → Calls Tryz.prog 168 #[.int .i64 i, bptr Bv, bptr Bl] W fun e w' => e = .returned (.bool (pr i)) ∧ Below W.heap.size W w') (k : Nat) (hk : k ≤ n) (hlo : ∀ i, i < k → pr i = false) (hhi : ∀ i, k ≤ i → i < n → pr i = true) :
    Calls Tryz.prog 167 #[.int .i64 n, .func (.func 168) #[] #[bptr Bv, bptr Bl]] w fun e w' => e = .returned (.int .i64 k) ∧ Below w.heap.size w w' := by
  have HF := hide hf
  have HK := hide (⟨hk, hlo, hhi⟩ : _ ∧ _ ∧ _)
  clear hf hk hlo hhi
  go_enter Tryz.func167, Tryz.ntmps167
  go_wp2
  go_loopw [5, 6] (fun lv hv wr => ∃ lo hi : Nat, lo ≤ hi ∧ hi ≤ n ∧ lv = .int .i64 lo ∧ hv = .int .i64 hi ∧ Hid (lo ≤ k ∧ k ≤ hi ∧ Below w.heap.size w wr)) (fun lv hv _ => (intOf hv).toNat - (intOf lv).toNat)
  case atStart => exact ⟨0, n, Nat.zero_le _, Nat.le_refl _, rfl, rfl, Nat.zero_le _, HK.out.1, Below.refl _ _⟩
  case round =>
    obtain ⟨lo, hi, hlh, hhn, rfl, rfl, HR⟩ := hrel
    by_cases hlt : lo < hi
    · obtain ⟨m, hm⟩ : ∃ m, (lo + hi) / 2 = m := ⟨_, rfl⟩
      have hm1 : lo ≤ m := by omega
      have hm2 : m < hi := by omega
      go_upto_region 3 with (fail)
      go_cut [7] (fun mv wc => mv = .int .i64 m ∧ wc = wr)
      case first =>
        go_wp2_with fail
        go_meet
        exact ⟨congrArg _ (by omega), rfl⟩
      case rest =>
        obtain ⟨rfl, rfl⟩ := hcut
        have hc := HF.out wc m HR.out.2.2 (by omega)
        cases hp : pr m with
        | false =>
          rw [hp] at hc
          have HC := hide hc
          have HP := hide hp
          clear hc hp hm
          go_wp2_with (go_at_call 168; refine HC.out.mono ?_; rintro e w1 ⟨rfl, hB1⟩; have HB1 := hide hB1; clear hB1)
          refine ⟨⟨m + 1, hi, by omega, hhn, by simp, rfl, ?_, HR.out.2.1, HR.out.2.2.trans (HB1.out.mono HR.out.2.2.size)⟩, by simp only [intOf]; omega⟩
          by_cases c : m + 1 ≤ k
          · exact c
          · have := HK.out.2.2 m (by omega) (by omega); rw [HP.out] at this; cases this
        | true =>
          rw [hp] at hc
          have HC := hide hc
          have HP := hide hp
          clear hc hp hm
          go_wp2_with (go_at_call 168; refine HC.out.mono ?_; rintro e w1 ⟨rfl, hB1⟩; have HB1 := hide hB1; clear hB1)
          refine ⟨⟨lo, m, hm1, by omega, rfl, rfl, HR.out.1, ?_, HR.out.2.2.trans (HB1.out.mono HR.out.2.2.size)⟩, by simp only [intOf]; omega⟩
          by_cases c : k ≤ m
          · exact c
          · have := HK.out.2.1 m (by omega); rw [HP.out] at this; cases this
    · have he : lo = k := by have := HR.out.1; have := HR.out.2.1; omega
      subst he
      go_wp2_with fail
      go_ret
      exact ⟨rfl, HR.out.2.2⟩
set_option maxRecDepth 100000 in
set_option maxHeartbeats 2000000 in
theorem covers_at (w : World) (Bv Bl base : Nat) (v : Vec) (ys : List (Tr × Nat)) (lv : Value) (bv : Blk w Bv v.cells 104) (bl : Blk w Bl [lv] 106) (hrow : w.ownsRow base 139 8 lv ys.length (ys.flatMap trCells)) (hl : ys.length ≤ 100000000) (i : Nat) (hi : i < ys.length) (h5 : ys[i].1.rep < 5) :
    Calls Tryz.prog 168 #[.int .i64 i, bptr Bv, bptr Bl] w fun e w' => e = .returned (.bool (!v.covers ys[i].1.dot)) ∧ Below w.heap.size w w' := by
  obtain ⟨g, cap, rfl, -, -, hg, hc, -⟩ := Row.pos (ownsRow_low hrow (Nat.zero_le _)) (by omega)
  have cx := fun (j : Nat) (hj : j < 8) => (hc (i * 8 + j) (by omega)).trans (flat_get trCells 8 (fun _ => rfl) _ i j hi hj)
  have y0 := Bel.cell (show w.cell? ⟨g, i * 8, none⟩ = some (.int .i64 ys[i].1.rep) from cx 0 (by omega))
  have y1 := Bel.cell (show w.cell? ⟨g, i * 8 + 1, none⟩ = some (.int .i64 ys[i].1.seq) from cx 1 (by omega))
  have z0 := Bel.cell (show w.cell? ⟨Bv, 0, none⟩ = some (.int .i64 v.a) from bv.cell 0)
  have z1 := Bel.cell (show w.cell? ⟨Bv, 1, none⟩ = some (.int .i64 v.b) from bv.cell 1)
  have z2 := Bel.cell (show w.cell? ⟨Bv, 2, none⟩ = some (.int .i64 v.c) from bv.cell 2)
  have z3 := Bel.cell (show w.cell? ⟨Bv, 3, none⟩ = some (.int .i64 v.d) from bv.cell 3)
  have z4 := Bel.cell (show w.cell? ⟨Bv, 4, none⟩ = some (.int .i64 v.e) from bv.cell 4)
  have l0 := Bel.cell (show w.cell? ⟨Bl, 0, none⟩ = some (.slice (some ⟨g, 0, none⟩) ys.length cap) from bl.cell 0)
  have hcv : ∀ f : Fam (Bel w), Calls Tryz.prog 169 #[v.val, .agg #[.int .i64 ys[i].1.rep, .int .i64 ys[i].1.seq]] f.w fun e w'' => e = .returned (.bool (v.covers ys[i].1.dot)) ∧ ∃ g : Fam (Bel w), w'' = g.w := fun f => Bel.call f (covers_any f.w v ys[i].1.dot (by show (0 : Int) ≤ (ys[i].1.rep : Nat); omega) (by show ((ys[i].1.rep : Nat) : Int) < 5; omega))
  generalize v.covers ys[i].1.dot = cv at *
  generalize ys[i].1.rep = r at *
  generalize ys[i].1.seq = s at *
  have HCV := hide hcv
  obtain ⟨n, hn⟩ : ∃ n, ys.length = n := ⟨_, rfl⟩
  rw [hn] at l0
  have hi' : i < n := by omega
  have hl' : n ≤ 100000000 := by omega
  clear hcv cx hc bv bl hrow hi hl hn
  go_enter Tryz.func168, Tryz.ntmps168
  go_upto_region 1 with (fail)
  refine region_fam (Bel w) (by kernel_rfl) (by kernel_rfl) (Below.refl _ _).drew ?_
  repeat (go_big_quiet_step (first | (go_at_call 169; exact HCV.out _)))
  refine wpQuiet_nil ?_
  intro _ hw'
  obtain ⟨f1, rfl⟩ := hw'
  go_wp2_with fail
  go_ret
  exact ⟨rfl, f1.ok⟩
set_option maxRecDepth 100000 in
set_option maxHeartbeats 2000000 in
theorem covered_any (w : World) (base : Nat) (v : Vec) (ys : List (Tr × Nat)) (lv : Value) (hrow : w.ownsRow base 139 8 lv ys.length (ys.flatMap trCells)) (hl : ys.length ≤ 100000000) (h5 : ∀ y, y ∈ ys → y.1.rep < 5) (k : Nat) (hk : k ≤ ys.length) (hlo : ∀ i (hi : i < ys.length), i < k → v.covers ys[i].1.dot = true) (hhi : ∀ i (hi : i < ys.length), k ≤ i → v.covers ys[i].1.dot = false) :
    Calls Tryz.prog 121 #[lv, v.val] w fun e w' => e = .returned (.int .i64 k) ∧ Below w.heap.size w w' := by
  have hmf : ∀ (fn : Fn) (first cap : Array Value) (w : World), (Instr.makeFunc fn first cap).run Tryz.prog w = .ok (.func fn first cap) w := fun _ _ _ _ => rfl
  obtain ⟨ao, cap, rfl, -⟩ := Row.shape (ownsRow_low hrow (Nat.zero_le _))
  generalize hW1 : (w.alloc (.cells #[.slice ao ys.length cap] 106)).alloc (.cells #[.int .i64 v.a, .int .i64 v.b, .int .i64 v.c, .int .i64 v.d, .int .i64 v.e] 104) = W1
  have hB1 : Below w.heap.size w W1 := by rw [← hW1]; exact ((Below.refl _ _).alloc (Nat.le_refl _) _).alloc (by simp) _
  have bl : Blk W1 w.heap.size [.slice ao ys.length cap] 106 := by rw [← hW1]; exact Blk.alloc (heap_alloc_new w _) _
  have bv : Blk W1 (w.heap.size + 1) v.cells 104 := by
    rw [← hW1, show w.heap.size + 1 = (w.alloc (.cells #[.slice ao ys.length cap] 106)).heap.size by simp]; exact heap_alloc_new _ _
  have hr1 := ownsRow_below hrow hB1
  have hs := search_cov W1 (w.heap.size + 1) w.heap.size ys.length (fun i => if h : i < ys.length then !v.covers ys[i].1.dot else true) hl (fun W i hB hi => by
    have a := covers_at W (w.heap.size + 1) w.heap.size base v ys _ (bv.below hB) (bl.below hB) (ownsRow_below hr1 hB) hl i hi (h5 _ (List.getElem_mem hi))
    simp only [hi, dif_pos]
    exact a) k hk (fun i hi => by
    have h2 : i < ys.length := by omega
    simp only [h2, dif_pos, hlo i h2 hi, Bool.not_true]) (fun i h1 h2 => by simp only [h2, dif_pos, hhi i h2 h1, Bool.not_false])
  have l0 : W1.cell? ⟨w.heap.size, 0, none⟩ = some (.slice ao ys.length cap) := bl.cell 0
  have hl0 := bl.lt
  have HS := hide hs
  have HB1 := hide hB1
  have HW1 := hide hW1
  clear hs hB1 hW1 bl bv hr1 hrow hlo hhi hk h5
  go_enter Tryz.func121, Tryz.ntmps121
  go_upto_region 1 with (fail)
  rw [HW1.out]
  go_wp2_with (go_at_call 167; refine HS.out.mono ?_; rintro e w2 ⟨rfl, hB2⟩; have HB2 := hide hB2; clear hB2)
  go_ret
  exact ⟨rfl, HB1.out.trans (HB2.out.mono HB1.out.size)⟩
end Go.Proofs.YtiplgdkpnhamaaaGreatDoor

namespace Go.Proofs.YtiplgdkpnhamaaaGreatDoor
open Go.RowKit Go.Sort
theorem join_get (v o : Vec) {k : Nat} (hk : k < 5) : (v.join o).get k = max (v.get k) (o.get k) := by
  have : k = 0 ∨ k = 1 ∨ k = 2 ∨ k = 3 ∨ k = 4 := by omega
  rcases this with rfl | rfl | rfl | rfl | rfl <;> rfl
theorem count_lt {v w : Vec} (h : ∀ k : Nat, k < 5 → v.get k ≤ w.get k) {r : Nat} (hr : r < 5) (hs : v.get r < w.get r) : v.count < w.count := by
  have h0 : v.a ≤ w.a := h 0 (by omega)
  have h1 : v.b ≤ w.b := h 1 (by omega)
  have h2 : v.c ≤ w.c := h 2 (by omega)
  have h3 : v.d ≤ w.d := h 3 (by omega)
  have h4 : v.e ≤ w.e := h 4 (by omega)
  unfold Vec.count
  have : r = 0 ∨ r = 1 ∨ r = 2 ∨ r = 3 ∨ r = 4 := by omega
  rcases this with rfl | rfl | rfl | rfl | rfl
  · have : v.a < w.a := hs; omega
  · have : v.b < w.b := hs; omega
  · have : v.c < w.c := hs; omega
  · have : v.d < w.d := hs; omega
  · have : v.e < w.e := hs; omega
structure UpL (l : List Tr) : Prop where
  ok : ∀ t, t ∈ l → t.rep < 5 ∧ 1 ≤ t.seq ∧ t.saw.get t.rep ≤ t.seq - 1
  up : l.Pairwise fun a b => a.rep = b.rep → a.seq < b.seq
theorem need_get {lat : Nat → Vec} {t : Tr} (ht : t.rep < 5) {k : Nat} (hk : k < 5) : (needOf lat t).get k = if k = t.rep then t.seq - 1 else max ((lat t.rep).get k) (t.saw.get k) := by
  unfold needOf
  rw [vec_put_get _ ht, join_get _ _ hk]
theorem lat_at {l : List Tr} {j : Nat} (hj : j < l.length) (lat : Nat → Vec) : latFold lat (l.take (j + 1)) = latUpd (latFold lat (l.take j)) l[j].rep (needOf (latFold lat (l.take j)) l[j]) := by
  rw [List.take_succ_eq_append_getElem hj, latFold_snoc]
theorem UpL.lt {l : List Tr} (h : UpL l) {i j : Nat} (hi : i < j) (hj : j < l.length) (e : l[i].rep = l[j].rep) : l[i].seq < l[j].seq := List.pairwise_iff_getElem.1 h.up i j (by omega) hj hi e
theorem UpL.own {l : List Tr} (_ : UpL l) (r : Nat) {s : Int} (hs : 1 ≤ s) : ∀ j, j ≤ l.length → (∀ i (hi : i < l.length), i < j → l[i].rep = r → l[i].seq < s) → r < 5 → (latFold noLat (l.take j) r).get r ≤ s - 1 := by
  intro j
  induction j with
  | zero =>
    intro _ _ hr
    have : (noVec.get r) = 0 := by
      have : r = 0 ∨ r = 1 ∨ r = 2 ∨ r = 3 ∨ r = 4 := by omega
      rcases this with rfl | rfl | rfl | rfl | rfl <;> rfl
    show (noVec.get r) ≤ _
    omega
  | succ j ih =>
    intro hj hb hr
    have hjl : j < l.length := by omega
    rw [lat_at hjl]
    unfold latUpd
    split
    · rename_i c
      subst c
      rw [need_get hr hr, if_pos rfl]
      have := hb j hjl (by omega) rfl
      omega
    · exact ih (by omega) (fun i hi hij => hb i hi (by omega)) hr
theorem UpL.step {l : List Tr} (h : UpL l) {j : Nat} (hj : j < l.length) (r : Nat) {k : Nat} (hk : k < 5) : (latFold noLat (l.take j) r).get k ≤ (latFold noLat (l.take (j + 1)) r).get k := by
  rw [lat_at hj]
  unfold latUpd
  split
  · rename_i c
    subst c
    obtain ⟨h1, h2, h3⟩ := h.ok l[j] (List.getElem_mem hj)
    rw [need_get h1 hk]
    split
    · rename_i c
      subst c
      exact h.own _ h2 j (by omega) (fun i hi hij e => h.lt hij hj e) h1
    · omega
  · exact Int.le_refl _
theorem UpL.mono {l : List Tr} (h : UpL l) (r : Nat) {k : Nat} (hk : k < 5) {i j : Nat} (hij : i ≤ j) (hj : j ≤ l.length) : (latFold noLat (l.take i) r).get k ≤ (latFold noLat (l.take j) r).get k := by
  obtain ⟨m, rfl⟩ := Nat.exists_eq_add_of_le hij
  clear hij
  induction m with
  | zero => exact Int.le_refl _
  | succ m ih => exact Int.le_trans (ih (by omega)) (h.step (j := i + m) (by omega) r hk)
def needAt (l : List Tr) (j : Nat) (hj : j < l.length) : Vec := needOf (latFold noLat (l.take j)) l[j]
theorem needAt_eq {l : List Tr} {j : Nat} (hj : j < l.length) : needAt l j hj = latFold noLat (l.take (j + 1)) l[j].rep := by
  rw [lat_at hj]; unfold latUpd; rw [if_pos rfl]; rfl
theorem needs_get : ∀ (l : List Tr) (lat : Nat → Vec) (j : Nat) (hj : j < l.length), (needsFrom lat l)[j]? = some (needOf (latFold lat (l.take j)) l[j])
  | [], _, _, hj => by simp at hj
  | a :: l, lat, 0, _ => rfl
  | a :: l, lat, j + 1, hj => by
    have := needs_get l (latUpd lat a.rep (needOf lat a)) j (by simpa using hj)
    simpa [needsFrom, latFold] using this
theorem UpL.needMono {l : List Tr} (h : UpL l) {i j : Nat} (hi : i < l.length) (hj : j < l.length) (hij : i ≤ j) (e : l[i].rep = l[j].rep) {k : Nat} (hk : k < 5) : (needAt l i hi).get k ≤ (needAt l j hj).get k := by
  rw [needAt_eq, needAt_eq, e]
  exact h.mono _ hk (by omega) (by omega)
theorem UpL.sawNeed {l : List Tr} (h : UpL l) {j : Nat} (hj : j < l.length) {k : Nat} (hk : k < 5) : l[j].saw.get k ≤ (needAt l j hj).get k := by
  obtain ⟨h1, h2, h3⟩ := h.ok l[j] (List.getElem_mem hj)
  unfold needAt
  rw [need_get h1 hk]
  split
  · rename_i c; subst c; exact h3
  · omega
theorem UpL.ownNeed {l : List Tr} (h : UpL l) {j : Nat} (hj : j < l.length) : (needAt l j hj).get l[j].rep = l[j].seq - 1 := by
  obtain ⟨h1, h2, h3⟩ := h.ok l[j] (List.getElem_mem hj)
  unfold needAt
  rw [need_get h1 h1, if_pos rfl]
theorem needMap_mem : ∀ {l : List (Dot × Vec)}, (l.map Prod.fst).Nodup → ∀ {d : Dot} {v : Vec}, (d, v) ∈ l → needMap l d = some v
  | [], _, _, _, h => by simp at h
  | x :: l, hn, d, v, h => by
    rw [List.map_cons, List.nodup_cons] at hn
    show (needMap l d).or _ = _
    rcases List.mem_cons.1 h with e | h
    · subst e
      have hno : needMap l d = none := by
        have : ∀ (m : List (Dot × Vec)), d ∉ m.map Prod.fst → needMap m d = none := by
          intro m
          induction m with
          | nil => intro _; rfl
          | cons y m ih =>
            intro hd
            rw [List.map_cons, List.mem_cons] at hd
            show (needMap m d).or _ = none
            rw [ih (fun c => hd (Or.inr c)), if_neg (fun c => hd (Or.inl c))]; rfl
        exact this l hn.1
      rw [hno]; simp
    · rw [needMap_mem hn.2 h]; rfl
theorem UpL.nodup {l : List Tr} (h : UpL l) : (l.map Tr.dot).Nodup := by
  rw [List.Nodup, List.pairwise_map]
  refine h.up.imp fun {a b} hab e => ?_
  have e1 : (a.rep : Int) = b.rep := congrArg Dot.rep e
  have e2 : a.seq = b.seq := congrArg Dot.seq e
  have := hab (by omega)
  omega
theorem UpL.needOfDot {l : List Tr} (h : UpL l) {j : Nat} (hj : j < l.length) : needMap (dotNeeds l) l[j].dot = some (needAt l j hj) := by
  have hlen : (needsOf l).length = l.length := needs_length l noLat
  refine needMap_mem (l := dotNeeds l) ?_ ?_
  · unfold dotNeeds
    rw [List.map_fst_zip (by simp [hlen])]
    exact h.nodup
  · unfold dotNeeds
    rw [List.mem_iff_getElem?]
    refine ⟨j, ?_⟩
    rw [List.getElem?_zip_eq_some]
    exact ⟨by simp [hj], needs_get l noLat j hj⟩
theorem UpL.less {l : List Tr} (h : UpL l) (hs : SawOk l) (hfull : ∀ a, a ∈ l → ∀ b, b ∈ l → b.seq ≤ a.saw.get b.rep → ∃ c, c ∈ l ∧ c.rep = b.rep ∧ c.seq = a.saw.get b.rep) {i j : Nat} (hi : i < l.length) (hj : j < l.length) (hw : (l[j].rep = l[i].rep ∧ l[j].seq < l[i].seq) ∨ l[j].seq ≤ l[i].saw.get l[j].rep) : (needAt l j hj).count < (needAt l i hi).count := by
  obtain ⟨i1, i2, i3⟩ := h.ok l[i] (List.getElem_mem hi)
  obtain ⟨j1, j2, j3⟩ := h.ok l[j] (List.getElem_mem hj)
  have case1 : l[j].rep = l[i].rep → l[j].seq < l[i].seq → (needAt l j hj).count < (needAt l i hi).count := fun e hlt => by
    have hji : j < i := by
      by_cases c : j < i
      · exact c
      · by_cases c2 : i = j
        · subst c2; omega
        · have := h.lt (show i < j by omega) hj e.symm; omega
    refine count_lt (fun k hk => h.needMono hj hi (by omega) e hk) j1 ?_
    rw [h.ownNeed hj, e, h.ownNeed hi]; omega
  rcases hw with ⟨e, hlt⟩ | hw
  · exact case1 e hlt
  · by_cases e : l[j].rep = l[i].rep
    · exact case1 e (by rw [e] at hw; omega)
    · obtain ⟨c, hc, e1, e2⟩ := hfull _ (List.getElem_mem hi) _ (List.getElem_mem hj) hw
      obtain ⟨m, hm, rfl⟩ := List.mem_iff_getElem.1 hc
      have hk := (incl_iff _ _).1 (hs _ (List.getElem_mem hi) l[j].rep j1)
      have hd : (⟨(l[j].rep : Nat), l[i].saw.get l[j].rep⟩ : Dot) = l[m].dot := by
        show _ = (⟨(l[m].rep : Nat), l[m].seq⟩ : Dot)
        rw [e1, e2]
      rw [hd, h.needOfDot hm] at hk
      have hjm : j ≤ m := by
        by_cases c : j ≤ m
        · exact c
        · have := h.lt (show m < j by omega) hj e1; omega
      have le : ∀ k : Nat, k < 5 → (needAt l j hj).get k ≤ (needAt l i hi).get k := fun k hk5 =>
        Int.le_trans (h.needMono hj hm hjm e1.symm hk5) (Int.le_trans (hk k hk5) (h.sawNeed hi hk5))
      refine count_lt le j1 ?_
      rw [h.ownNeed hj]
      have := h.sawNeed hi j1
      omega
end Go.Proofs.YtiplgdkpnhamaaaGreatDoor
