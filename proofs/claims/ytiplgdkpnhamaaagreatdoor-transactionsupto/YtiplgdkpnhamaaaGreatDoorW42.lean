/- The texts K5, K9, K11, K12, joined. -/
import Derived.Test.YtiplgdkpnhamaaaGreatDoorW30
import Derived.Test.YtiplgdkpnhamaaaGreatDoorW34
import Derived.Test.YtiplgdkpnhamaaaGreatDoorW33
import Derived.Test.YtiplgdkpnhamaaaGreatDoorW36
import Derived.Deep.RegionHeld3

/- The program's Replica.Read. -/
namespace Go.Proofs.YtiplgdkpnhamaaaGreatDoor
open Go.RowKit

/-- What a transaction's snapshot is, for its reading. -/
theorem RepP.snapIn {w : World} {p : Nat → Own} {b n i k : Nat} {d : DRep} {sb : Nat} {st : St} {sl tbs mbs : Nat → Nat} {hv kn : List Value} {t : RTx} (h : RepP w p b n i d sb st sl tbs mbs hv kn) (hR : d.hs.length ≤ 1100000) (ht : d.opn k = some t) :
    (∃ kept, SnapIn w p sb (48 * d.hs.length) (sl k) st (vecOf t.saw) kept) ∧ OpenTx w (tbs k) (sl k) (mbs k) t.ops.length (t.ops.length : Nat) (ownOf t.ops) ∧ TxOk n i d.hs.length t ∧ ∃ s, s ∈ st.snaps ∧ s.saw = vecOf t.saw := by
  obtain ⟨hto, s, hs, hb, hsaw⟩ := h.ok.opn k t ht
  have hT := h.tx k t ht
  refine ⟨?_, ⟨hT.blk.blk, hT.own⟩, hto, s, hs, hsaw⟩
  obtain ⟨vb, cb, eb, ov, cv, ev, kv, hst⟩ := h.sto
  refine ⟨kv s.blk, ⟨vb, cb, eb, ov, cv, ev, kv, hst⟩, ?_, h.ok.ginv.wf, fun q => Nat.le_trans (h.ok.came_len q) (by omega)⟩
  have a := (hst.snap s hs).blk
  rw [hsaw, hb] at a
  rw [hb]
  exact a
theorem wr_amount {m : Place → Option Wr} {q : Place} (h : ∀ x, m q = some x → x.kind = 0) : (wrAt m q).amount = amt (m q) := by
  unfold wrAt amt
  cases e : m q with
  | none => rfl
  | some x => simp [h x e]

set_option maxRecDepth 100000 in
set_option maxHeartbeats 4000000 in
theorem read_call {w : World} {p : Nat → Own} {b n i : Nat} {d : DRep} (h : RepIn w p b n i d) (hR : d.hs.length ≤ 1100000) (tx : Int) (key : ByteArray) (hks : key.size ≤ maxLen) :
    Calls Tryz.prog 33 #[bptr b, .int .i64 tx, .string key] w fun e w' => ∃ lv, e = .returned (valAgg (readAns (opnAt d tx) key d.hs n).1 lv (readAns (opnAt d tx) key d.hs n).2.2) ∧
      w'.ownsRow w.heap.size 9 1 lv (readAns (opnAt d tx) key d.hs n).2.1.length (strs (readAns (opnAt d tx) key d.hs n).2.1) ∧ Below w.heap.size w w' := by
  obtain ⟨sb, st, sl, tbs, mbs, hv, kn, h⟩ := h
  have hth := fun W => thing_any key W hks
  have HTH := hide hth
  clear hth
  generalize hW0 : w.alloc (.cells #[.int .i64 0, .slice none 0 0] 66) = W0
  have hB0 : Below w.heap.size w W0 := by rw [← hW0]; exact (Below.refl _ _).alloc (Nat.le_refl _) _
  have hz0 : W0.heap.size = w.heap.size + 1 := by rw [← hW0]; simp
  have bv : Blk W0 w.heap.size [.int .i64 0, .slice none 0 0] 66 := by rw [← hW0]; exact heap_alloc_new w _
  have h0 := h.below hB0
  clear h
  cases ho : opnAt d tx with
  | none =>
    have HF := hide (h0.find_none ho)
    have ea : readAns none key d.hs n = (0, [], 4) := rfl
    rw [ea]
    have HW0 := hide hW0
    have HB := hide (⟨hB0, bv⟩ : _ ∧ _)
    have v0 : W0.cell? ⟨w.heap.size, 0, none⟩ = some (.int .i64 0) := bv.cell 0
    have v1 : W0.cell? ⟨w.heap.size, 1, none⟩ = some (.slice none 0 0) := bv.cell 1
    have f0 : W0.frozen? ⟨w.heap.size, 0, none⟩ = false := bv.frozen 0
    have f1 : W0.frozen? ⟨w.heap.size, 1, none⟩ = false := bv.frozen 1
    have hl : w.heap.size < W0.heap.size := bv.lt
    clear h0 ho ea hW0 hB0 bv hz0
    go_enter Tryz.func33, Tryz.ntmps33
    go_upto_region 1 with (fail)
    rw [HW0.out]
    go_wp2_with (go_at_call 60; refine HF.out.mono ?_; rintro e w1 ⟨rfl, rfl⟩)
    refine bodyPost_ret (v := valAgg 0 (.slice none 0 0) 4) (by simp [results, Tryz.results33, go_sem, v0, v1]) rfl ⟨_, rfl, by simpa [strs] using World.ownsRow_nil _ _ _ _, (HB.out.1.setCell (Nat.le_refl _) _).setCell (Nat.le_refl _) _⟩
  | some t =>
    obtain ⟨k, rfl, hk, hok, hf⟩ := h0.find_some ho
    obtain ⟨⟨kept, hS⟩, hT, hto, s, hs, hsaw⟩ := h0.snapIn hR hok
    have HF := hide hf
    have HW0 := hide hW0
    have HB := hide (⟨hB0, bv⟩ : _ ∧ _)
    have v0 : W0.cell? ⟨w.heap.size, 0, none⟩ = some (.int .i64 0) := bv.cell 0
    have v1 : W0.cell? ⟨w.heap.size, 1, none⟩ = some (.slice none 0 0) := bv.cell 1
    have f0 : W0.frozen? ⟨w.heap.size, 0, none⟩ = false := bv.frozen 0
    have f1 : W0.frozen? ⟨w.heap.size, 1, none⟩ = false := bv.frozen 1
    have hl : w.heap.size < W0.heap.size := bv.lt
    have hops : ∀ o, o ∈ t.ops → OpOk o := fun o h => (hto.ops o h).1
    have hRO := h0.ok
    by_cases c1 : kindOf key = 99
    · have ea : readAns (some t) key d.hs n = (wrap64 (counterOf t.saw key d.hs + sumOf key t.ops), [], 0) := by unfold readAns; simp only; rw [if_pos c1]
      rw [ea]
      obtain ⟨g1, g2⟩ := own_cnt c1 t.ops hops
      have hc := tsum_any hS hT key hks
      rw [wr_amount g2, g1, show sumTold st.vers ⟨key, noEl⟩ (toldRaw (vecOf t.saw) st ⟨key, noEl⟩) = counterOf t.saw key d.hs from hRO.tellsSum (by omega) hto hs hsaw c1 (List.Perm.refl _)] at hc
      have HC := hide hc
      rw [c1] at HTH
      generalize wrap64 (counterOf t.saw key d.hs + sumOf key t.ops) = res at *
      clear h0 ho ea hW0 hB0 bv hz0 hf hS hT hto hs hsaw hok hc hRO hops g1 g2
      go_enter Tryz.func33, Tryz.ntmps33
      go_upto_region 1 with (fail)
      rw [HW0.out]
      go_wp2_with (first | (go_at_call 60; refine HF.out.mono ?_; rintro e w1 ⟨rfl, rfl⟩) | (go_at_call 61; refine (HTH.out _).mono ?_; rintro e w1 ⟨rfl, rfl⟩))
      refine HC.out.mono ?_
      rintro e w2 ⟨rfl, hB2⟩
      have bv2 := HB.out.2.below hB2
      have r0 : w2.cell? ⟨w.heap.size, 0, none⟩ = some (.int .i64 0) := bv2.cell 0
      have r1 : w2.cell? ⟨w.heap.size, 1, none⟩ = some (.slice none 0 0) := bv2.cell 1
      have rf0 : w2.frozen? ⟨w.heap.size, 0, none⟩ = false := bv2.frozen 0
      have rf1 : w2.frozen? ⟨w.heap.size, 1, none⟩ = false := bv2.frozen 1
      have rl : w.heap.size < w2.heap.size := bv2.lt
      have hBf : Below w.heap.size w w2 := HB.out.1.trans (hB2.mono HB.out.1.size)
      have HBF := hide hBf
      clear v0 v1 f0 f1 hl bv2 hB2 hBf
      go_wp2_with fail
      refine bodyPost_ret (v := valAgg res (.slice none 0 0) 0) (by simp [results, Tryz.results33, go_sem, r0, r1]) rfl ⟨_, rfl, by simpa [strs] using World.ownsRow_nil _ _ _ _, (HBF.out.setCell (Nat.le_refl _) _).setCell (Nat.le_refl _) _⟩
    · by_cases c2 : kindOf key = 114
      · have ea : readAns (some t) key d.hs n = (0, (match lastOf key noEl t.ops with | some o => [o.value] | none => registerOf t.saw key d.hs n), 0) := by unfold readAns; simp only; rw [if_neg c1, if_pos c2]; rfl
        rw [ea]
        obtain ⟨res, hres⟩ : ∃ res, (match lastOf key noEl t.ops with | some o => [o.value] | none => registerOf t.saw key d.hs n) = res := ⟨_, rfl⟩
        have hc : Calls Tryz.prog 69 #[bptr (tbs k), .string key] W0 fun e w' => ∃ v, e = .returned v ∧ w'.ownsRow W0.heap.size 9 1 v res.length (strs res) ∧ Below W0.heap.size W0 w' := by
          have hor := own_reg c2 t.ops hops
          cases hlast : lastOf key noEl t.ops with
          | some o =>
            rw [hlast] at hor hres
            refine (tvalues_own hT key hks hor).mono ?_
            rintro e w' ⟨v, rfl, a1, a2⟩
            refine ⟨v, rfl, ?_, a2⟩
            rw [← hres]; exact a1
          | none =>
            rw [hlast] at hor hres
            refine (tvalues_told hS hT key hks hor).mono ?_
            rintro e w' ⟨v, l, a1, a2, rfl, a3, a4⟩
            refine ⟨v, rfl, ?_, a4⟩
            have e1 : valsTold st.vers ⟨key, noEl⟩ l = registerOf t.saw key d.hs n := hRO.tellsReg (by omega) hto hs hsaw c2 a1 a2
            rw [← hres, ← e1]; exact a3
        rw [hres]
        have HC := hide hc
        rw [c2] at HTH
        clear h0 ho ea hW0 hB0 bv hz0 hf hS hT hto hs hsaw hok hc hRO hops hres
        go_enter Tryz.func33, Tryz.ntmps33
        go_upto_region 1 with (fail)
        rw [HW0.out]
        go_wp2_with (first | (go_at_call 60; refine HF.out.mono ?_; rintro e w1 ⟨rfl, rfl⟩) | (go_at_call 61; refine (HTH.out _).mono ?_; rintro e w1 ⟨rfl, rfl⟩))
        refine HC.out.mono ?_
        rintro e w2 ⟨v, rfl, hown, hB2⟩
        obtain ⟨lo, lcap, hlv, -, -, -⟩ := Row.shape (ownsRow_low hown (Nat.zero_le _))
        subst hlv
        have bv2 := HB.out.2.below hB2
        have r0 : w2.cell? ⟨w.heap.size, 0, none⟩ = some (.int .i64 0) := bv2.cell 0
        have r1 : w2.cell? ⟨w.heap.size, 1, none⟩ = some (.slice none 0 0) := bv2.cell 1
        have rf0 : w2.frozen? ⟨w.heap.size, 0, none⟩ = false := bv2.frozen 0
        have rf1 : w2.frozen? ⟨w.heap.size, 1, none⟩ = false := bv2.frozen 1
        have rl : w.heap.size < w2.heap.size := bv2.lt
        have hBf : Below w.heap.size w w2 := HB.out.1.trans (hB2.mono HB.out.1.size)
        have HBF := hide (⟨hBf, hown⟩ : _ ∧ _)
        clear v0 v1 f0 f1 bv2 hB2 hBf hown
        go_wp2_with fail
        refine bodyPost_ret (v := valAgg 0 (.slice lo res.length lcap) 0) (by simp [results, Tryz.results33, go_sem, r0, r1]) rfl ⟨_, rfl, ?_, (HBF.out.1.setCell (Nat.le_refl _) _).setCell (Nat.le_refl _) _⟩
        exact ownsRow_low (ownsRow_setCell_below (ownsRow_setCell_below HBF.out.2 (a := ⟨w.heap.size, 0, none⟩) hl _) (a := ⟨w.heap.size, 1, none⟩) hl _) (Nat.le_of_lt hl)
      · by_cases c3 : kindOf key = 115
        · have ea : readAns (some t) key d.hs n = (0, readSet key t.ops (setOf t.saw key d.hs), 0) := by unfold readAns; simp only; rw [if_neg c1, if_neg c2, if_pos c3]
          rw [ea]
          have hc : Calls Tryz.prog 70 #[bptr (tbs k), .string key] W0 fun e w' => ∃ v, e = .returned v ∧ w'.ownsRow W0.heap.size 9 1 v (readSet key t.ops (setOf t.saw key d.hs)).length (strs (readSet key t.ops (setOf t.saw key d.hs))) ∧ Below W0.heap.size W0 w' := by
            refine (telements_any hS hT (fun q x hq => (own_kinds t.ops hto.ops x hq).2) key hks (by have := hto.few; omega)).mono ?_
            rintro e w' ⟨v, l, rfl, a1, a2, -, a3, a4⟩
            have e1 : l = readSet key t.ops (setOf t.saw key d.hs) := readSet_eq c3 hops a1 (fun a => by
              rw [a2 a]
              obtain ⟨t1, t2⟩ := hRO.tellsSet (by omega) hto hs hsaw c3 a
              rw [← t1]
              constructor
              · rintro (⟨⟨-, x2⟩, x3⟩ | x)
                · exact Or.inl ⟨x2, x3⟩
                · exact Or.inr x
              · rintro (⟨x2, x3⟩ | x)
                · exact Or.inl ⟨⟨t2 x2, x2⟩, x3⟩
                · exact Or.inr x)
            exact ⟨v, rfl, by rw [← e1]; exact a3, a4⟩
          obtain ⟨res, hres⟩ : ∃ res, readSet key t.ops (setOf t.saw key d.hs) = res := ⟨_, rfl⟩
          rw [hres] at hc
          rw [hres]
          have HC := hide hc
          rw [c3] at HTH
          clear h0 ho ea hW0 hB0 bv hz0 hf hS hT hto hs hsaw hok hc hRO hops hres
          go_enter Tryz.func33, Tryz.ntmps33
          go_upto_region 1 with (fail)
          rw [HW0.out]
          go_wp2_with (first | (go_at_call 60; refine HF.out.mono ?_; rintro e w1 ⟨rfl, rfl⟩) | (go_at_call 61; refine (HTH.out _).mono ?_; rintro e w1 ⟨rfl, rfl⟩))
          refine HC.out.mono ?_
          rintro e w2 ⟨v, rfl, hown, hB2⟩
          obtain ⟨lo, lcap, hlv, -, -, -⟩ := Row.shape (ownsRow_low hown (Nat.zero_le _))
          subst hlv
          have bv2 := HB.out.2.below hB2
          have r0 : w2.cell? ⟨w.heap.size, 0, none⟩ = some (.int .i64 0) := bv2.cell 0
          have r1 : w2.cell? ⟨w.heap.size, 1, none⟩ = some (.slice none 0 0) := bv2.cell 1
          have rf0 : w2.frozen? ⟨w.heap.size, 0, none⟩ = false := bv2.frozen 0
          have rf1 : w2.frozen? ⟨w.heap.size, 1, none⟩ = false := bv2.frozen 1
          have rl : w.heap.size < w2.heap.size := bv2.lt
          have hBf : Below w.heap.size w w2 := HB.out.1.trans (hB2.mono HB.out.1.size)
          have HBF := hide (⟨hBf, hown⟩ : _ ∧ _)
          clear v0 v1 f0 f1 bv2 hB2 hBf hown
          go_wp2_with fail
          refine bodyPost_ret (v := valAgg 0 (.slice lo res.length lcap) 0) (by simp [results, Tryz.results33, go_sem, r0, r1]) rfl ⟨_, rfl, ?_, (HBF.out.1.setCell (Nat.le_refl _) _).setCell (Nat.le_refl _) _⟩
          exact ownsRow_low (ownsRow_setCell_below (ownsRow_setCell_below HBF.out.2 (a := ⟨w.heap.size, 0, none⟩) hl _) (a := ⟨w.heap.size, 1, none⟩) hl _) (Nat.le_of_lt hl)
        · have ea : readAns (some t) key d.hs n = (0, [], 2) := by unfold readAns; simp only; rw [if_neg c1, if_neg c2, if_neg c3]
          rw [ea]
          have e1 : (kindOf key == 99) = false := beq_false_of_ne c1
          have e2 : (kindOf key == 114) = false := beq_false_of_ne c2
          have e3 : (kindOf key == 115) = false := beq_false_of_ne c3
          generalize kindOf key = kk at *
          clear h0 ho ea hW0 hB0 bv hz0 hf hS hT hto hs hsaw hok hRO hops c1 c2 c3
          go_enter Tryz.func33, Tryz.ntmps33
          go_upto_region 1 with (fail)
          rw [HW0.out]
          go_wp2_with (first | (go_at_call 60; refine HF.out.mono ?_; rintro e w1 ⟨rfl, rfl⟩) | (go_at_call 61; refine (HTH.out _).mono ?_; rintro e w1 ⟨rfl, rfl⟩))
          refine bodyPost_ret (v := valAgg 0 (.slice none 0 0) 2) (by simp [results, Tryz.results33, go_sem, v0, v1]) rfl ⟨_, rfl, by simpa [strs] using World.ownsRow_nil _ _ _ _, (HB.out.1.setCell (Nat.le_refl _) _).setCell (Nat.le_refl _) _⟩

end Go.Proofs.YtiplgdkpnhamaaaGreatDoor

/- PApi of the program, but for Commit. -/
namespace Go.Proofs.YtiplgdkpnhamaaaGreatDoor
open Go.RowKit

/-- What is left: Commit, in the inner words. -/
def CommitOk : Prop := ∀ (w : World) (p : Nat → Own) (b n i : Nat) (d : DRep) (tx : Int), RepIn w p b n i d → d.hs.length ≤ 1100000 →
  Calls Tryz.prog 32 #[bptr b, .int .i64 tx] w fun e w' => e = .returned (commitAns i d tx) ∧ ∃ p', RepIn w' p' b n i (commitD i d tx) ∧ QT notOther w p w' p'
theorem papi_of (hC : CommitOk) : PApi PR where
  move h hm := h.move hm
  newNo := new_no
  newOk := new_ok
  begins w o t b n i d h _ := by
    obtain ⟨p, h1, h2⟩ := h
    refine (begin_call h2).mono ?_
    rintro e w' ⟨rfl, p', h3, h4⟩
    exact ⟨rfl, PR.out h1 h3 h4⟩
  add w o t b n i d tx q h _ hk hs := by
    obtain ⟨p, h1, h2⟩ := h
    refine (add_call h2 tx q hk hs).mono ?_
    rintro e w' ⟨rfl, p', h3, h4⟩
    exact ⟨rfl, PR.out h1 h3 h4⟩
  write w o t b n i d tx q h _ hk hs hv := by
    obtain ⟨p, h1, h2⟩ := h
    refine (write_call h2 tx q hk hs hv).mono ?_
    rintro e w' ⟨rfl, p', h3, h4⟩
    exact ⟨rfl, PR.out h1 h3 h4⟩
  insert w o t b n i d tx q h _ hk hs hv := by
    obtain ⟨p, h1, h2⟩ := h
    refine (insert_call h2 tx q hk hs hv).mono ?_
    rintro e w' ⟨rfl, p', h3, h4⟩
    exact ⟨rfl, PR.out h1 h3 h4⟩
  remove w o t b n i d tx q h _ hk hs hv := by
    obtain ⟨p, h1, h2⟩ := h
    refine (remove_call h2 tx q hk hs hv).mono ?_
    rintro e w' ⟨rfl, p', h3, h4⟩
    exact ⟨rfl, PR.out h1 h3 h4⟩
  read w o t tl b n i d tx key h hR _ hs := by
    have hpr := h
    obtain ⟨p, h1, h2⟩ := h
    refine (read_call h2 hR.hist tx key hs).mono ?_
    rintro e w' ⟨lv, rfl, h3, h4⟩
    refine ⟨lv, own2 o w.heap.size fun _ => tl, rfl, hpr.move fun q hq e => ⟨h4.block q hq, (own2_low hq).trans e⟩, ⟨Touch.ofBelow h4, fun q hq => own2_low hq⟩, Pc.new h3 (fun q _ => rfl)⟩
  commit w o t b n i d tx h hR := by
    obtain ⟨p, h1, h2⟩ := h
    refine (hC w p b n i d tx h2 hR.hist).mono ?_
    rintro e w' ⟨rfl, p', h3, h4⟩
    exact ⟨rfl, PR.out h1 h3 h4⟩
  abort w o t b n i d tx h hR := by
    obtain ⟨p, h1, h2⟩ := h
    refine (abort_any h2 hR.hist tx).mono ?_
    rintro e w' ⟨rfl, p', h3, h4⟩
    exact ⟨rfl, PR.out h1 h3 h4⟩
  visible w o t tl b n i d h _ _ := by
    have hpr := h
    obtain ⟨p, h1, h2⟩ := h
    refine (visible_call h2).mono ?_
    rintro e w' ⟨lv, rfl, h3, h4⟩
    refine ⟨lv, own2 o w.heap.size fun _ => tl, rfl, hpr.move fun q hq e => ⟨h4.block q hq, (own2_low hq).trans e⟩, ⟨Touch.ofBelow h4, fun q hq => own2_low hq⟩, Pc.new h3 (fun q _ => rfl)⟩

end Go.Proofs.YtiplgdkpnhamaaaGreatDoor

/- The program's Replica.show. -/
namespace Go.Proofs.YtiplgdkpnhamaaaGreatDoor
open Go.RowKit

theorem repCells_setH {i n : Int} {sb : Nat} {hv kn op : List Value} (h1 : hv.length = 5) (r : Nat) (hr : r < 5) (x : Value) : (repCells i n sb hv kn op).set (3 + r) x = repCells i n sb (hv.set r x) kn op := by
  unfold repCells
  rw [List.set_append_left _ _ (by simp; omega), List.set_append_left _ _ (by simp; omega), List.set_append_right _ _ (by simp)]
  congr 3
  simp

set_option maxRecDepth 100000 in
set_option maxHeartbeats 8000000 in
theorem show_any {w : World} {p : Nat → Own} {b n i k : Nat} {d : DRep} {sb : Nat} {st : St} {sl tbs mbs : Nat → Nat} {hv kn : List Value} {t : RTx} {nb tb mb : Nat} (h : RepP w p b n i d sb st sl tbs mbs hv kn) (hR : d.hs.length ≤ 1100000) (ht : TxOk n i d.hs.length t) (hT : TxP w p k nb tb mb t) :
    Calls Tryz.prog 66 #[bptr b, .agg #[.int .i64 i, .int .i64 ((d.hs.length : Int) + 1), .int .i64 (vecOf t.saw).a, .int .i64 (vecOf t.saw).b, .int .i64 (vecOf t.saw).c, .int .i64 (vecOf t.saw).d, .int .i64 (vecOf t.saw).e, .map (some mb)]] w fun e w' => e = .returned (.tuple #[]) ∧
      ∃ p', RepIn w' p' b n i ⟨d.hs ++ [done i d t], d.vis.set i (d.vis.getD i 0 + 1), d.opn⟩ ∧ QT notOther w p w' p' := by
  have hb5 : i < 5 := by have := h.ok.hist.hi; have := h.ok.hist.n5; omega
  have hp0 : RepP w (own2q p w.heap.size others) b n i d sb st sl tbs mbs hv kn := h.move fun q hq _ => ⟨rfl, own2q_low hq⟩
  have hT0 : TxP w (own2q p w.heap.size others) k nb tb mb t := hT.move fun q hq _ => ⟨rfl, own2q_low hq⟩
  have hap := fun W (hB : Below w.heap.size w W) => apply_rep (W := W) (hp0.below hB) hR ht (hT0.move fun q hq _ => ⟨hB.block q hq, rfl⟩) (Below.refl _ _)
  obtain ⟨sv, hsv⟩ : ∃ sv, vecOf t.saw = sv := ⟨_, rfl⟩
  obtain ⟨sq, hsq⟩ : ∃ sq : Int, (d.hs.length : Int) + 1 = sq := ⟨_, rfl⟩
  rw [hsv, hsq] at hap
  rw [hsv, hsq]
  generalize hW0 : w.alloc (.cells #[.int .i64 i, .int .i64 sq, .int .i64 sv.a, .int .i64 sv.b, .int .i64 sv.c, .int .i64 sv.d, .int .i64 sv.e, .map (some mb)] 139) = W0
  have hB0 : Below w.heap.size w W0 := by rw [← hW0]; exact (Below.refl _ _).alloc (Nat.le_refl _) _
  have bx : Blk W0 w.heap.size [.int .i64 i, .int .i64 sq, .int .i64 sv.a, .int .i64 sv.b, .int .i64 sv.c, .int .i64 sv.d, .int .i64 sv.e, .map (some mb)] 139 := by rw [← hW0]; exact heap_alloc_new w _
  have hb0 := h.below hB0
  obtain ⟨-, -, c2⟩ := hb0.cellOf
  have y2 := Bel.cell c2
  have y0 := Bel.cell (show W0.cell? ⟨w.heap.size, 0, none⟩ = some (.int .i64 i) from bx.cell 0)
  have y1 := Bel.cell (show W0.cell? ⟨w.heap.size, 1, none⟩ = some (.int .i64 sq) from bx.cell 1)
  have y3 := Bel.cell (show W0.cell? ⟨w.heap.size, 2, none⟩ = some (.int .i64 sv.a) from bx.cell 2)
  have y4 := Bel.cell (show W0.cell? ⟨w.heap.size, 3, none⟩ = some (.int .i64 sv.b) from bx.cell 3)
  have y5 := Bel.cell (show W0.cell? ⟨w.heap.size, 4, none⟩ = some (.int .i64 sv.c) from bx.cell 4)
  have y6 := Bel.cell (show W0.cell? ⟨w.heap.size, 5, none⟩ = some (.int .i64 sv.d) from bx.cell 5)
  have y7 := Bel.cell (show W0.cell? ⟨w.heap.size, 6, none⟩ = some (.int .i64 sv.e) from bx.cell 6)
  have y8 := Bel.cell (show W0.cell? ⟨w.heap.size, 7, none⟩ = some (.map (some mb)) from bx.cell 7)
  have HAP := hide hap
  have HW0 := hide hW0
  have HH := hide (⟨h, hB0, bx, hp0, hsq⟩ : _ ∧ _ ∧ _ ∧ _ ∧ _)
  clear hap h hT hB0 bx hp0 hT0 hb0 c2 hW0 hsv hsq
  go_enter Tryz.func66, Tryz.ntmps66
  go_upto_region 1 with (fail)
  rw [HW0.out]
  refine region_fam_tail (Bel W0) 5 (by kernel_rfl) (by kernel_rfl) (Below.refl _ _).drew ?_
  simp only [List.take_succ_cons, List.take_zero, List.drop_succ_cons, List.drop_zero]
  repeat (go_big_quiet_step (fail))
  refine wpQuiet_nil ?_
  intro _ hw'
  obtain ⟨fq, rfl⟩ := hw'
  obtain ⟨W1, hB1⟩ := fq
  try dsimp only
  clear y0 y1 y2 y3 y4 y5 y6 y7 y8
  have hBw1 : Below w.heap.size w W1 := HH.out.2.1.trans (hB1.mono HH.out.2.1.size)
  go_wp2_with fail
  refine (HAP.out W1 hBw1).mono ?_
  rintro e w2 ⟨rfl, p2, st2, hI2, hok2, hbl2, hq2⟩
  obtain ⟨h, hB0, bx, hp0, hsq⟩ := HH.out
  have hp1 := hp0.below hBw1
  have bb2 := hp1.blk.touch hq2 (by simp [stoTag])
  have bx2 : Blk w2 w.heap.size [.int .i64 i, .int .i64 sq, .int .i64 sv.a, .int .i64 sv.b, .int .i64 sv.c, .int .i64 sv.d, .int .i64 sv.e, .map (some mb)] 139 := by
    have b1 := bx.below hB1
    exact b1.move (hq2.touch.block _ b1.lt (by rw [own2q_high (Nat.le_refl _)]; exact sto_other))
  obtain ⟨m, xs, hmle, hrow⟩ := hp1.held i (by rw [h.hlen]; exact hb5)
  have hrow2 := hrow.touch hq2 (by simp [stoTag])
  have hcell2 : w2.cell? ⟨b, 3 + i, none⟩ = some (hv[i]'(by rw [h.hlen]; exact hb5)) := by
    rw [bb2.blk.cell (3 + i), repCells_hv h.hlen i hb5]; simp
  have hadd := fun W (hB : Below w2.heap.size w2 W) => held_add (bb2.below hB) (cell_later hB hcell2) hb5 (hrow2.below hB) (by omega) sq sv.a sv.b sv.c sv.d sv.e mb
  have HADD := hide hadd
  have l2 : b < w2.heap.size := bb2.blk.lt
  have y0 := Bel.cell (show w2.cell? ⟨w.heap.size, 0, none⟩ = some (.int .i64 i) from bx2.cell 0)
  have y1 := Bel.cell (show w2.cell? ⟨w.heap.size, 1, none⟩ = some (.int .i64 sq) from bx2.cell 1)
  have y3 := Bel.cell (show w2.cell? ⟨w.heap.size, 2, none⟩ = some (.int .i64 sv.a) from bx2.cell 2)
  have y4 := Bel.cell (show w2.cell? ⟨w.heap.size, 3, none⟩ = some (.int .i64 sv.b) from bx2.cell 3)
  have y5 := Bel.cell (show w2.cell? ⟨w.heap.size, 4, none⟩ = some (.int .i64 sv.c) from bx2.cell 4)
  have y6 := Bel.cell (show w2.cell? ⟨w.heap.size, 5, none⟩ = some (.int .i64 sv.d) from bx2.cell 5)
  have y7 := Bel.cell (show w2.cell? ⟨w.heap.size, 6, none⟩ = some (.int .i64 sv.e) from bx2.cell 6)
  have y8 := Bel.cell (show w2.cell? ⟨w.heap.size, 7, none⟩ = some (.map (some mb)) from bx2.cell 7)
  have H2 := hide (⟨hI2, hok2, hbl2, hq2, hp1, hmle, hBw1⟩ : _ ∧ _ ∧ _ ∧ _ ∧ _ ∧ _ ∧ _)
  clear hadd hI2 hok2 hbl2 hq2 hp1 hmle hBw1 hrow hrow2 hcell2 bx2 bb2 h hB0 bx hp0 hsq hB1
  go_upto_region 2 with (fail)
  refine region_fam_tail (Bel w2) 4 (by kernel_rfl) (by kernel_rfl) (Below.refl _ _).drew ?_
  simp only [List.take_succ_cons, List.take_zero, List.drop_succ_cons, List.drop_zero]
  repeat (go_big_quiet_step (fail))
  refine wpQuiet_nil ?_
  intro _ hw'
  obtain ⟨fq, rfl⟩ := hw'
  obtain ⟨W3, hB3⟩ := fq
  try dsimp only
  clear y0 y1 y3 y4 y5 y6 y7 y8
  go_wp2_with fail
  refine (HADD.out W3 hB3).mono ?_
  rintro e w4 ⟨rfl, p4, v4, ys, b4, r4, q4⟩
  have H4 := hide (⟨b4, r4, q4⟩ : _ ∧ _ ∧ _)
  clear b4 r4 q4
  go_wp2_with fail
  go_end0
  obtain ⟨h, hB0, bx, hp0, hsq⟩ := HH.out
  obtain ⟨hI2, hok2, hbl2, hq2, hp1, hmle, hBw1⟩ := H2.out
  obtain ⟨b4, r4, q4⟩ := H4.out
  rw [repCells_setH h.hlen i hb5] at b4
  have qa : QT (fun u => stoTag u ∨ u = .rep ∨ u = .held i) W1 (own2q p w.heap.size others) w4 p4 := ((hq2.below hB3).mono fun u hu => Or.inl hu).trans (q4.mono fun u hu => Or.inr hu)
  have q0 : QT (fun u => stoTag u ∨ u = .rep ∨ u = .held i) w (own2q p w.heap.size others) W1 (own2q p w.heap.size others) := QT.ofBelow hBw1
  have qb := q0.trans qa
  have qf : QT notOther w p w4 p4 := by
    refine ⟨qb.touch.mono fun q hq e => ?_, fun q hq => (qb.same q hq).trans (own2q_low hq)⟩
    rw [own2q_low hq] at e
    rcases e with e | e | e
    · exact sto_not e
    · rw [e]; simp [notOther]
    · rw [e]; simp [notOther]
  have hlen : (d.hs ++ [done i d t]).length = d.hs.length + 1 := by simp
  refine ⟨rfl, p4, ⟨sb, st2, sl, tbs, mbs, hv.set i v4, kn, b4, by simp [h.hlen], h.klen, ?_, hok2, fun r hr => ?_, fun k' t' e' => ?_, fun c hc => ?_⟩, qf⟩
  · show StIn w4 p4 sb (48 * (d.hs ++ [done i d t]).length) st2
    rw [hlen]
    obtain ⟨vb, cb, eb, ov, cv, ev, kv, hs1⟩ := hI2.below hB3
    exact ⟨vb, cb, eb, ov, cv, ev, kv, hs1.touch q4 (fun u hu e => by rcases e with rfl | rfl <;> exact hu)⟩
  · by_cases c : i = r
    · subst c
      refine ⟨m + 1, ys, by show m + 1 ≤ (d.hs ++ [done i d t]).length; rw [hlen]; omega, ?_⟩
      rw [List.getElem_set_self]
      exact r4
    · rw [List.length_set] at hr
      obtain ⟨m', xs', x1, x2⟩ := hp1.held r hr
      refine ⟨m', xs', by show m' ≤ (d.hs ++ [done i d t]).length; rw [hlen]; omega, ?_⟩
      rw [List.getElem_set_ne c]
      exact x2.touch qa (by simp [stoTag]; omega)
  · have e'' : d.opn k' = some t' := e'
    have hx := hp1.tx k' t' e''
    have o1 : p4 (mbs k') = .own k' := (qa.same _ hx.own.lt).trans hx.ownT
    exact ⟨hx.blk.touch qa (by simp [stoTag]), o1, hx.own.movet qa (by rw [hx.ownT]; simp [stoTag])⟩
  · rw [hbl2] at hc
    exact h.snp c hc

end Go.Proofs.YtiplgdkpnhamaaaGreatDoor

/- The program's Replica.Commit. -/
namespace Go.Proofs.YtiplgdkpnhamaaaGreatDoor
open Go.RowKit

theorem idx5_0 (a b c d e : Int) (W : World) : (Instr.index 104 (.agg #[.int .i64 a, .int .i64 b, .int .i64 c, .int .i64 d, .int .i64 e]) (.int .i64 0)).run Tryz.prog W = .ok (.int .i64 a) W := by kernel_rfl
theorem idx5_1 (a b c d e : Int) (W : World) : (Instr.index 104 (.agg #[.int .i64 a, .int .i64 b, .int .i64 c, .int .i64 d, .int .i64 e]) (.int .i64 1)).run Tryz.prog W = .ok (.int .i64 b) W := by kernel_rfl
theorem idx5_2 (a b c d e : Int) (W : World) : (Instr.index 104 (.agg #[.int .i64 a, .int .i64 b, .int .i64 c, .int .i64 d, .int .i64 e]) (.int .i64 2)).run Tryz.prog W = .ok (.int .i64 c) W := by kernel_rfl
theorem idx5_3 (a b c d e : Int) (W : World) : (Instr.index 104 (.agg #[.int .i64 a, .int .i64 b, .int .i64 c, .int .i64 d, .int .i64 e]) (.int .i64 3)).run Tryz.prog W = .ok (.int .i64 d) W := by kernel_rfl
theorem idx5_4 (a b c d e : Int) (W : World) : (Instr.index 104 (.agg #[.int .i64 a, .int .i64 b, .int .i64 c, .int .i64 d, .int .i64 e]) (.int .i64 4)).run Tryz.prog W = .ok (.int .i64 e) W := by kernel_rfl
theorem idx5_at (v : Vec) (i : Nat) (hi : i < 5) (W : World) : (Instr.index 104 (.agg #[.int .i64 v.a, .int .i64 v.b, .int .i64 v.c, .int .i64 v.d, .int .i64 v.e]) (.int .i64 i)).run Tryz.prog W = .ok (.int .i64 (v.get i)) W := by
  have : i = 0 ∨ i = 1 ∨ i = 2 ∨ i = 3 ∨ i = 4 := by omega
  rcases this with rfl | rfl | rfl | rfl | rfl
  · exact idx5_0 v.a v.b v.c v.d v.e W
  · exact idx5_1 v.a v.b v.c v.d v.e W
  · exact idx5_2 v.a v.b v.c v.d v.e W
  · exact idx5_3 v.a v.b v.c v.d v.e W
  · exact idx5_4 v.a v.b v.c v.d v.e W
/-- Behind all calls: the result's own block may have turned too. -/
theorem out_qt {w W0 w1 w2 : World} {p p1 : Nat → Own} (hB0 : Below w.heap.size w W0) (q : QT notOther W0 (own2q p w.heap.size others) w1 p1) (T : Touch (fun q => q = w.heap.size) w1 w2) : QT notOther w p w2 p1 := by
  have q0 : QT notOther w p w1 p1 := by
    refine ⟨(Touch.ofBelow hB0).trans (q.touch.mono fun c hc e => ?_), fun c hc => (q.same c (Nat.lt_of_lt_of_le hc hB0.size)).trans (own2q_low hc)⟩
    by_cases h : c < w.heap.size
    · rw [own2q_low h] at e; exact Or.inl e
    · exact Or.inr (by omega)
  exact ⟨q0.touch.trans (T.mono fun c _ e => Or.inr (by omega)), q0.same⟩
theorem RepIn.res {w W0 w1 w2 : World} {p p1 : Nat → Own} {b n i : Nat} {d : DRep} (h : RepIn w1 p1 b n i d) (hz : w.heap.size < W0.heap.size) (q : QT notOther W0 (own2q p w.heap.size others) w1 p1) (T : Touch (fun q => q = w.heap.size) w1 w2) : RepIn w2 p1 b n i d :=
  h.move fun c hc hne => ⟨T.block c hc (fun e => hne (by rw [e, q.same _ hz, own2q_high (Nat.le_refl _)])), rfl⟩

set_option maxRecDepth 100000 in
set_option maxHeartbeats 8000000 in
theorem commit_ok : CommitOk := by
  intro w p b n i d tx h hR
  obtain ⟨sb, st, sl, tbs, mbs, hv, kn, h⟩ := h
  generalize hW0 : w.alloc (.cells #[.int .i64 0, .int .i64 0] 62) = W0
  have hB0 : Below w.heap.size w W0 := by rw [← hW0]; exact (Below.refl _ _).alloc (Nat.le_refl _) _
  have bv : Blk W0 w.heap.size [.int .i64 0, .int .i64 0] 62 := by rw [← hW0]; exact heap_alloc_new w _
  have h0 : RepP W0 (own2q p w.heap.size others) b n i d sb st sl tbs mbs hv kn := h.move fun q hq _ => ⟨hB0.block q hq, own2q_low hq⟩
  have hl : w.heap.size < W0.heap.size := bv.lt
  cases ho : opnAt d tx with
  | none =>
    have ea : commitAns i d tx = .tuple #[.agg #[.int .i64 0, .int .i64 0], .int .i64 4] := by unfold commitAns; rw [ho]
    have ed : commitD i d tx = d := by unfold commitD; rw [ho]
    rw [ea, ed]
    have HF := hide (h0.find_none ho)
    have v0 : W0.cell? ⟨w.heap.size, 0, none⟩ = some (.int .i64 0) := bv.cell 0
    have v1 : W0.cell? ⟨w.heap.size, 1, none⟩ = some (.int .i64 0) := bv.cell 1
    have f0 : W0.frozen? ⟨w.heap.size, 0, none⟩ = false := bv.frozen 0
    have f1 : W0.frozen? ⟨w.heap.size, 1, none⟩ = false := bv.frozen 1
    have HW0 := hide hW0
    have HH := hide (⟨h, hB0⟩ : _ ∧ _)
    clear h0 ho ea ed hW0 hB0 bv h
    go_enter Tryz.func32, Tryz.ntmps32
    go_upto_region 1 with (fail)
    rw [HW0.out]
    go_wp2_with (go_at_call 60; refine HF.out.mono ?_; rintro e w1 ⟨rfl, rfl⟩)
    have hBf := (HH.out.2.setCell (p := ⟨w.heap.size, 0, none⟩) (Nat.le_refl _) (.int .i64 0)).setCell (p := ⟨w.heap.size, 1, none⟩) (Nat.le_refl _) (.int .i64 0)
    exact bodyPost_ret (v := .tuple #[.agg #[.int .i64 0, .int .i64 0], .int .i64 4]) (by simp [results, Tryz.results32, go_sem, v0, v1]) rfl ⟨rfl, p, ⟨sb, st, sl, tbs, mbs, hv, kn, HH.out.1.below hBf⟩, QT.ofBelow hBf⟩
  | some t =>
    obtain ⟨k, rfl, hk, hok, hf⟩ := h0.find_some ho
    have hend := end_any h0 hR hok
    have HF := hide hf
    have HE := hide hend
    have HW0 := hide hW0
    have HH := hide (⟨h, hB0, bv, h0⟩ : _ ∧ _ ∧ _ ∧ _)
    have hto := (h.ok.opn k t hok).1
    have HTO := hide hto
    by_cases hz : t.ops.length = 0
    · have ea : commitAns i d k = .tuple #[.agg #[.int .i64 0, .int .i64 0], .int .i64 0] := by unfold commitAns; rw [ho]; simp only; rw [if_pos hz]
      have ed : commitD i d k = { d with opn := setSlot d.opn k none } := by unfold commitD; rw [ho]; simp only; rw [if_pos hz]; unfold endD; simp
      rw [ea, ed]
      clear hf hend hW0 h hB0 bv h0 ho hok hto ea ed
      go_enter Tryz.func32, Tryz.ntmps32
      go_upto_region 1 with (fail)
      rw [HW0.out]
      go_wp2_with (go_at_call 60; refine HF.out.mono ?_; rintro e w1 ⟨rfl, rfl⟩)
      refine HE.out.mono ?_
      rintro e w2 ⟨rfl, p2, st2, h2, q2, hT2, hB2⟩
      have bv2 : Blk w2 w.heap.size [.int .i64 0, .int .i64 0] 62 := HH.out.2.2.1.move (q2.touch.block _ HH.out.2.2.1.lt (by rw [own2q_high (Nat.le_refl _)]; simp [notOther, others]))
      have c1 : w2.cell? ⟨tbs k, 1, none⟩ = some (.int .i64 0) := by have := hT2.blk.blk.cell 1; rw [hz] at this; exact this
      have l1 := hT2.blk.blk.lt
      have v0 : w2.cell? ⟨w.heap.size, 0, none⟩ = some (.int .i64 0) := bv2.cell 0
      have v1 : w2.cell? ⟨w.heap.size, 1, none⟩ = some (.int .i64 0) := bv2.cell 1
      have f0 : w2.frozen? ⟨w.heap.size, 0, none⟩ = false := bv2.frozen 0
      have f1 : w2.frozen? ⟨w.heap.size, 1, none⟩ = false := bv2.frozen 1
      have l2 : w.heap.size < w2.heap.size := bv2.lt
      have H2 := hide (⟨h2, q2⟩ : _ ∧ _)
      clear h2 q2 hT2 hB2 bv2
      go_wp2_with fail
      have hTo : Touch (fun q => q = w.heap.size) w2 ((w2.setCell ⟨w.heap.size, 0, none⟩ (.int .i64 0)).setCell ⟨w.heap.size, 1, none⟩ (.int .i64 0)) := ((Touch.refl (fun q => q = w.heap.size) w2).setCell (p := ⟨w.heap.size, 0, none⟩) (Or.inl rfl) _).setCell (p := ⟨w.heap.size, 1, none⟩) (Or.inl rfl) _
      exact bodyPost_ret (v := .tuple #[.agg #[.int .i64 0, .int .i64 0], .int .i64 0]) (by simp [results, Tryz.results32, go_sem, v0, v1]) rfl ⟨rfl, p2, RepIn.res ⟨sb, st2, sl, tbs, mbs, hv, kn, H2.out.1⟩ hl H2.out.2 hTo, out_qt HH.out.2.1 H2.out.2 hTo⟩
    · have hseq : d.vis.getD i 0 + 1 = (d.hs.length : Int) + 1 := by rw [h.ok.vis, sawOf_get h.ok.hist.hi, if_pos rfl]
      have ea : commitAns i d k = .tuple #[.agg #[.int .i64 i, .int .i64 ((d.hs.length : Int) + 1)], .int .i64 0] := by unfold commitAns; rw [ho]; simp only; rw [if_neg hz, hseq]
      have ed : commitD i d k = ⟨d.hs ++ [done i d t], d.vis.set i (d.vis.getD i 0 + 1), setSlot d.opn k none⟩ := by unfold commitD; rw [ho]; simp only; rw [if_neg hz]; simp
      rw [ea, ed]
      have hi5 : i < 5 := by have := h.ok.hist.hi; have := h.ok.hist.n5; omega
      have hget : (vecOf d.vis).get i = (d.hs.length : Int) := by
        rw [vecOf_get (by rw [h.ok.vis, sawOf_len]; exact h.ok.hist.n5), h.ok.vis]
        simp only [Int.toNat_natCast]
        rw [sawOf_get h.ok.hist.hi, if_pos rfl]
      have hne : ((t.ops.length : Int) == 0) = false := beq_false_of_ne (by omega)
      clear hf hend hW0 h hB0 bv h0 ho hok hto ea ed hseq
      go_enter Tryz.func32, Tryz.ntmps32
      go_upto_region 1 with (fail)
      rw [HW0.out]
      go_wp2_with (go_at_call 60; refine HF.out.mono ?_; rintro e w1 ⟨rfl, rfl⟩)
      refine HE.out.mono ?_
      rintro e w2 ⟨rfl, p2, st2, h2, q2, hT2, hB2⟩
      have c1 : w2.cell? ⟨tbs k, 1, none⟩ = some (.int .i64 t.ops.length) := hT2.blk.blk.cell 1
      have l1 := hT2.blk.blk.lt
      obtain ⟨c0, -, c2⟩ := h2.cellOf
      have lb := h2.blk.blk.lt
      have hix := idx5_at (vecOf d.vis) i hi5
      rw [hget] at hix
      obtain ⟨v, hv'⟩ : ∃ v, vecOf d.vis = v := ⟨_, rfl⟩
      have hvis : ∀ W, Below w2.heap.size w2 W → Calls Tryz.prog 57 #[bptr sb] W fun e w' => e = .returned v.val ∧ Below W.heap.size W w' := fun W hB => by
        obtain ⟨vb, cb, eb, ov, cv, ev, kv, hs⟩ := h2.sto.below hB
        have e1 : st2.vis = v := by rw [← hv']; exact h2.ok.svis
        rw [← e1]
        exact visible_any W sb st2.vis (hs.blk.blk.cell 0) (hs.blk.blk.cell 1) (hs.blk.blk.cell 2) (hs.blk.blk.cell 3) (hs.blk.blk.cell 4)
      rw [hv'] at hix
      have HVa : Hid (Calls Tryz.prog 57 #[bptr sb] w2.drew fun e w' => e = .returned v.val ∧ (w'.cell? ⟨b, 0, none⟩ = some (.int .i64 i) ∧ w'.cell? ⟨b, 2, none⟩ = some (bptr sb)) ∧ b < w'.heap.size ∧ Hid (Below w2.heap.size w2 w')) := (hvis w2.drew (Below.refl _ _).drew).mono (by
        rintro e w' ⟨rfl, hB⟩
        have hB' : Below w2.heap.size w2 w' := (Below.refl _ _).drew.trans hB
        exact ⟨rfl, ⟨cell_later hB' c0, cell_later hB' c2⟩, Nat.lt_of_lt_of_le lb hB'.size, hB'⟩)
      have HVb : Hid (Calls Tryz.prog 57 #[bptr sb] (w2.alloc (.cells #[.int .i64 0, .int .i64 0] 62)).drew fun e w' => e = .returned v.val ∧ (w'.cell? ⟨b, 0, none⟩ = some (.int .i64 i) ∧ w'.cell? ⟨b, 2, none⟩ = some (bptr sb)) ∧ b < w'.heap.size ∧ w'.cell? ⟨w2.heap.size, 0, none⟩ = some (.int .i64 0) ∧ w'.cell? ⟨w2.heap.size, 1, none⟩ = some (.int .i64 0) ∧ w'.frozen? ⟨w2.heap.size, 0, none⟩ = false ∧ w'.frozen? ⟨w2.heap.size, 1, none⟩ = false ∧ w2.heap.size < w'.heap.size ∧ Hid (Blk w' w2.heap.size [.int .i64 0, .int .i64 0] 62 ∧ Below w2.heap.size w2 w')) := by
        have hBa : Below w2.heap.size w2 (w2.alloc (.cells #[.int .i64 0, .int .i64 0] 62)).drew := ((Below.refl _ _).alloc (Nat.le_refl _) _).drew
        refine (hvis _ hBa).mono ?_
        rintro e w' ⟨rfl, hB⟩
        have hB' : Below w2.heap.size w2 w' := hBa.trans (hB.mono hBa.size)
        have bz : Blk (w2.alloc (.cells #[.int .i64 0, .int .i64 0] 62)).drew w2.heap.size [.int .i64 0, .int .i64 0] 62 := heap_alloc_new w2 _
        have bz' := bz.below hB
        exact ⟨rfl, ⟨cell_later hB' c0, cell_later hB' c2⟩, Nat.lt_of_lt_of_le lb hB'.size, bz'.cell 0, bz'.cell 1, bz'.frozen 0, bz'.frozen 1, bz'.lt, bz', hB'⟩
      have H2 := hide (⟨h2, q2, hT2, hB2⟩ : _ ∧ _ ∧ _ ∧ _)
      clear h2 q2 hT2 hB2 hvis hv' hget
      have hwr : IntKind.i64.wrap ((d.hs.length : Int) + 1) = (d.hs.length : Int) + 1 := by rw [IntKind.wrap_i64]; omega
      have nb2 : ¬ w2.heap.size = b := by omega
      have nb3 : ¬ b = w2.heap.size := by omega
      have ne1 := World.new_ne w2 _ c0
      have ne2 := World.new_ne w2 _ c2
      have g0 : (0 : Int) ≤ d.hs.length := by omega
      have g1 : (d.hs.length : Int) ≤ 1100000 := by omega
      go_upto_region 7 with (fail)
      clear c1 l1
      go_cut [7] (fun pt wc => ∃ db, pt = bptr db ∧ Hid (w2.heap.size ≤ db ∧ Blk wc db [.int .i64 i, .int .i64 ((d.hs.length : Int) + 1)] 62 ∧ Below w2.heap.size w2 wc))
      case first =>
        go_region_held3 (fun W => W.cell? ⟨b, 0, none⟩ = some (.int .i64 i) ∧ W.cell? ⟨b, 2, none⟩ = some (bptr sb)) (go_keep) (first | (go_at_call 57; show Calls _ _ _ (World.drew (World.alloc _ _)) _; refine HVb.out.mono ?_; rintro e w5 ⟨rfl, ⟨k0, k2⟩, k1, z0, z1, z2, z3, z4, hB5⟩) | (go_at_call 57; refine HVa.out.mono ?_; rintro e w5 ⟨rfl, ⟨k0, k2⟩, k1, hB5⟩; have nb5 : ¬ w5.heap.size = b := (by omega); have nb6 : ¬ b = w5.heap.size := (by omega); have ne5 := World.new_ne w5 _ k0; have ne6 := World.new_ne w5 _ k2))
        all_goals go_wp2_with fail
        all_goals go_meet
        all_goals
          first
            | exact ⟨_, rfl, hB5.out.size, heap_alloc_new w5 _, hB5.out.alloc hB5.out.size _⟩
            | exact ⟨_, rfl, Nat.le_refl _, (hB5.out.1.set 0 _).set 1 _, (hB5.out.2.setCell (Nat.le_refl _) _).setCell (Nat.le_refl _) _⟩
      case rest =>
        obtain ⟨db, rfl, hdb⟩ := hcut
        obtain ⟨h2, q2, hT2, hB2⟩ := H2.out
        have h2' : RepP w2 (own2q p2 w2.heap.size others) b n i { d with opn := setSlot d.opn k none } sb st2 sl tbs mbs hv kn := h2.move fun q hq _ => ⟨rfl, own2q_low hq⟩
        have hT2' : TxP w2 (own2q p2 w2.heap.size others) k (sl k) (tbs k) (mbs k) t := hT2.move fun q hq _ => ⟨rfl, own2q_low hq⟩
        have q2' : QT notOther w1 (own2q p w.heap.size others) w2 (own2q p2 w2.heap.size others) := ⟨q2.touch, fun q hq => by rw [own2q_low (Nat.lt_of_lt_of_le hq q2.size)]; exact q2.same q hq⟩
        have hlw2 : w.heap.size < w2.heap.size := Nat.lt_of_lt_of_le hl q2.size
        have tw : own2q p2 w2.heap.size others w.heap.size = .other := by rw [own2q_low hlw2, q2.same _ hl, own2q_high (Nat.le_refl _)]
        have bvw : Blk w2 w.heap.size [.int .i64 0, .int .i64 0] 62 := HH.out.2.2.1.move (q2.touch.block _ HH.out.2.2.1.lt (by rw [own2q_high (Nat.le_refl _)]; simp [notOther, others]))
        have hsh := fun W (hB : Below w2.heap.size w2 W) => show_any (h2'.below hB) (by exact hR) (by exact HTO.out) (hT2'.move fun q hq _ => ⟨hB.block q hq, rfl⟩)
        obtain ⟨sv, hsv⟩ : ∃ sv, vecOf t.saw = sv := ⟨_, rfl⟩
        rw [hsv] at hB2
        simp only [hsv] at hsh
        have hBc := hdb.out.2.2
        have snc := hB2.below hBc
        have txc := hT2.blk.blk.below hBc
        have y0 := Bel.cell (show wc.cell? ⟨db, 0, none⟩ = some (.int .i64 i) from hdb.out.2.1.cell 0)
        have y1 := Bel.cell (show wc.cell? ⟨db, 1, none⟩ = some (.int .i64 ((d.hs.length : Int) + 1)) from hdb.out.2.1.cell 1)
        have y2 := Bel.cell (show wc.cell? ⟨tbs k, 0, none⟩ = some (bptr (sl k)) from txc.cell 0)
        have y3 := Bel.cell (show wc.cell? ⟨tbs k, 2, none⟩ = some (.map (some (mbs k))) from txc.cell 2)
        have hsaw : ∀ f : Fam (Bel wc), Calls Tryz.prog 67 #[bptr (sl k)] f.w fun e w'' => e = .returned sv.val ∧ ∃ g : Fam (Bel wc), w'' = g.w := fun f => by
          have sf := snc.below f.ok
          exact Bel.call f (saw_any f.w (sl k) sv (sf.cell 1) (sf.cell 2) (sf.cell 3) (sf.cell 4) (sf.cell 5))
        have HSAW := hide hsaw
        have HSH := hide hsh
        have H3 := hide (⟨q2', tw, bvw, hBc, hdb.out.2.1, hlw2, hdb.out.1⟩ : _ ∧ _ ∧ _ ∧ _ ∧ _ ∧ _ ∧ _)
        clear h2 q2 hT2 hB2 h2' hT2' q2' tw bvw hsh hsv snc txc hsaw HVa HVb hix c0 c2 lb hdb hBc hlw2
        go_upto_region 8 with (fail)
        refine region_fam_tail (Bel wc) 12 (by kernel_rfl) (by kernel_rfl) (Below.refl _ _).drew ?_
        simp only [List.take_succ_cons, List.take_zero, List.drop_succ_cons, List.drop_zero]
        repeat (go_big_quiet_step (first | (go_at_call 67; exact HSAW.out _)))
        refine wpQuiet_nil ?_
        intro _ hw'
        obtain ⟨fq, rfl⟩ := hw'
        obtain ⟨W3, hB3⟩ := fq
        try dsimp only
        clear y0 y1 y2 y3
        have hB23 : Below w2.heap.size w2 W3 := H3.out.2.2.2.1.trans (hB3.mono H3.out.2.2.2.1.size)
        go_wp2_with fail
        refine (HSH.out W3 hB23).mono ?_
        rintro e w6 ⟨rfl, p6, h6, q6⟩
        obtain ⟨q2', tw, bvw, hBc, bdb, hlw2, hge⟩ := H3.out
        have bd3 := bdb.below hB3
        have bd6 : Blk w6 db [.int .i64 i, .int .i64 ((d.hs.length : Int) + 1)] 62 := bd3.move (q6.touch.block _ bd3.lt (by rw [own2q_high hge]; simp [notOther, others]))
        have bv3 := bvw.below hB23
        have bv6 : Blk w6 w.heap.size [.int .i64 0, .int .i64 0] 62 := bv3.move (q6.touch.block _ bv3.lt (by rw [tw]; simp [notOther]))
        have d0 : w6.cell? ⟨db, 0, none⟩ = some (.int .i64 i) := bd6.cell 0
        have d1 : w6.cell? ⟨db, 1, none⟩ = some (.int .i64 ((d.hs.length : Int) + 1)) := bd6.cell 1
        have l6 : db < w6.heap.size := bd6.lt
        have v0 : w6.cell? ⟨w.heap.size, 0, none⟩ = some (.int .i64 0) := bv6.cell 0
        have v1 : w6.cell? ⟨w.heap.size, 1, none⟩ = some (.int .i64 0) := bv6.cell 1
        have f0 : w6.frozen? ⟨w.heap.size, 0, none⟩ = false := bv6.frozen 0
        have f1 : w6.frozen? ⟨w.heap.size, 1, none⟩ = false := bv6.frozen 1
        have l7 : w.heap.size < w6.heap.size := bv6.lt
        have qfin : QT notOther w1 (own2q p w.heap.size others) w6 p6 := (q2'.below hB23).trans q6
        have H6 := hide (⟨h6, qfin⟩ : _ ∧ _)
        clear q2' tw bvw hBc bdb hlw2 hge bd3 bd6 bv3 bv6 h6 q6 qfin hB3 hB23
        go_wp2_with fail
        have hTo : Touch (fun q => q = w.heap.size) w6 ((w6.setCell ⟨w.heap.size, 0, none⟩ (.int .i64 i)).setCell ⟨w.heap.size, 1, none⟩ (.int .i64 ((d.hs.length : Int) + 1))) := ((Touch.refl (fun q => q = w.heap.size) w6).setCell (p := ⟨w.heap.size, 0, none⟩) (Or.inl rfl) _).setCell (p := ⟨w.heap.size, 1, none⟩) (Or.inl rfl) _
        exact bodyPost_ret (v := .tuple #[.agg #[.int .i64 i, .int .i64 ((d.hs.length : Int) + 1)], .int .i64 0]) (by simp [results, Tryz.results32, go_sem, v0, v1]) rfl ⟨rfl, p6, RepIn.res H6.out.1 hl H6.out.2 hTo, out_qt HH.out.2.1 H6.out.2 hTo⟩

end Go.Proofs.YtiplgdkpnhamaaaGreatDoor
