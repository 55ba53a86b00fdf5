/- The texts R7, joined. -/
import Derived.Test.YtiplgdkpnhamaaaGreatDoorW02
import Derived.Deep.RegionWith
import Derived.Deep.DeepCutAuto

/- The reference's Set: what it answers. -/
namespace Go.Proofs.YtiplgdkpnhamaaaGreatDoor
open Go.RowKit

theorem last_kind (key el : ByteArray) (w : World) (b off : Nat) (v : Value) (ops : List ROp) (hn : ops.length ≤ 1000000) (hb : b < w.heap.size)
   (hv : w.cell? ⟨b, off + 4, none⟩ = some v) (hrow : Row w 171 4 v ops.length (ops.flatMap ROp.cells)) :
    Calls Tryz.prog 137 #[.pointer (some ⟨b, off, none⟩), .string key, .string el] w fun e w' =>
      ∃ c1 c2 c3, e = .returned (.tuple #[.agg #[.int .i64 (lastKind (lastOf key el ops)), .string c1, .string c2, .int .i64 c3], .bool (lastOf key el ops).isSome]) ∧ Below w.heap.size w w' :=
  (last_any key el w b off v ops hn hb hv hrow).mono fun _ _ h => ⟨_, _, _, h.1, h.2⟩

theorem gv1 {b0 : Bool} (b1 b2 b3 b4 : Bool) (h : b0 = true) : Value.bool true = .bool (b0 || (b1 && b2 && b3 && b4)) := by simp [h]
theorem gv2 {b0 b1 b2 b3 : Bool} {k : Int} (h0 : ¬ b0 = true) (h1 : b1 = true) (h2 : b2 = true) (h3 : b3 = true) : Value.bool (k == 4) = .bool (b0 || (b1 && b2 && b3 && decide (k = 4))) := by
  simp [h0, h1, h2, h3]; rfl
theorem gv3 {b0 b1 b2 b3 : Bool} (b4 : Bool) (h0 : ¬ b0 = true) (h1 : b1 = true) (h2 : b2 = true) (h3 : ¬ b3 = true) : Value.bool false = .bool (b0 || (b1 && b2 && b3 && b4)) := by simp [h0, h1, h2, h3]
theorem gv4 {b0 b1 b2 : Bool} (b3 b4 : Bool) (h0 : ¬ b0 = true) (h1 : b1 = true) (h2 : ¬ b2 = true) : Value.bool false = .bool (b0 || (b1 && b2 && b3 && b4)) := by simp [h0, h1, h2]
theorem gv5 {b0 b1 : Bool} (b2 b3 b4 : Bool) (h0 : ¬ b0 = true) (h1 : ¬ b1 = true) : Value.bool false = .bool (b0 || (b1 && b2 && b3 && b4)) := by simp [h0, h1]

/-- Called in a world behind W0. -/
theorem last_of {W0 : World} (key el : ByteArray) (w : World) (b off : Nat) (v : Value) (ops : List ROp) (hn : ops.length ≤ 1000000) (hb : b < W0.heap.size)
   (hv : W0.cell? ⟨b, off + 4, none⟩ = some v) (hrow : Row W0 171 4 v ops.length (ops.flatMap ROp.cells)) (h : Below W0.heap.size W0 w) :
    Calls Tryz.prog 137 #[.pointer (some ⟨b, off, none⟩), .string key, .string el] w fun e w' =>
      ∃ c1 c2 c3, e = .returned (.tuple #[.agg #[.int .i64 (lastKind (lastOf key el ops)), .string c1, .string c2, .int .i64 c3], .bool (lastOf key el ops).isSome]) ∧ Below w.heap.size w w' :=
  last_kind key el w b off v ops hn (Nat.lt_of_lt_of_le hb h.size) (cell_later h hv) (Row.below hrow h)
theorem later_at {W w : World} (h : Below W.heap.size W w) (b : Nat) :
    (∀ i, b < W.heap.size → w.cell? ⟨b, i, none⟩ = W.cell? ⟨b, i, none⟩) ∧ (∀ i, b < W.heap.size → w.frozen? ⟨b, i, none⟩ = W.frozen? ⟨b, i, none⟩) ∧ (b < W.heap.size → b < w.heap.size) :=
  ⟨fun i hb => h.cell (p := ⟨b, i, none⟩) hb, fun i hb => h.frozen (p := ⟨b, i, none⟩) hb, fun hb => Nat.lt_of_lt_of_le hb h.size⟩

theorem Touch.toBelow {S : Nat → Prop} {B : Nat} {w w' : World} (h : Touch S w w') (hB : B ≤ w.heap.size) (hs : ∀ k, S k → B ≤ k) : Below B w w' :=
  ⟨h.os, h.tape, h.output, h.size, fun k hk => h.block k (by omega) (fun s => by have := hs k s; omega)⟩
theorem ownsRow_raise {w : World} {b b' : Nat} {e : TypeId} {size : Nat} {v : Value} {n : Nat} {xs : List Value} (h : w.ownsRow b e size v n xs) (hb : ∀ k, v.ownBlock = some k → b' ≤ k) : w.ownsRow b' e size v n xs := by
  refine ⟨h.1, ?_⟩
  rcases h.2 with hn | ⟨g, cap, cur, rfl, h0, rest⟩
  · exact .inl hn
  · exact .inr ⟨g, cap, cur, rfl, hb g rfl, rest⟩

set_option maxRecDepth 100000 in
set_option maxHeartbeats 4000000 in
theorem set_any (w : World) (gb n : Nat) (av v : Value) (xs : List XTx) (ts : List RTx) (vec : List Int) (key : ByteArray) (G : GrpIn w gb n av xs ts) (hvl : vec.length = n) 
    (hrow : Row w 3 1 v vec.length (ints vec)) :
    Calls Tryz.prog 139 #[.pointer (some ⟨gb, 0, none⟩), v, .string key] w fun e w' => ∃ v', e = .returned v' ∧
      w'.ownsRow w.heap.size 9 1 v' (setOf vec key ts).length (strs (setOf vec key ts)) ∧ Below w.heap.size w w' := by
  obtain ⟨ao, cap, rfl, hcap, hgb⟩ := G.shape
  have hbig := G.big
  have ha := G.ha
  have HG := hide G
  have HR := hide hrow
  have HL := hide hvl
  clear G hrow hvl
  go_enter Tryz.func139, Tryz.ntmps139
  go_wp2
  go_loopw [7, 8] (fun l i wr => ∃ (k : Nat) (acc : List ByteArray), k ≤ ts.length ∧ i = .int .i64 k ∧ acc = (ts.take k).foldl (setTx vec key ts) [] ∧ acc.length ≤ k * 16 ∧ wr.ownsRow w.heap.size 9 1 l acc.length (strs acc) ∧ Below w.heap.size w wr) (fun _ i _ => ts.length - (intOf i).toNat)
  case atStart => exact ⟨0, [], Nat.zero_le _, rfl, rfl, by simp, World.ownsRow_nil _ _ _ _, Below.refl _ _⟩
  case round =>
    obtain ⟨k, acc, hk, rfl, hacc, hlen, hown, hB⟩ := hrel
    have HACC := hide hacc
    clear hacc
    have ha1 := cell_later hB ha
    clear ha
    by_cases hlk : k < ts.length
    · have G1 := HG.out.below hB
      obtain ⟨ga, x, rfl, hga, h1, h2, -, h4, ht, hr, -⟩ := G1.pick k hlk
      have HS : Hid ((ts.take (k + 1)).foldl (setTx vec key ts) [] = setTx vec key ts acc ts[k]) := by
        unfold Hid; rw [List.take_succ_eq_append_getElem hlk, List.foldl_append, ← HACC.out]; rfl
      have HG1 := hide G1
      have HT := hide ht
      have hrow1 := hide (Row.below HR.out hB)
      have HTK := hide (rfl : ts[k] = ts[k])
      clear G1 ht HACC
      generalize hte : ts[k] = t at *
      have HTE := hide hte
      clear hte HTK
      go_wp2_with fail
      refine (sees_any _ _ vec _ _ (by omega) (by have := HL.out; omega) hrow1.out).mono ?_
      rintro e w1 ⟨rfl, hB1⟩
      have hBw1 : Below w.heap.size w w1 := hB.trans (hB1.mono hB.size)
      have hown1 := ownsRow_below hown hB1
      have ha2 := cell_later hB1 ha1
      have h42 := cell_later hB1 h4
      have HT1 := hide (HT.out.below hB1)
      clear ha1 h1 h2 h4
      cases hsee : seesV vec t.rep t.seq
      · have hst : setTx vec key ts acc t = acc := by unfold setTx; rw [hsee]; rfl
        rw [hst] at HS
        clear hst
        go_wp2_with fail
        exact ⟨⟨k + 1, acc, by omega, by go_num, HS.out.symm, by omega, hown1, hBw1⟩, by simp [intOf]; omega⟩
      · have hst : setTx vec key ts acc t = (elemsOf key t.ops).foldl (setEl vec key ts t) acc := by unfold setTx; rw [hsee]; rfl
        rw [hst] at HS
        have hel := elemsOf_len key t.ops
        have hfew := HT1.out.few
        clear hst hsee
        go_wp2_with fail
        refine (elements_any key _ ga (k * 5) x.ov t.ops (by omega) (by have := hB1.size; omega) h42 HT1.out.ops).mono ?_
        rintro e w2 ⟨ev, rfl, hes, hB2⟩
        have hBw2 : Below w.heap.size w w2 := hBw1.trans (hB2.mono hBw1.size)
        have hown2 := ownsRow_below hown1 hB2
        obtain ⟨eo, ecap, rfl, hecap, hem, hec⟩ := Row.shape (ownsRow_low hes (Nat.zero_le _))
        have hec' := hide hec
        have HES := hide hes
        have ha3 := cell_later hB2 ha2
        generalize elemsOf key t.ops = es at *
        clear hec ha2 h42 hes
        have hdis : Hid (∀ q, u7.ownBlock = some q → ¬ (Value.slice eo es.length ecap).ownBlock = some q) := fun q hq he => by
          have a := (HES.out.lt q he).1
          have b := (hown1.lt q hq).2
          omega
        go_wp2_with fail
        go_loopw [7, 12] (fun l i wr2 => ∃ (j : Nat) (acc2 : List ByteArray), j ≤ es.length ∧ i = .int .i64 j ∧ acc2 = (es.take j).foldl (setEl vec key ts t) acc ∧ acc2.length ≤ acc.length + j ∧ wr2.ownsRow w.heap.size 9 1 l acc2.length (strs acc2)
          ∧ wr2.ownsRow 0 9 1 (.slice eo es.length ecap) es.length (strs es) ∧ (∀ q, l.ownBlock = some q → ¬ (Value.slice eo es.length ecap).ownBlock = some q) ∧ Below w.heap.size w wr2) (fun _ i _ => es.length - (intOf i).toNat)
        case atStart => exact ⟨0, acc, Nat.zero_le _, rfl, rfl, by omega, hown2, ownsRow_low HES.out (Nat.zero_le _), hdis.out, hBw2⟩
        case round =>
          obtain ⟨j, acc2, hj, rfl, hacc2, hlen2, hl2, hes2, hdis2, hBr⟩ := hrel
          have HACC2 := hide hacc2
          have HDIS := hide hdis2
          clear hacc2 hdis2
          have ha4 := cell_later hBr HG.out.ha
          by_cases hlj : j < es.length
          · obtain ⟨ge, ecap', e, -, -, hge, hecell, -⟩ := Row.pos hes2 (by omega)
            obtain ⟨rfl, -, rfl⟩ := Value.slice.inj e
            have hej := hecell j (by omega)
            rw [strs_get _ _ hlj] at hej
            clear e hecell
            have HS2 : Hid ((es.take (j + 1)).foldl (setEl vec key ts t) acc = setEl vec key ts t acc2 es[j]) := by
              unfold Hid; rw [List.take_succ_eq_append_getElem hlj, List.foldl_append, ← HACC2.out]; rfl
            have G4 := HG.out.below hBr
            obtain ⟨_, x4, e, hga4, -, -, -, h44, ht4, -, -⟩ := G4.pick k hlk
            cases e
            have hte := HTE.out
            rw [hte] at ht4
            have HT4 := hide ht4
            have HG4 := hide G4
            have HE2 := hide hes2
            have HL2 := hide hl2
            clear ht4 G4 hte HACC2 hes2 hl2
            generalize es[j] = el at *
            go_wp2_with fail
            refine (last_kind key el _ ga (k * 5) x4.ov t.ops (by omega) hga4 h44 HT4.out.ops).mono ?_
            rintro e w3 ⟨c1, c2, c3, rfl, hB3⟩
            have hBr3 : Below w.heap.size w w3 := hBr.trans (hB3.mono hBr.size)
            have HL3 := hide (ownsRow_below HL2.out hB3)
            have HE3 := hide (ownsRow_below HE2.out hB3)
            by_cases hk3 : lastKind (lastOf key el t.ops) = 3
            · have hse : setEl vec key ts t acc2 el = if goneOf vec key el t ts then acc2 else withOf acc2 el := by unfold setEl; rw [if_pos hk3]
              rw [hse] at HS2
              have hk3' : (lastKind (lastOf key el t.ops) != 3) = false := by rw [hk3]; rfl
              clear hse hk3
              generalize (lastOf key el t.ops).isSome = b9 at *
              generalize lastKind (lastOf key el t.ops) = kd at *
              go_wp2_with fail
              go_loopw [15, 16] (fun ov q wr3 => ∃ kn : Nat, kn ≤ ts.length ∧ q = .int .i64 kn ∧ ov = .bool (goneOf vec key el t (ts.take kn)) ∧ Below (w3.heap.size + 1) (w3.alloc (.cells #[.int .i64 kd, .string c1, .string c2, .int .i64 c3] 171)) wr3) (fun _ q _ => ts.length - (intOf q).toNat)
              case atStart => exact ⟨0, Nat.zero_le _, rfl, rfl, Below.refl _ _⟩
              case round =>
                obtain ⟨kn, hkn, rfl, rfl, hbe⟩ := hrel
                have hB5 : Below w3.heap.size w3 wr := ((Below.refl _ _).alloc (Nat.le_refl _) _).trans (hbe.mono (by omega))
                have hB25 : Below w.heap.size w wr := hBr3.trans (hB5.mono hBr3.size)
                have hsz3 : w3.heap.size + 1 ≤ wr.heap.size := by have := hbe.size; simpa using this
                have G5 := HG.out.below hB25
                have ha5 := G5.ha
                have HE5 := hide (ownsRow_below HE3.out hB5)
                by_cases hln : kn < ts.length
                · obtain ⟨_, y, e, hga5, h1, h2, h3, h4, hu, hur, hul⟩ := G5.pick kn hln
                  cases e
                  obtain ⟨_, y', e, -, t1, t2, -, -, -, -, -⟩ := G5.pick k hlk
                  cases e
                  rw [HTE.out] at t1 t2
                  have HS3 : Hid (goneOf vec key el t (ts.take (kn + 1)) = goneStep vec key el t (goneOf vec key el t (ts.take kn)) ts[kn]) := by
                    unfold Hid; rw [List.take_succ_eq_append_getElem hln]; exact goneOf_snoc _ _ _ _ _ _
                  have HU := hide hu
                  have hrow5 := hide (Row.below HR.out hB25)
                  have he5 : wr.cell? ⟨ge, j, none⟩ = some (.string el) := cell_later hB5 (cell_later hB3 hej)
                  clear hu G5
                  generalize ts[kn] = u at *
                  go_wp2_with fail
                  refine (sees_any _ _ vec _ _ (by omega) (by have := HL.out; omega) hrow5.out).mono ?_
                  rintro e w4 ⟨rfl, hB6⟩
                  have ha6 := cell_later hB6 ha5
                  have k3 := cell_later hB6 h3
                  have k1 := cell_later hB6 t1
                  have k2 := cell_later hB6 t2
                  have HU6 := hide (HU.out.below hB6)
                  go_upto_region 19 with (fail)
                  go_cut [18] (fun b wc => b = .bool (seesV u.saw t.rep t.seq) ∧ Below w4.heap.size w4 wc)
                  case first =>
                    go_region_with (go_at_call 174; refine (sees_any _ _ u.saw _ _ (by omega) (by omega) (by exact Row.move HU6.out.saw (fun _ _ => rfl))).mono ?_; rintro e w5 ⟨rfl, hB7⟩)
                    all_goals
                      go_wp2_with fail
                      go_meet
                      exact ⟨rfl, ((Below.refl _ _).drew).trans hB7⟩
                  case rest =>
                    obtain ⟨rfl, hB7⟩ := hcut
                    have ha7 := cell_later hB7 ha6
                    have he7 := cell_later hB7 (cell_later hB6 he5)
                    have k7 := cell_later hB7 (cell_later hB6 h4)
                    have HU7 := hide (HU6.out.below hB7)
                    have hga7 : ga < wc.heap.size := by have := hB6.size; have := hB7.size; omega
                    have hge7 : ge < wc.heap.size := World.block_lt_of_cell? wc _ he7
                    have hgb7 : gb < wc.heap.size := World.block_lt_of_cell? wc _ ha7
                    clear ha6 k3 k1 k2 HU6
                    go_upto_region 20 with (fail)
                    go_cut [19, 20] (fun p b wc2 => ∃ pb, p = .pointer (some ⟨pb, 0, none⟩) ∧ wc2.cell? ⟨pb, 0, none⟩ = some (.int .i64 (lastKind (lastOf key el u.ops))) ∧ b = .bool (lastOf key el u.ops).isSome ∧ Below wc.heap.size wc wc2)
                    case first =>
                      go_region_with (go_at_call 137; refine (last_of (W0 := wc) key el _ ga (kn * 5) y.ov u.ops (by have := HU7.out.few; omega) hga7 k7 HU7.out.ops (by first | exact (Below.refl _ _).drew | exact ((Below.refl _ _).alloc (Nat.le_refl _) _).drew)).mono ?_; rintro e w5 ⟨d1, d2, d3, rfl, hB8⟩; obtain ⟨z0, z1, z2⟩ := later_at hB8 wc.heap.size)
                      all_goals
                        go_wp2_with fail
                        go_meet
                      all_goals first | with_reducible exact setA hB8 | with_reducible exact setB hB8 (Nat.zero_lt_succ _)
                    case rest =>
                      obtain ⟨pb, rfl, hpk, rfl, hB8⟩ := hcut
                      rename_i wc8
                      have hbe' := ((hbe.trans (hB6.mono hsz3)).trans (hB7.mono (Nat.le_trans hsz3 hB6.size))).trans (hB8.mono (Nat.le_trans (Nat.le_trans hsz3 hB6.size) hB7.size))
                      unfold goneStep at HS3
                      generalize goneOf vec key el t (ts.take kn) = b0 at *
                      generalize seesV vec u.rep u.seq = b1 at *
                      generalize seesV u.saw t.rep t.seq = b2 at *
                      generalize (lastOf key el u.ops).isSome = b3 at *
                      generalize lastKind (lastOf key el u.ops) = kd4 at *
                      clear hB6 hB7 hB8 k7 he7 ha7 hbe
                      go_wp2_with fail
                      all_goals refine ⟨⟨kn + 1, by omega, by go_num, ?_, hbe'⟩, by simp [intOf]; omega⟩
                      all_goals rw [HS3.out]
                      all_goals first | exact gv1 _ _ _ _ ‹_› | exact gv2 ‹_› ‹_› ‹_› ‹_› | exact gv3 _ ‹_› ‹_› ‹_› ‹_› | exact gv4 _ _ ‹_› ‹_› ‹_› | exact gv5 _ _ _ ‹_› ‹_›
                · have e : kn = ts.length := by omega
                  subst e
                  rw [List.take_length]
                  have HL5 := hide (ownsRow_below HL3.out hB5)
                  have he5 : wr.cell? ⟨ge, j, none⟩ = some (.string el) := cell_later hB5 (cell_later hB3 hej)
                  cases hgo : goneOf vec key el t ts
                  · rw [hgo, if_neg (by simp)] at HS2
                    go_wp2_with fail
                    refine (with_any _ _ acc2 el (by omega) (ownsRow_low HL5.out (Nat.zero_le _))).mono ?_
                    rintro e w6 ⟨v6, rfl, hw6, ht6, hb6⟩
                    have hge6 : ∀ q, v6.ownBlock = some q → w.heap.size ≤ q := fun q hq => by
                      rcases hb6 q hq with h | h
                      · exact (HL5.out.lt q h).1
                      · have := hB25.size; omega
                    have hB6 : Below w.heap.size w w6 := hB25.trans (ht6.toBelow hB25.size (fun q hq => (HL5.out.lt q hq).1))
                    have hle6 := withOf_len acc2 el
                    have HE6 := Row.touch HE5.out ht6 (fun q hq hs => HDIS.out q hs hq)
                    have hdis6 : ∀ q, v6.ownBlock = some q → ¬ (Value.slice (some ⟨ge, 0, none⟩) es.length ecap).ownBlock = some q := fun q hq he => by
                      rcases hb6 q hq with h | h
                      · exact HDIS.out q h he
                      · have := (HE5.out.lt q he).2; omega
                    go_wp2_with fail
                    exact ⟨⟨j + 1, _, by omega, by go_num, HS2.out.symm, by omega, ownsRow_raise hw6 hge6, HE6, hdis6, hB6⟩, by simp [intOf]; omega⟩
                  · rw [hgo, if_pos rfl] at HS2
                    go_wp2_with fail
                    exact ⟨⟨j + 1, acc2, by omega, by go_num, HS2.out.symm, by omega, HL5.out, HE5.out, HDIS.out, hB25⟩, by simp [intOf]; omega⟩
            · have hse : setEl vec key ts t acc2 el = acc2 := by unfold setEl; rw [if_neg hk3]
              rw [hse] at HS2
              have hk3' : (lastKind (lastOf key el t.ops) != 3) = true := by simp; exact hk3
              clear hse hk3
              go_wp2_with fail
              exact ⟨⟨j + 1, acc2, by omega, by go_num, HS2.out.symm, by omega, HL3.out.alloc _, HE3.out.alloc _, HDIS.out, hBr3.alloc hBr3.size _⟩, by simp [intOf]; omega⟩
          · go_wp2
            have e : es.take j = es := List.take_of_length_le (by omega)
            rw [e] at HACC2
            exact ⟨⟨k + 1, acc2, by omega, by go_num, by rw [HS.out]; exact HACC2.out, by omega, hl2, hBr⟩, by simp [intOf]; omega⟩
    · go_wp2
      go_ret
      refine ⟨_, rfl, ?_, hB⟩
      rw [HACC.out, List.take_of_length_le (by omega)] at hown
      exact hown

end Go.Proofs.YtiplgdkpnhamaaaGreatDoor
