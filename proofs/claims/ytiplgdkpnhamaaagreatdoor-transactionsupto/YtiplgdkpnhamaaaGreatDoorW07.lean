/- The texts R12, joined. -/
import Derived.Test.YtiplgdkpnhamaaaGreatDoorW03
import Derived.Test.YtiplgdkpnhamaaaGreatDoorW04

/- The reference's Group.Read, sets: what it answers. -/
namespace Go.Proofs.YtiplgdkpnhamaaaGreatDoor
open Go.RowKit

def keepEl (key : ByteArray) (ops : List ROp) (acc : List ByteArray) (s : ByteArray) : List ByteArray :=
  if (lastOf key s ops).isSome = false ∨ lastKind (lastOf key s ops) = 3 then withOf acc s else acc
def insEl (key : ByteArray) (ops : List ROp) (acc : List ByteArray) (s : ByteArray) : List ByteArray :=
  if lastKind (lastOf key s ops) = 3 then withOf acc s else acc
/-- What an open transaction reads of a set. -/
def readSet (key : ByteArray) (ops : List ROp) (told : List ByteArray) : List ByteArray := (elemsOf key ops).foldl (insEl key ops) (told.foldl (keepEl key ops) [])

/-- A list that is told, one that grows: how they lie to one another. -/
structure Two (B : Nat) (w0 wr : World) (l tv : Value) (acc told : List ByteArray) : Prop where
  own : wr.ownsRow B 9 1 l acc.length (strs acc)
  row : wr.ownsRow 0 9 1 tv told.length (strs told)
  dis : ∀ q, l.ownBlock = some q → ¬ tv.ownBlock = some q
  bel : Below B w0 wr
theorem Two.below {B : Nat} {w0 wr w' : World} {l tv : Value} {acc told : List ByteArray} (h : Two B w0 wr l tv acc told) (hb : Below wr.heap.size wr w') (hB : B ≤ wr.heap.size) : Two B w0 w' l tv acc told :=
  ⟨ownsRow_below h.own hb, ownsRow_below h.row hb, h.dis, h.bel.trans (hb.mono hB)⟩
theorem Two.with {B : Nat} {w0 wr w' : World} {l tv l' : Value} {acc told : List ByteArray} {s : ByteArray} (h : Two B w0 wr l tv acc told) (hB : B ≤ wr.heap.size)
    (hw : w'.ownsRow 0 9 1 l' (withOf acc s).length (strs (withOf acc s))) (ht : Touch (fun k => l.ownBlock = some k) wr w') (hb : ∀ k, l'.ownBlock = some k → l.ownBlock = some k ∨ wr.heap.size ≤ k) : Two B w0 w' l' tv (withOf acc s) told := by
  refine ⟨ownsRow_raise hw fun q hq => ?_, Row.touch h.row ht (fun q hq hs => h.dis q hs hq), fun q hq he => ?_, h.bel.trans (ht.toBelow hB (fun q hq => (h.own.lt q hq).1))⟩
  · rcases hb q hq with e | e
    · exact (h.own.lt q e).1
    · omega
  · rcases hb q hq with e | e
    · exact h.dis q e he
    · have := (h.row.lt q he).2; omega

set_option maxRecDepth 100000 in
set_option maxHeartbeats 4000000 in
theorem rread_set (w : World) (gb b n : Nat) (av v : Value) (axs xs : List XTx) (ts : List RTx) (k : Nat) (key : ByteArray) (t : RTx) (hn : xs.length ≤ 6) (hk : k < xs.length) (hkey : key.size ≤ maxLen) (G : GrpIn w gb n av axs ts)
    (hv : w.cell? ⟨b, 2, none⟩ = some v) (hrow : Row w 217 5 v xs.length (xs.flatMap XTx.cells)) (hop : xs[k].isOpen = true) (ht : TxIn w xs[k] t) (hts : t.saw.length = n) (hkd : kindOf key = 115) (hbig : (setOf t.saw key ts).length ≤ 40000000) :
    Calls Tryz.prog 88 #[.pointer (some ⟨gb, 0, none⟩), .pointer (some ⟨b, 0, none⟩), .int .i64 k, .string key] w fun e w' => ∃ lv, e = .returned (valAgg 0 lv 0) ∧ w'.ownsRow w.heap.size 9 1 lv (readSet key t.ops (setOf t.saw key ts)).length (strs (readSet key t.ops (setOf t.saw key ts))) ∧ Below w.heap.size w w' := by
  obtain ⟨g, cap, rfl, hcap, hm, hg, hc, hf⟩ := hrow.pos (by omega)
  have hbl : b < w.heap.size := World.block_lt_of_cell? w _ hv
  have h3 := hc (k * 5 + 3) (by omega)
  have h4 := hc (k * 5 + 4) (by omega)
  rw [flat_get _ 5 XTx.cells_len _ _ _ hk (by omega)] at h3 h4
  simp only [XTx.cells, List.getElem?_cons_zero, List.getElem?_cons_succ] at h3 h4
  have HI : Hid (isOpenAt xs k = true) := by simp [Hid, isOpenAt, hk, hop]
  have hB0 : Below w.heap.size w (w.alloc (.cells #[.int .i64 0, .slice none 0 0] 66)) := (Below.refl _ _).alloc (Nat.le_refl _) _
  have hW1 : (w.alloc (.cells #[.int .i64 0, .slice none 0 0] 66)).heap.size = w.heap.size + 1 := by simp
  have HW1 := hide hW1
  clear hW1
  have HV := hide (cell_later hB0 hv)
  have HR := hide (Row.below hrow hB0)
  have HG := hide (G.below hB0)
  have HT := hide (ht.below hB0)
  have HK := hide hkd
  have HTS := hide hts
  have h31 := cell_later hB0 h3
  have h41 := cell_later hB0 h4
  have hv1 := cell_later hB0 hv
  have HRC := hide (resBlk w (.int .i64 0) (.slice none 0 0) 66)
  clear hrow hc hop hkd G ht hts hf h3 h4 hv
  generalize hW : w.alloc (.cells #[.int .i64 0, .slice none 0 0] 66) = W at *
  have hgW : g < W.heap.size := by have := HW1.out; omega
  go_enter Tryz.func88, Tryz.ntmps88
  go_wp2_with fail
  have HWW := hide hW
  clear hW
  refine (is_any _ b _ xs k (by omega) HV.out HR.out).mono ?_
  rintro e w1 ⟨he, rfl⟩
  rw [HI.out] at he
  subst he
  go_wp2_with fail
  refine (kind_any key _ hkey).mono ?_
  rintro e w2 ⟨he, rfl⟩
  rw [HK.out] at he
  subst he
  go_wp2_with fail
  refine (set_any _ gb n av _ axs ts t.saw key HG.out HTS.out HT.out.saw).mono ?_
  rintro e w3 ⟨tv, rfl, htv, hB3⟩
  obtain ⟨tao, tcap, rfl, -, -, -⟩ := Row.shape (ownsRow_low htv (Nat.zero_le _))
  have hw23 := hB3.size
  have HTW : Hid (Two w2.heap.size w2 w3 (.slice none 0 0) (.slice tao (setOf t.saw key ts).length tcap) [] (setOf t.saw key ts)) := ⟨World.ownsRow_nil _ _ _ _, ownsRow_low htv (Nat.zero_le _), fun q hq => by simp [Value.ownBlock] at hq, hB3⟩
  have hfew := HT.out.few
  have hel := elemsOf_len key t.ops
  clear htv
  generalize hTL : setOf t.saw key ts = told at *
  have HTL := hide hTL
  clear hTL
  go_wp2_with fail
  go_loopw [18, 19] (fun l i wr => ∃ (j : Nat) (acc : List ByteArray), j ≤ told.length ∧ i = .int .i64 j ∧ acc = (told.take j).foldl (keepEl key t.ops) [] ∧ acc.length ≤ j ∧ Two w2.heap.size w2 wr l (.slice tao told.length tcap) acc told) (fun _ i _ => told.length - (intOf i).toNat)
  case atStart => exact ⟨0, [], Nat.zero_le _, rfl, rfl, Nat.le_refl _, HTW.out⟩
  case round =>
    obtain ⟨j, acc, hj, rfl, hacc, hlen, htwo⟩ := hrel
    have HACC := hide hacc
    have HTWO := hide htwo
    have hsz : w2.heap.size ≤ wr.heap.size := htwo.bel.size
    clear hacc
    by_cases hlj : j < told.length
    · obtain ⟨ge, tcap', e, -, -, hge, hecell, -⟩ := Row.pos htwo.row (by omega)
      obtain ⟨rfl, -, rfl⟩ := Value.slice.inj e
      have hej := hecell j (by omega)
      rw [strs_get _ _ hlj] at hej
      clear e hecell htwo
      have HS : Hid ((told.take (j + 1)).foldl (keepEl key t.ops) [] = keepEl key t.ops acc told[j]) := by
        unfold Hid; rw [List.take_succ_eq_append_getElem hlj, List.foldl_append, ← HACC.out]; rfl
      have h4r := cell_later HTWO.out.bel h41
      have HTr := hide (HT.out.below HTWO.out.bel)
      generalize told[j] = el at *
      go_wp2_with fail
      refine (last_kind key el _ g (k * 5) _ t.ops (by omega) (by omega) h4r HTr.out.ops).mono ?_
      rintro e w4 ⟨c1, c2, c3, rfl, hB4⟩
      have hej4 := cell_later hB4 hej
      have hge4 : ge < w4.heap.size := World.block_lt_of_cell? w4 _ hej4
      have HT4 := hide (HTWO.out.below (hB4.alloc hB4.size (.cells #[.int .i64 (lastKind (lastOf key el t.ops)), .string c1, .string c2, .int .i64 c3] 171)) hsz)
      have hsz4 : w2.heap.size ≤ (w4.alloc (.cells #[.int .i64 (lastKind (lastOf key el t.ops)), .string c1, .string c2, .int .i64 c3] 171)).heap.size := HT4.out.bel.size
      by_cases hkeep : (lastOf key el t.ops).isSome = false ∨ lastKind (lastOf key el t.ops) = 3
      · have hke : keepEl key t.ops acc el = withOf acc el := by unfold keepEl; rw [if_pos hkeep]
        rw [hke] at HS
        have hle := withOf_len acc el
        have HSZ := hide hsz4
        clear hke hsz4
        rcases hkeep with hk1 | hk1
        · rw [hk1]
          clear hk1
          go_wp2_with fail
          refine (with_any _ _ acc el (by omega) (ownsRow_low HT4.out.own (Nat.zero_le _))).mono ?_
          rintro e w5 ⟨v5, rfl, hw5, ht5, hb5⟩
          go_wp2_with fail
          exact ⟨⟨j + 1, _, by omega, by go_num, HS.out.symm, by omega, HT4.out.with HSZ.out hw5 ht5 hb5⟩, by simp [intOf]; omega⟩
        · have hk3 : (lastKind (lastOf key el t.ops) == 3) = true := by rw [hk1]; rfl
          clear hk1
          generalize hb9 : (lastOf key el t.ops).isSome = b9 at *
          clear hb9
          cases b9
          all_goals
            go_wp2_with fail
            refine (with_any _ _ acc el (by omega) (ownsRow_low HT4.out.own (Nat.zero_le _))).mono ?_
            rintro e w5 ⟨v5, rfl, hw5, ht5, hb5⟩
            go_wp2_with fail
            exact ⟨⟨j + 1, _, by omega, by go_num, HS.out.symm, by omega, HT4.out.with HSZ.out hw5 ht5 hb5⟩, by simp [intOf]; omega⟩
      · have hke : keepEl key t.ops acc el = acc := by unfold keepEl; rw [if_neg hkeep]
        rw [hke] at HS
        have hk1 : (lastOf key el t.ops).isSome = true := by
          cases hx : (lastOf key el t.ops).isSome
          · exact absurd (Or.inl hx) hkeep
          · rfl
        have hk3 : (lastKind (lastOf key el t.ops) == 3) = false := by simp; exact fun h => hkeep (Or.inr h)
        clear hke hkeep hsz4
        rw [hk1]
        clear hk1
        go_wp2_with fail
        exact ⟨⟨j + 1, acc, by omega, by go_num, HS.out.symm, by omega, HT4.out⟩, by simp [intOf]; omega⟩
    · have hjt : told.take j = told := List.take_of_length_le (by omega)
      rw [hjt] at HACC
      clear hjt
      have h4r := cell_later HTWO.out.bel h41
      have HTr := hide (HT.out.below HTWO.out.bel)
      have hgr : g < wr.heap.size := World.block_lt_of_cell? wr _ h4r
      clear htwo
      go_wp2_with fail
      refine (elements_any key _ g (k * 5) _ t.ops (by omega) hgr h4r HTr.out.ops).mono ?_
      rintro e w4 ⟨ev, rfl, hes, hB4⟩
      obtain ⟨eo, ecap, rfl, -, -, -⟩ := Row.shape (ownsRow_low hes (Nat.zero_le _))
      have HES : Hid (Two w2.heap.size w2 w4 u18 (.slice eo (elemsOf key t.ops).length ecap) acc (elemsOf key t.ops)) := ⟨ownsRow_below HTWO.out.own hB4, ownsRow_low hes (Nat.zero_le _), fun q hq he => by
        have a := (hes.lt q he).1
        have b := (HTWO.out.own.lt q hq).2
        omega, HTWO.out.bel.trans (hB4.mono hsz)⟩
      clear hes
      generalize hEL : elemsOf key t.ops = es at *
      have HEL := hide hEL
      clear hEL
      go_wp2_with fail
      go_loopw [18, 23] (fun l i wr2 => ∃ (j2 : Nat) (acc2 : List ByteArray), j2 ≤ es.length ∧ i = .int .i64 j2 ∧ acc2 = (es.take j2).foldl (insEl key t.ops) acc ∧ acc2.length ≤ acc.length + j2 ∧ Two w2.heap.size w2 wr2 l (.slice eo es.length ecap) acc2 es) (fun _ i _ => es.length - (intOf i).toNat)
      case atStart => exact ⟨0, acc, Nat.zero_le _, rfl, rfl, Nat.le_refl _, HES.out⟩
      case round =>
        obtain ⟨j2, acc2, hj2, rfl, hacc2, hlen2, htwo2⟩ := hrel
        have HACC2 := hide hacc2
        have HTWO2 := hide htwo2
        have hsz2 : w2.heap.size ≤ wr.heap.size := htwo2.bel.size
        clear hacc2
        by_cases hlj2 : j2 < es.length
        · obtain ⟨ge, ecap', e, -, -, hge, hecell, -⟩ := Row.pos htwo2.row (by omega)
          obtain ⟨rfl, -, rfl⟩ := Value.slice.inj e
          have hej := hecell j2 (by omega)
          rw [strs_get _ _ hlj2] at hej
          clear e hecell htwo2
          have HS2 : Hid ((es.take (j2 + 1)).foldl (insEl key t.ops) acc = insEl key t.ops acc2 es[j2]) := by
            unfold Hid; rw [List.take_succ_eq_append_getElem hlj2, List.foldl_append, ← HACC2.out]; rfl
          have h4r2 := cell_later HTWO2.out.bel h41
          have HTr2 := hide (HT.out.below HTWO2.out.bel)
          have hgr2 : g < wr.heap.size := World.block_lt_of_cell? wr _ h4r2
          generalize es[j2] = el at *
          go_wp2_with fail
          refine (last_kind key el _ g (k * 5) _ t.ops (by omega) hgr2 h4r2 HTr2.out.ops).mono ?_
          rintro e w5 ⟨c1, c2, c3, rfl, hB5⟩
          have hej5 := cell_later hB5 hej
          have hge5 : ge < w5.heap.size := World.block_lt_of_cell? w5 _ hej5
          have HT5 := hide (HTWO2.out.below (hB5.alloc hB5.size (.cells #[.int .i64 (lastKind (lastOf key el t.ops)), .string c1, .string c2, .int .i64 c3] 171)) hsz2)
          have HSZ5 := hide HT5.out.bel.size
          by_cases hkk : lastKind (lastOf key el t.ops) = 3
          · have hke : insEl key t.ops acc2 el = withOf acc2 el := by unfold insEl; rw [if_pos hkk]
            rw [hke] at HS2
            have hle := withOf_len acc2 el
            have hk3 : (lastKind (lastOf key el t.ops) == 3) = true := by rw [hkk]; rfl
            clear hke hkk
            go_wp2_with fail
            refine (with_any _ _ acc2 el (by omega) (ownsRow_low HT5.out.own (Nat.zero_le _))).mono ?_
            rintro e w6 ⟨v6, rfl, hw6, ht6, hb6⟩
            go_wp2_with fail
            exact ⟨⟨j2 + 1, _, by omega, by go_num, HS2.out.symm, by omega, HT5.out.with HSZ5.out hw6 ht6 hb6⟩, by simp [intOf]; omega⟩
          · have hke : insEl key t.ops acc2 el = acc2 := by unfold insEl; rw [if_neg hkk]
            rw [hke] at HS2
            have hk3 : (lastKind (lastOf key el t.ops) == 3) = false := by simp; exact hkk
            clear hke hkk
            go_wp2_with fail
            exact ⟨⟨j2 + 1, acc2, by omega, by go_num, HS2.out.symm, by omega, HT5.out⟩, by simp [intOf]; omega⟩
        · have hjt : es.take j2 = es := List.take_of_length_le (by omega)
          rw [hjt] at HACC2
          clear hjt
          obtain ⟨lo, lcap, hlv, -, -, -⟩ := Row.shape (ownsRow_low htwo2.own (Nat.zero_le _))
          subst hlv
          obtain ⟨r0, r1, rf, rl⟩ := HRC.out.later HWW.out htwo2.bel
          have hB0r : Hid (Below w.heap.size w wr) := hB0.trans (htwo2.bel.mono hB0.size)
          clear htwo2
          go_wp2_with fail
          refine bodyPost_ret (v := valAgg 0 (.slice lo acc2.length lcap) 0) (by simp [results, Tryz.results88, go_sem, r0, r1]) rfl ⟨_, rfl, ?_, ?_⟩
          · have e : readSet key t.ops (setOf t.saw key ts) = acc2 := by
              unfold readSet; rw [HTL.out, HEL.out, HACC2.out, HACC.out]
            rw [e]
            have h1 := HW1.out
            exact ownsRow_low (ownsRow_setCell_below (ownsRow_setCell_below HTWO2.out.own (a := ⟨w.heap.size, 0, none⟩) (by show w.heap.size < w2.heap.size; omega) _) (a := ⟨w.heap.size, 1, none⟩) (by show w.heap.size < w2.heap.size; omega) _) (by omega)
          · exact (hB0r.out.setCell (Nat.le_refl _) _).setCell (Nat.le_refl _) _

end Go.Proofs.YtiplgdkpnhamaaaGreatDoor
