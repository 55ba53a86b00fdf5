/- The texts L10, joined. -/
import Derived.Test.YtiplgdkpnhamaaaGreatDoorW37
import Derived.Deep.DeepCutAuto
import Derived.BigRegion

/- The law's begun: all replicas of a group, or none. -/
namespace Go.Proofs.YtiplgdkpnhamaaaGreatDoor
open Go.RowKit

theorem Tryz.infoPP : (Tryz.prog.info? 45).map (fun i => (i.zero, i.size, i.bytes)) = some (some (.pointer none), 1, 8) := by kernel_rfl
theorem Tryz.infoPR : (Tryz.prog.info? 96).map (fun i => (i.zero, i.size, i.bytes)) = some (some (.pointer none), 1, 8) := by kernel_rfl
theorem fits_low (n : Int) : fitsB (-1) n = false := by simp [fitsB]
theorem fits_out {r n : Int} (h : ¬ (1 ≤ n ∧ n ≤ 5)) : fitsB r n = false := by simp only [fitsB, decide_eq_false_iff_not]; omega
theorem fits_top (n : Nat) : fitsB n n = false := by simp [fitsB]
theorem fits_in {k n : Nat} (h : k < n) (hn : n ≤ 5) : fitsB k n = true := by simp only [fitsB, decide_eq_true_eq]; omega

set_option maxRecDepth 100000 in
set_option maxHeartbeats 2000000 in
theorem begun_none (PR : World → (Nat → Tag) → Tag → Nat → Nat → Nat → DRep → Prop) (P : PApi PR) (w : World) (n first : Int) (hn : ¬ (1 ≤ n ∧ n ≤ 5)) :
    Calls Tryz.prog 16 #[.int .i64 n, .int .i64 first] w fun e w' => e = .returned (.tuple #[.pointer none, .bool true]) ∧ Below w.heap.size w w' := by
  have HF : Hid (∀ r, fitsB r n = false) := fun r => fits_out hn
  have HNO : Hid (∀ v i, Calls Tryz.prog 48 #[.int .i64 i, .int .i64 n] v fun e w' => e = .returned (.tuple #[.pointer none, .int .i64 1]) ∧ Below v.heap.size v w') := fun v i => P.newNo v i n (HF.out i)
  go_enter Tryz.func16, Tryz.ntmps16
  go_wp2_with fail
  go_loopw [7] (fun i wr => ∃ x : Int, -1 ≤ x ∧ x ≤ 9 ∧ i = .int .i64 x ∧ Hid (Below (w.heap.size + 2) ((w.alloc (.cells #[.int .i64 n, .slice none 0 0, .slice none 0 0] 89)).alloc (.cells #[.slice none 0 0, ptr w.heap.size, .slice none 0 0, .slice none 0 0, .slice none 0 0, .slice none 0 0, .slice none 0 0, .int .i64 first] 94)) wr)) (fun i _ => (9 - intOf i).toNat)
  case atStart => exact ⟨-1, by omega, by omega, rfl, Below.refl _ _⟩
  case round =>
    obtain ⟨x, hx1, hx2, rfl, hB⟩ := hrel
    by_cases hin : x ≤ n ∧ x < 9
    · obtain ⟨h1, h2⟩ := hin
      go_wp2_with fail
      refine (HNO.out _ x).mono ?_
      rintro e w1 ⟨rfl, hB1⟩
      have HB1 : Hid (Below (w.heap.size + 2) ((w.alloc (.cells #[.int .i64 n, .slice none 0 0, .slice none 0 0] 89)).alloc (.cells #[.slice none 0 0, ptr w.heap.size, .slice none 0 0, .slice none 0 0, .slice none 0 0, .slice none 0 0, .slice none 0 0, .int .i64 first] 94)) w1) := hB.out.trans (hB1.mono (by have := hB.out.size; simp at this; omega))
      clear hB1 hB
      go_wp2_with fail
      refine (fits_any x n w1).mono ?_
      rintro e w2 ⟨he, rfl⟩
      rw [HF.out x] at he
      subst he
      go_wp2_with fail
      exact ⟨⟨x + 1, by omega, by omega, by go_num, HB1.out⟩, by simp [intOf]; omega⟩
    · have c0 : wr.cell? ⟨w.heap.size + 1, 0, none⟩ = some (.slice none 0 0) := by
        rw [hB.out.cell (p := ⟨w.heap.size + 1, 0, none⟩) (by simp)]; simp [go_sem]
      have hl : w.heap.size + 1 < wr.heap.size := by have := hB.out.size; simp at this; omega
      have hB' : Hid (Below w.heap.size w wr) := (((Below.refl w.heap.size w).alloc (Nat.le_refl _) _).alloc (by simp) _).trans (hB.out.mono (by omega))
      clear hB
      by_cases hc : x ≤ n
      · have h9 : ¬ x < 9 := fun h => hin ⟨hc, h⟩
        clear hin
        go_wp2_with fail
        go_ret2
        exact ⟨rfl, hB'.out⟩
      · clear hin
        go_wp2_with fail
        go_ret2
        exact ⟨rfl, hB'.out⟩

set_option maxRecDepth 100000 in
set_option maxHeartbeats 40000000 in
theorem begun_ok (PR : World → (Nat → Tag) → Tag → Nat → Nat → Nat → DRep → Prop) (P : PApi PR) (s : Nat) (w : World) (n : Nat) (first : Int) (hn : 1 ≤ n) (hn5 : n ≤ 5) :
    Calls Tryz.prog 16 #[.int .i64 n, .int .i64 first] w fun e w' => ∃ wb gb o pb rb rsv rsvR, e = .returned (.tuple #[ptr wb, .bool true]) ∧ BegSt PR w w' o s wb gb n pb rb rsv rsvR first ∧ pb.length = n ∧ rb.length = n := by
  have H0 : Hid (BegSt PR w ((w.alloc (.cells #[.int .i64 n, .slice none 0 0, .slice none 0 0] 89)).alloc (.cells #[.slice none 0 0, ptr w.heap.size, .slice none 0 0, .slice none 0 0, .slice none 0 0, .slice none 0 0, .slice none 0 0, .int .i64 first] 94)) (upd (upd (fun _ => (0, 0, 0)) w.heap.size (s + 8, 0, 0)) (w.heap.size + 1) (s + 11, 0, 0)) s (w.heap.size + 1) w.heap.size n [] [] nilS nilS first) := by
    have s1 : (w.alloc (.cells #[.int .i64 n, .slice none 0 0, .slice none 0 0] 89)).heap.size = w.heap.size + 1 := by simp
    have hb := Bl.fresh (w.alloc (.cells #[.int .i64 n, .slice none 0 0, .slice none 0 0] 89)) (upd (fun _ => (0, 0, 0)) w.heap.size (s + 8, 0, 0)) [.slice none 0 0, ptr w.heap.size, .slice none 0 0, .slice none 0 0, .slice none 0 0, .slice none 0 0, .slice none 0 0, .int .i64 first] 94 (s + 11, 0, 0)
    rw [s1] at hb
    have hg := (Bl.fresh w (fun _ => (0, 0, 0)) [.int .i64 n, .slice none 0 0, .slice none 0 0] 89 (s + 8, 0, 0)).new (.cells #[.slice none 0 0, ptr w.heap.size, .slice none 0 0, .slice none 0 0, .slice none 0 0, .slice none 0 0, .slice none 0 0, .int .i64 first] 94) (s + 11, 0, 0)
    rw [s1] at hg
    have m1 := moved_new (B := lawTag s) w (fun _ => (0, 0, 0)) (.cells #[.int .i64 n, .slice none 0 0, .slice none 0 0] 89) (s + 8, 0, 0)
    have m2 := moved_new (B := lawTag s) (w.alloc (.cells #[.int .i64 n, .slice none 0 0, .slice none 0 0] 89)) (upd (fun _ => (0, 0, 0)) w.heap.size (s + 8, 0, 0)) (.cells #[.slice none 0 0, ptr w.heap.size, .slice none 0 0, .slice none 0 0, .slice none 0 0, .slice none 0 0, .slice none 0 0, .int .i64 first] 94) (s + 11, 0, 0)
    rw [s1] at m2
    exact ⟨hb, ⟨by simpa [ptrs] using World.ownsRow_nil _ _ _ _, fun q hq => by simp [Value.ownBlock] at hq⟩, hg, ⟨by simpa [ptrs] using World.ownsRow_nil _ _ _ _, fun q hq => by simp [Value.ownBlock] at hq⟩, fun i hi => by simp at hi, fun i hi => by simp at hi, m1.trans m2⟩
  obtain ⟨i0, hi, hz0, hz1, hz2⟩ := info_parts Tryz.infoPP
  obtain ⟨i1, hj, hy0, hy1, hy2⟩ := info_parts Tryz.infoPR
  have HFO : Hid (∀ (r : Int) v, Calls Tryz.prog 49 #[.int .i64 r, .int .i64 n] v fun e w' => e = .returned (.bool (fitsB r n)) ∧ w' = v) := fun r v => fits_any r n v
  go_enter Tryz.func16, Tryz.ntmps16
  go_wp2_with fail
  generalize ((w.alloc (.cells #[.int .i64 n, .slice none 0 0, .slice none 0 0] 89)).alloc (.cells #[.slice none 0 0, ptr w.heap.size, .slice none 0 0, .slice none 0 0, .slice none 0 0, .slice none 0 0, .slice none 0 0, .int .i64 first] 94)) = W0 at *
  generalize (upd (upd (fun _ => ((0, 0, 0) : Tag)) w.heap.size (s + 8, 0, 0)) (w.heap.size + 1) (s + 11, 0, 0)) = oo at *
  generalize w.heap.size + 1 = wb at *
  generalize hgb : w.heap.size = gb at *
  clear hgb
  go_loopw [7] (fun i wr => ∃ (o : Nat → Tag) (pb rb : List Nat) (rsv rsvR : Value), Hid (BegSt PR w wr o s wb gb n pb rb rsv rsvR first) ∧ rb.length = pb.length ∧ ((i = .int .i64 (-1) ∧ pb.length = 0) ∨ (i = .int .i64 pb.length ∧ pb.length ≤ n) ∨ (i = .int .i64 ((n : Int) + 1) ∧ pb.length = n))) (fun i _ => ((n : Int) + 1 - intOf i).toNat)
  case atStart => exact ⟨oo, [], [], nilS, nilS, H0.out, rfl, Or.inl ⟨rfl, rfl⟩⟩
  case round =>
    clear H0
    obtain ⟨o, pb, rb, rsv, rsvR, hst, hlen, hcase⟩ := hrel
    rcases hcase with ⟨rfl, hl0⟩ | ⟨rfl, hle⟩ | ⟨rfl, hln⟩
    · go_wp2_with fail
      refine (P.newNo _ (-1) n (fits_low n)).mono ?_
      rintro e w1 ⟨rfl, hB1⟩
      have HST := hide (hst.out.same_o P hB1)
      clear hst hB1
      go_wp2_with fail
      refine (HFO.out (-1) w1).mono ?_
      rintro e w2 ⟨he, rfl⟩
      rw [fits_low] at he
      subst he
      go_wp2_with fail
      exact ⟨⟨o, pb, rb, rsv, rsvR, HST.out, hlen, Or.inr (Or.inl ⟨by rw [hl0]; rfl, by omega⟩)⟩, by simp [intOf]; omega⟩
    · by_cases hlt : pb.length < n
      · go_wp2_with fail
        refine (P.newOk _ pb.length n (fits_in hlt hn5)).mono ?_
        rintro e w1 ⟨b, rfl, hB1, hnew⟩
        have HPR := hide (hnew o (s + 1, pb.length, 0))
        have HST := hide (hst.out.below P hB1 fun _ => (s + 1, pb.length, 0))
        clear hst hB1 hnew
        generalize own2 o wr.heap.size (fun _ => (s + 1, pb.length, 0)) = o1 at *
        go_wp2_with fail
        refine (HFO.out pb.length w1).mono ?_
        rintro e w2 ⟨he, rfl⟩
        rw [fits_in hlt hn5] at he
        subst he
        have c1 : w2.cell? ⟨wb, 1, none⟩ = some (ptr gb) := HST.out.blk.blk.cell 1
        have hwl := HST.out.blk.blk.lt
        have HG := hide HST.out.grp.blk
        go_wp2_with fail
        refine (new_any w2 gb n pb.length _ _ hn hn5 HG.out).mono ?_
        rintro e w3 ⟨b2, on, vv, kv, gv, rfl, N⟩
        have HRR := hide (N.ref (s := s) (o1 := o1))
        have HST3 := hide (HST.out.below P N.bel fun q => if q = b2 then (s + 2, pb.length, 0) else if vv.ownBlock = some q then (s + 3, pb.length, 0) else (s + 7, pb.length, 0))
        have HPR3 := hide (P.move HPR.out fun q hq (e : o1 q = _) => ⟨N.bel.block q hq, (own2_low (f := fun q => if q = b2 then (s + 2, pb.length, 0) else if vv.ownBlock = some q then (s + 3, pb.length, 0) else (s + 7, pb.length, 0)) hq).trans e⟩)
        clear HST HPR HG N c1 hwl
        generalize own2 o1 w2.heap.size (fun q => if q = b2 then (s + 2, pb.length, 0) else if vv.ownBlock = some q then (s + 3, pb.length, 0) else (s + 7, pb.length, 0)) = o3 at *
        obtain ⟨ro, rcap, rfl, -, -, -⟩ := HST3.out.rs.row.shape
        obtain ⟨qo, qcap, rfl, -, -, -⟩ := HST3.out.rrs.row.shape
        have c0 : w3.cell? ⟨wb, 0, none⟩ = some (.slice ro pb.length rcap) := HST3.out.blk.blk.cell 0
        have hwl := HST3.out.blk.blk.lt
        go_wp2_with (at_builtin; refine wpList_append_own_at _ rfl _ _ 40 rfl 0 45 i0 (.pointer none) 1 8 Tryz.underlying40 hi hz0 hz1 hz2 rfl (by decide) _ _ _ rfl (World.ownsRow.alloc HST3.out.rs.row _) ⟨w3.heap.size, 0, none⟩ 1 1 [ptr b] rfl rfl (cell_one_new _ _ _) (by intro u hu; simp at hu; subst hu; rfl) (by unfold maxLen; omega) (by omega) (Nat.zero_le _) ?_; intro v1 w4 hown1 hgrow1 hnil1 hat1; obtain ⟨g1, cap1, rfl, -, -, -, -, -⟩ := Row.pos hown1 (by omega); have hB1 := (HST3.out.blk.alloc _).grew hgrow1 HST3.out.rs.tag (by simp); have q3 := hB1.blk.cell 0; have p3 := hB1.blk.frozen 0; have hl1 := hB1.blk.lt; clear hB1)
        obtain ⟨hst4, T4⟩ := HST3.out.putP P HPR3.out hown1 hgrow1 hat1
        have HRR4 := hide (HRR.out.touch T4 fun t ht c => by rcases ht with rfl | rfl | rfl | ⟨x, rfl | rfl⟩ <;> simp at c)
        have HST4 := hide hst4
        clear hst4 T4 HRR HST3 HPR3 hown1 hgrow1 hat1 hnil1 q3 p3 hl1 c0 hwl
        generalize World.setCell _ _ _ = W4 at *
        generalize upd o3 _ (s + 11, 1, 0) = o4 at *
        have c1 : W4.cell? ⟨wb, 1, none⟩ = some (ptr gb) := HST4.out.blk.blk.cell 1
        have g1' : W4.cell? ⟨gb, 1, none⟩ = some (.slice qo rb.length qcap) := HST4.out.grp.blk.cell 1
        have hwl := HST4.out.blk.blk.lt
        have hgl := HST4.out.grp.blk.lt
        have hrb : rb.length ≤ 5 := by omega
        have HLN := hide hlen
        have BUN := hide (⟨HST4.out, HRR4.out⟩ : _ ∧ _)
        clear HST4 HRR4 HFO hi hz0 hz1 hz2 hlen
        go_region_law (refine step_append_own rfl _ _ 86 rfl 96 i1 (.pointer none) 1 8 Tryz.underlying86 hj hy0 hy1 hy2 rfl (by decide) (.slice qo rb.length qcap) rb.length (ptrs rb) (by simp [Act.eval]) (by exact World.ownsRow.alloc BUN.out.1.rrs.row _) ⟨W4.heap.size, 0, none⟩ 1 1 [ptr b2] (by simp [Act.eval]) rfl (by exact news1 _ _ _) (by intro u hu; simp at hu; subst hu; rfl) (by unfold maxLen; omega) (by omega) ?_; intro v2 w5 hown2 hgrow2 hat2; obtain ⟨g2, cap2, rfl, -, -, -, -, -⟩ := Row.pos hown2 (by omega); have hg2 : (W4.alloc (.cells #[ptr b2] 96)).grownBy w5 (Value.slice qo rb.length qcap).ownBlock := ⟨hgrow2.os, hgrow2.tape, hgrow2.output, hgrow2.size, hgrow2.block⟩; have hB1 := (BUN.out.1.grp.alloc _).grew hg2 BUN.out.1.rrs.tag (by simp); have q4 := hB1.blk.cell 1; have p4 := hB1.blk.frozen 1; have hl1 := hB1.blk.lt; have hB2 := (BUN.out.1.blk.alloc (.cells #[ptr b2] 96)).grew hg2 BUN.out.1.rrs.tag (by simp); have q5 := hB2.blk.cell 1; have hl5 := hB2.blk.lt; clear hB1 hB2 hgrow2)
        all_goals as_aux_lemma =>
          have HST5 := hide (BUN.out.1.putR P (HLN.out.symm ▸ BUN.out.2) hown2 hg2 hat2)
          clear BUN hown2 hg2 hat2 c1 g1' hwl hgl q4 p4 hl1 q5 hl5
          go_wp2_with fail
          exact ⟨⟨_, pb ++ [b], rb ++ [b2], _, _, HST5.out, by simp [HLN.out], Or.inr (Or.inl ⟨by simp, by simp; omega⟩)⟩, by simp [intOf]; omega⟩
      · have hln : pb.length = n := by omega
        subst hln
        clear hlt hle
        go_wp2_with fail
        refine (P.newNo _ pb.length pb.length (fits_top pb.length)).mono ?_
        rintro e w1 ⟨rfl, hB1⟩
        have HST := hide (hst.out.same_o P hB1)
        clear hst hB1
        go_wp2_with fail
        refine (HFO.out pb.length w1).mono ?_
        rintro e w2 ⟨he, rfl⟩
        rw [fits_top] at he
        subst he
        go_wp2_with fail
        exact ⟨⟨o, pb, rb, rsv, rsvR, HST.out, hlen, Or.inr (Or.inr ⟨by go_num, rfl⟩)⟩, by simp [intOf]⟩
    · obtain ⟨ro, rcap, rfl, -, -, -⟩ := hst.out.rs.row.shape
      have c0 : wr.cell? ⟨wb, 0, none⟩ = some (.slice ro pb.length rcap) := hst.out.blk.blk.cell 0
      have hwl := hst.out.blk.blk.lt
      have hpe : ((pb.length : Int) == 0) = false := beq_false_of_ne (by omega)
      go_wp2_with fail
      go_ret2
      first | exact ⟨wb, gb, o, pb, rb, _, rsvR, rfl, hst.out, hln, by omega⟩ | exact ⟨wb, rfl, gb, o, pb, rb, _, rsvR, hst.out, hln, by omega⟩ | exact ⟨wb, rfl, gb, o, pb, rb, ⟨_, rsvR, hst.out⟩, hln, by omega⟩ | exact ⟨wb, rfl, gb, o, pb, rb, ⟨_, rsvR, hst.out, hln, by omega⟩⟩

end Go.Proofs.YtiplgdkpnhamaaaGreatDoor
