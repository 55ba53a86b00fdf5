/- The texts QC5, joined. -/
import Derived.Test.YtiplgdkpnhamaaaGreatDoorK45

namespace Go.Proofs.YtiplgdkpnhamaaaGreatDoor.Tv
open Go.RowKit
theorem put_put {α : Type} (f : Nat → α) (i : Nat) (x y : α) : put (put f i x) i y = put f i y := by
  funext j
  by_cases c : j = i
  · subst c; rw [put_same, put_same]
  · rw [put_other c, put_other c, put_other c]
theorem put_none (i : Nat) : put (fun _ => (none : Option (List ROp))) i none = fun _ => none := by
  funext j
  by_cases c : j = i <;> simp [put, c]
theorem pick_one : pickOf 1 4 = 1 := by decide
set_option maxRecDepth 100000 in
set_option maxHeartbeats 4000000 in
theorem causal_any {w : World} (ht : Tabs w) (sv : Value) (os : List Int) (hos : OrdIn w sv os) (m : Int) (hm : -9223372036854775808 ≤ m) (hm' : m ≤ 9223372036854775807) :
    Calls Tryz.prog 9 #[sv, .int .i64 m] w fun e w' => e = .returned (.bool true) ∧ Below w.heap.size w w' := by
  obtain ⟨i0, hi, hz0, hz1, hz2⟩ := info_parts Tryz.infoStr
  have HI := hide (⟨hi, hz0, hz1, hz2⟩ : _ ∧ _ ∧ _ ∧ _)
  clear hi hz0 hz1 hz2
  have HRm : Hid (6 ≤ w.heap.size) := ht.room
  have hmd := made_any ht 1 (by omega) (by omega)
  rw [pick_one] at hmd
  have HMd : Hid (Calls Tryz.prog 20 #[.int .i64 1] w (MadeEnd 3 w)) := hmd
  have hp6 := fun W => kpick_any m 6 W (by omega) (by omega) hm hm'
  have hp2 := fun W => kpick_any m 2 W (by omega) (by omega) hm hm'
  have hl6 := pickOf_lt m 6 (by omega)
  generalize pickOf m 6 = k6 at hp6 hl6
  generalize pickOf m 2 = k2 at hp2
  have HP6 := hide hp6
  have HP2 := hide hp2
  have HDx : Hid (∀ (z : Nat) W, z < 9 → Calls Tryz.prog 31 #[.int .i64 z] W fun e w' => e = .returned (.string (wE z)) ∧ Below W.heap.size W w') := fun z W hz => by
    have := digits_any (z : Int) W (by omega) (by omega)
    rwa [dig_small hz] at this
  obtain ⟨ao, cp, esv, -⟩ := hos.ex
  have HOS := hide hos
  subst esv
  clear hmd hp6 hp2 ht hm hm' hos
  go_enter Tryz.func9, Tryz.ntmps9
  go_wp2_with fail
  refine HMd.out.mono ?_
  rintro e w1 ⟨gb, rv, B, o, rfl, h1, h2, h3, -⟩
  obtain ⟨g, cap, erv, -⟩ := Row.pos h2.row.row (by omega)
  subst erv
  have HC : Hid (Cs w gb g cap B [] (fun _ => []) (fun _ => none) (.slice none 0 0) [] w1 o) := ⟨h1, h2, h3, ⟨World.ownsRow_nil _ _ _ _, fun q hq => by cases hq⟩, fun t ht => by cases ht⟩
  clear h1 h2 h3 HMd
  obtain ⟨c0, ⟨-, -, c2⟩, hgl, hgl2⟩ := HC.out.cells
  go_wp2_with fail
  refine (HC.out.summary (b := 2) (by omega)).mono ?_
  rintro e w2 ⟨rfl, o2, HC2⟩
  clear HC c0 c2 hgl hgl2
  go_wp2_with fail
  refine (HP6.out _).mono ?_
  rintro e w3 ⟨rfl, hw⟩
  have hw' := hw.symm
  subst hw'
  clear hw HP6
  go_wp2_with fail
  have e1 : (1 : Int) + (k6 : Int) = ((1 + k6 : Nat) : Int) := by omega
  rw [e1]
  clear e1
  generalize hlast : 1 + k6 = last at *
  have hl1 : 1 ≤ last := by omega
  have hl6' : last ≤ 6 := by omega
  clear hlast hl6
  go_loopw [6, 9] (fun lv iv wr => ∃ (k : Nat) (oo : Nat → Tag) (ts : List RTx) (H : Nat → List RTx) (ss : List ByteArray), k ≤ last ∧ iv = .int .i64 k ∧ Hid (Cs w gb g cap B ts H (fun _ => none) lv ss wr oo ∧ Round k ts ∧ ss.length = 2 * k)) (fun _ iv _ => last - (intOf iv).toNat)
  case atStart => exact ⟨0, o2, [], _, [], by omega, rfl, HC2.out.1, Round.nil, rfl⟩
  case round =>
    clear HC2
    obtain ⟨k, oo, ts, H, ss, hkl, rfl, HA⟩ := hrel
    by_cases hk : k < last
    · as_aux_lemma =>
        obtain ⟨hA, hR, hss⟩ := HA.out
        have HR := hide (⟨hR, hss⟩ : _ ∧ _)
        have H1 := hide hA
        obtain ⟨c0, ⟨ca, -, -⟩, hgl, hgl2⟩ := hA.cells
        clear HA hA hR hss
        go_wp2_with fail
        refine (H1.out.begins (i := 0) (by omega) rfl).mono ?_
        rintro e w4 ⟨rfl, o4, H4⟩
        clear H1 c0 ca hgl hgl2
        go_upto_region 11 with (fail)
        obtain ⟨c0, ⟨ca, -, -⟩, hgl, hgl2⟩ := H4.out.1.cells
        have m0 := Bel.cell c0
        have m1 := Bel.cell ca
        have HD : Hid (∀ f : Fam (Bel w4), Calls Tryz.prog 31 #[.int .i64 k] f.w fun e w'' => e = .returned (.string (wE k)) ∧ ∃ g : Fam (Bel w4), w'' = g.w) := fun f => Bel.call f (HDx.out _ f.w (by omega))
        clear c0 ca
        refine region_fam_tail (Bel w4) 9 (by kernel_rfl) (by kernel_rfl) (Below.refl _ _).drew ?_
        simp only [List.take_succ_cons, List.take_zero, List.drop_succ_cons, List.drop_zero]
        repeat (go_big_quiet_step (first | (go_at_call 31; exact HD.out _)))
        refine wpQuiet_nil ?_
        intro _ hw'
        obtain ⟨fq, rfl⟩ := hw'
        obtain ⟨w5, hB5⟩ := fq
        try dsimp only
        have H5 := H4.out.1.below hB5 (13, 0, 0)
        clear H4 m0 m1 HD hB5 hgl hgl2
        generalize (own2 o4 w4.heap.size fun _ => (13, 0, 0)) = o5 at *
        go_wp2_with fail
        refine (H5.out.1.ins (i := 0) (by omega) (put_same _ _ _) (by simp) kQ kind_q (by show 2 ≤ maxLen; unfold maxLen; omega) k).mono ?_
        rintro e w6 ⟨rfl, o6, H6⟩
        clear H5
        obtain ⟨c0, ⟨ca, -, -⟩, hgl, hgl2⟩ := H6.out.1.cells
        go_wp2_with fail
        refine (H6.out.1.commit (i := 0) (by omega) (put_same _ _ _) (by simp) (by rw [HR.out.1.len]; omega)).mono ?_
        rintro e w7 ⟨rfl, o7, H7⟩
        have hc00 : cntR (H 0) 0 = k := by rw [← H6.out.1.gn.own (by omega), HR.out.1.c0]
        clear H6 c0 ca hgl hgl2
        obtain ⟨h7, -⟩ := H7.out
        rw [put_put, put_put, put_none] at h7
        have HH : Hid (Half k (ts ++ [mkT 3 0 (H 0) [insOp kQ k]]) ∧ ss.length = 2 * k) := ⟨HR.out.1.ask (is_q hc00), HR.out.2⟩
        have H7' : Hid (Cs w gb g cap B (ts ++ [mkT 3 0 (H 0) [insOp kQ k]]) (put H 0 (H 0 ++ [mkT 3 0 (H 0) [insOp kQ k]])) (fun _ => none) _ ss w7 o7) := h7
        clear H7 h7 HR
        generalize ts ++ [mkT 3 0 (H 0) [insOp kQ k]] = ts1 at *
        generalize put H 0 (H 0 ++ [mkT 3 0 (H 0) [insOp kQ k]]) = H1 at *
        as_aux_lemma =>
          go_upto_region 13 with (fail)
          generalize hw8 : World.alloc w7 _ = w8
          have hB : Below w7.heap.size w7 w8 := by rw [← hw8]; exact (Below.refl _ _).alloc (Nat.le_refl _) _
          have H8 := H7'.out.below hB (13, 0, 0)
          clear H7' hB hw8
          generalize (own2 o7 w7.heap.size fun _ => (13, 0, 0)) = o8 at *
          generalize w7.heap.size = db7
          obtain ⟨c0, ⟨ca, cb, -⟩, hgl, hgl2⟩ := H8.out.1.cells
          have m0 := Bel.cell c0
          have m1 := Bel.cell ca
          have m2 := Bel.cell cb
          clear c0 ca cb
          refine region_fam_tail (Bel w8) 12 (by kernel_rfl) (by kernel_rfl) (Below.refl _ _).drew ?_
          simp only [List.take_succ_cons, List.take_zero, List.drop_succ_cons, List.drop_zero]
          repeat (go_big_quiet_step (fail))
          refine wpQuiet_nil ?_
          intro _ hw'
          obtain ⟨fq, rfl⟩ := hw'
          obtain ⟨w9, hB9⟩ := fq
          try dsimp only
          have H9 := H8.out.1.below hB9 (13, 0, 0)
          clear H8 m0 m1 m2 hB9 hgl hgl2
          generalize (own2 o8 w8.heap.size fun _ => (13, 0, 0)) = o9 at *
          go_wp2_with fail
          refine (H9.out.1.tells (a := 0) (b := 1) (by omega) (by omega) rfl).mono ?_
          rintro e wa ⟨hs, HF, rfl, oa, Ha⟩
          have hO0 := H9.out.1.gn.own (i := 0) (by omega)
          have hO1 := Ha.out.1.gn.own (i := 1) (by omega)
          have hH1 := Ha.out.1.gn.histAt (i := 1) (by omega)
          rw [put_same] at hO1 hH1
          obtain ⟨q0, q1⟩ := HH.out.1.heard Ha.out.1.gn.hist hH1.1 hH1.2 hO1 (c := cntR (H1 0) 0) (by rw [← hO0, HH.out.1.c0]) (HF.out 0 (by omega))
          have HQ := hide (⟨q0, q1, hH1⟩ : _ ∧ _ ∧ _ ∧ _)
          clear H9 HF hO0 hO1 hH1 q0 q1
          obtain ⟨c0, ⟨-, cb, -⟩, hgl, hgl2⟩ := Ha.out.1.cells
          go_wp2_with fail
          refine (Ha.out.1.begins (i := 1) (by omega) rfl).mono ?_
          rintro e wb ⟨rfl, ob, Hb⟩
          clear Ha c0 cb hgl hgl2
          have hrd := Hb.out.1.read (i := 1) (by omega) (put_same _ _ _) kQ (by show 2 ≤ maxLen; unfold maxLen; omega) (6, 0, 0) (by simp [tg1]) (l := digs (k + 1)) (by rw [put_same, read_q (k := k + 1) (by omega) HQ.out.2.2.1 (HH.out.1.talk.sub HQ.out.2.2.2), HQ.out.1])
          simp only [digs_len] at hrd
          have HRD := hide hrd
          clear hrd
          obtain ⟨c0, ⟨-, cb, -⟩, hgl, hgl2⟩ := Hb.out.1.cells
          go_wp2_with fail
          refine HRD.out.mono ?_
          rintro e wc ⟨al, cl, oc, rfl, Hc, -⟩
          clear HRD Hb c0 cb hgl hgl2
          as_aux_lemma =>
            go_upto_region 16 with (fail)
            generalize hwd : World.alloc wc _ = wd
            have hB : Below wc.heap.size wc wd := by rw [← hwd]; exact (Below.refl _ _).alloc (Nat.le_refl _) _
            have Hd := Hc.out.1.below hB (5, 0, 0)
            have HX : Hid (Bl wd (own2 oc wc.heap.size fun _ => (5, 0, 0)) (5, 0, 0) wc.heap.size [.int .i64 0, .slice al (k + 1) cl] 66) := ⟨by rw [← hwd]; exact heap_alloc_new wc _, own2_high (Nat.le_refl _)⟩
            clear Hc hB hwd
            generalize (own2 oc wc.heap.size fun _ => (5, 0, 0)) = od at *
            generalize wc.heap.size = vb at *
            obtain ⟨c0, ⟨-, cb, -⟩, hgl, hgl2⟩ := Hd.out.1.cells
            have m0 := Bel.cell c0
            have m1 := Bel.cell cb
            have HD : Hid (∀ f : Fam (Bel wd), Calls Tryz.prog 31 #[.int .i64 k] f.w fun e w'' => e = .returned (.string (wE k)) ∧ ∃ g : Fam (Bel wd), w'' = g.w) := fun f => Bel.call f (HDx.out _ f.w (by omega))
            clear c0 cb
            refine region_fam_tail (Bel wd) 9 (by kernel_rfl) (by kernel_rfl) (Below.refl _ _).drew ?_
            simp only [List.take_succ_cons, List.take_zero, List.drop_succ_cons, List.drop_zero]
            repeat (go_big_quiet_step (first | (go_at_call 31; exact HD.out _)))
            refine wpQuiet_nil ?_
            intro _ hw'
            obtain ⟨fq, rfl⟩ := hw'
            obtain ⟨we, hBe⟩ := fq
            try dsimp only
            have He := Hd.out.1.below hBe (13, 0, 0)
            have HXe := hide (HX.out.touch He.out.2 (not_grp (by omega)))
            clear Hd HX m0 m1 HD hBe hgl hgl2
            generalize (own2 od wd.heap.size fun _ => (13, 0, 0)) = oe at *
            go_wp2_with fail
            refine (He.out.1.ins (i := 1) (by omega) (put_same _ _ _) (by simp) kA kind_a (by show 2 ≤ maxLen; unfold maxLen; omega) k).mono ?_
            rintro e wf ⟨rfl, of_, Hf⟩
            have HXf := hide (HXe.out.touch Hf.out.2 (not_grp (by omega)))
            clear He HXe
            obtain ⟨c0, ⟨-, cb, -⟩, hgl, hgl2⟩ := Hf.out.1.cells
            go_wp2_with fail
            refine (Hf.out.1.commit (i := 1) (by omega) (put_same _ _ _) (by simp) (by rw [HH.out.1.len]; omega)).mono ?_
            rintro e wg ⟨rfl, og, Hg⟩
            have HXg := hide (HXf.out.touch Hg.out.2 (not_grp (by omega)))
            clear Hf HXf c0 cb hgl hgl2
            obtain ⟨h7, -⟩ := Hg.out
            simp only [put_put, put_none, put_same] at h7
            have HN : Hid (Round (k + 1) (ts1 ++ [mkT 3 1 hs [insOp kA k]]) ∧ ss.length = 2 * k) := ⟨HH.out.1.reply (is_a HQ.out.2.1 HQ.out.1), HH.out.2⟩
            have Hg' : Hid (Cs w gb g cap B (ts1 ++ [mkT 3 1 hs [insOp kA k]]) (put H1 1 (hs ++ [mkT 3 1 hs [insOp kA k]])) (fun _ => none) _ ss wg og) := h7
            clear Hg h7 HH HQ
            generalize ts1 ++ [mkT 3 1 hs [insOp kA k]] = ts2 at *
            generalize put H1 1 (hs ++ [mkT 3 1 hs [insOp kA k]]) = H2 at *
            as_aux_lemma =>
              have z1 : wg.cell? ⟨vb, 1, none⟩ = some (.slice al (k + 1) cl) := HXg.out.blk.cell 1
              have vl := HXg.out.blk.lt
              obtain ⟨c0, ⟨-, -, cc⟩, hgl, hgl2⟩ := Hg'.out.cells
              go_wp2_with fail
              generalize hwh : World.alloc wg _ = wh
              have hB : Below wg.heap.size wg wh := by rw [← hwh]; exact (Below.refl _ _).alloc (Nat.le_refl _) _
              have Hh := Hg'.out.below hB (13, 0, 0)
              clear Hg' HXg hB hwh z1 vl c0 cc hgl hgl2
              generalize (own2 og wg.heap.size fun _ => (13, 0, 0)) = oh at *
              generalize wg.heap.size = dbg
              refine (Hh.out.1.summary (b := 2) (by omega)).mono ?_
              rintro e wi ⟨rfl, oi, Hi⟩
              clear Hh
              go_wp2_with fail
              refine (HP2.out _).mono ?_
              rintro e wj ⟨rfl, hw⟩
              have hw' := hw.symm
              subst hw'
              clear hw
              go_upto_if 205 with (fail)
              go_cut [23] (fun tv wz => ∃ hs2, tv = .string (sumX 3 2 hs2) ∧ Hid (HistG 3 hs2 ∧ ∀ u, u ∈ hs2 → u ∈ ts2) ∧ wz = wi)
              case first =>
                have HE : Hid (HistG 3 [] ∧ ∀ u, u ∈ ([] : List RTx) → u ∈ ts2) := ⟨⟨by omega, fun j hj => absurd hj (Nat.not_lt_zero _)⟩, fun u hu => by cases hu⟩
                have HS : Hid (HistG 3 (H2 2) ∧ ∀ u, u ∈ H2 2 → u ∈ ts2) := Hi.out.1.gn.histAt (by omega)
                by_cases c : k2 = 0
                · as_aux_lemma =>
                    have c' : (k2 : Int) = 0 := by omega
                    clear HDx HN Hi HOS
                    go_wp2_with fail
                    all_goals go_meet
                    all_goals exact ⟨_, rfl, HE.out, rfl⟩
                · as_aux_lemma =>
                    have c' : ¬ (k2 : Int) = 0 := by omega
                    clear HDx HN Hi HOS
                    go_wp2_with fail
                    all_goals go_meet
                    all_goals exact ⟨_, rfl, HS.out, rfl⟩
              case rest =>
                obtain ⟨hs2, rfl, HS2, hwz⟩ := hcut
                have hw' := hwz.symm
                subst hw'
                clear hwz
                as_aux_lemma =>
                  obtain ⟨c0, ⟨-, cb, -⟩, hgl, hgl2⟩ := Hi.out.1.cells
                  go_wp2_with fail
                  refine (Hi.out.1.answer (a := 1) (by omega) HS2.out.1 HS2.out.2 (b := 2) (by omega)).mono ?_
                  rintro e wj ⟨t1, HT1, rfl, oj, Hj⟩
                  clear Hi c0 cb hgl hgl2
                  obtain ⟨c0, ⟨ca, -, -⟩, hgl, hgl2⟩ := Hj.out.1.cells
                  go_wp2_with fail
                  refine (Hj.out.1.answer (a := 0) (by omega) HS2.out.1 HS2.out.2 (b := 2) (by omega)).mono ?_
                  rintro e wk ⟨t2, HT2, rfl, ok, Hk⟩
                  clear Hj c0 ca hgl hgl2 HS2
                  obtain ⟨ao1, cp1, elv, -⟩ := Hk.out.1.row.row.shape
                  rw [HN.out.2] at elv
                  subst elv
                  have hrw : Hid (wk.ownsRow 0 9 1 (.slice ao1 (2 * k) cp1) (2 * k) (strs ss)) := by
                    have := Hk.out.1.row.row
                    rwa [HN.out.2] at this
                  go_upto_region 28 with (at_builtin; refine wpList_append_own_at _ rfl _ _ 41 rfl 0 9 i0 (.string ⟨#[]⟩) 1 16 Tryz.underlying41 HI.out.1 HI.out.2.1 HI.out.2.2.1 HI.out.2.2.2 rfl (by decide) _ _ _ rfl (World.ownsRow.alloc hrw.out _) ⟨wk.heap.size, 0, none⟩ 2 2 [.string t1, .string t2] rfl rfl (news_at (heap_alloc_new _ _)) (by intro u hu; simp at hu; rcases hu with rfl | rfl <;> rfl) (by unfold maxLen; omega) (by omega) (Nat.zero_le _) ?_; intro v6 w6 hown6 hgrow6 hnil6 hat6)
                  obtain ⟨o6, h6⟩ := (Hk.out.1.below ((Below.refl _ _).alloc (Nat.le_refl _) _) (13, 0, 0)).out.1.app HRm.out (by rw [HN.out.2]; exact hown6) hgrow6 hat6 HT1.out HT2.out
                  have H6 := hide (⟨h6, by simp [HN.out.2, Nat.mul_add]⟩ : _ ∧ (ss ++ [t1, t2]).length = 2 * (k + 1))
                  clear h6 Hk hrw hown6 hgrow6 hnil6 hat6 HT1 HT2
                  go_cut [251] (fun bv wz => ∃ b, bv = .bool b ∧ wz = w6)
                  case first =>
                    by_cases c : k < os.length
                    · as_aux_lemma =>
                        obtain ⟨ao', cp', e1, hc⟩ := HOS.out.ex
                        cases e1
                        obtain ⟨go, off, e2, hgo, hco⟩ := hc k c
                        subst e2
                        have hB6 := at0_below H6.out.1.at0
                        have z1 := cell_later hB6 hco
                        have zl : go < w6.heap.size := Nat.lt_of_lt_of_le hgo hB6.size
                        have c' : (k : Int) < os.length := by omega
                        have hmx := HOS.out.most
                        generalize os[k] = x at *
                        clear hc HDx HN H6 HOS hB6 hco HP2 hgo
                        go_wp2_with fail
                        all_goals go_meet
                        all_goals exact ⟨_, rfl, rfl⟩
                    · as_aux_lemma =>
                        have c' : ¬ (k : Int) < os.length := by omega
                        clear HDx HN H6 HOS HP2
                        go_wp2_with fail
                        all_goals go_meet
                        all_goals exact ⟨_, rfl, rfl⟩
                  case rest =>
                    obtain ⟨b, rfl, hwz⟩ := hcut
                    have hw' := hwz.symm
                    subst hw'
                    clear hwz
                    cases b with
                    | false =>
                      as_aux_lemma =>
                        go_wp2_with fail
                        exact ⟨⟨k + 1, o6, ts2, H2, _, by omega, by simp, H6.out.1, HN.out.1, H6.out.2⟩, by simp [intOf]; omega⟩
                    | true =>
                      as_aux_lemma =>
                        go_upto_region 29 with (fail)
                        obtain ⟨c0, ⟨ca, cb, -⟩, hgl, hgl2⟩ := H6.out.1.cells
                        have m0 := Bel.cell c0
                        have m1 := Bel.cell ca
                        have m2 := Bel.cell cb
                        clear c0 ca cb
                        refine region_fam_tail (Bel w6) 12 (by kernel_rfl) (by kernel_rfl) (Below.refl _ _).drew ?_
                        simp only [List.take_succ_cons, List.take_zero, List.drop_succ_cons, List.drop_zero]
                        repeat (go_big_quiet_step (fail))
                        refine wpQuiet_nil ?_
                        intro _ hw'
                        obtain ⟨fq, rfl⟩ := hw'
                        obtain ⟨w9, hB9⟩ := fq
                        try dsimp only
                        have H9 := H6.out.1.below hB9 (13, 0, 0)
                        clear m0 m1 m2 hB9 hgl hgl2
                        go_wp2_with fail
                        refine (H9.out.1.tells (a := 1) (b := 0) (by omega) (by omega) rfl).mono ?_
                        rintro e wa ⟨hs3, -, rfl, oa, Ha⟩
                        go_wp2_with fail
                        exact ⟨⟨k + 1, oa, ts2, put H2 0 hs3, _, by omega, by simp, Ha.out.1, HN.out.1, H6.out.2⟩, by simp [intOf]; omega⟩
    · as_aux_lemma =>
        have hkl' : k = last := by omega
        subst hkl'
        obtain ⟨hA, hR, hss⟩ := HA.out
        obtain ⟨L, hL⟩ : ∃ L, 2 * k = L := ⟨_, rfl⟩
        rw [hL] at hss
        obtain ⟨ao1, cp1, elv, -⟩ := hA.row.row.shape
        rw [hss] at elv
        subst elv
        have HR := hide (⟨hR, hss⟩ : _ ∧ _)
        have H1 := hide hA
        have hL2 : 2 ≤ L := by omega
        have hL12 : L ≤ 12 := by omega
        clear HA hA hR hss hL hk hkl HP2
        go_wp2_with fail
        go_loopw [29] (fun iv wz => ∃ (j : Nat) (oz : Nat → Tag) (Hz : Nat → List RTx), j ≤ os.length ∧ iv = .int .i64 j ∧ Hid (Cs w gb g cap B ts Hz (fun _ => none) (.slice ao1 L cp1) ss wz oz)) (fun iv _ => os.length - (intOf iv).toNat)
        case atStart => exact ⟨0, oo, H, Nat.zero_le _, rfl, H1.out⟩
        case round =>
          clear H1
          obtain ⟨j, oz, Hz, hjl, rfl, HZ⟩ := hrel
          by_cases hj : j < os.length
          · as_aux_lemma =>
              obtain ⟨ao', cp', e1, hc⟩ := HOS.out.ex
              cases e1
              obtain ⟨go, off, e2, hgo, hco⟩ := hc j hj
              subst e2
              have hB6 := at0_below HZ.out.at0
              have z1 := cell_later hB6 hco
              have zl : go < wr.heap.size := Nat.lt_of_lt_of_le hgo hB6.size
              have c' : (j : Int) < os.length := by omega
              have hfit := HOS.out.fits j hj
              have hmx : os.length ≤ 9223372036854775807 := by have := HOS.out.most; unfold maxLen at this; omega
              generalize os[j] = x at z1 hfit
              have HPk : Hid (∀ f : Fam (Bel wr), Calls Tryz.prog 29 #[.int .i64 x, .int .i64 L] f.w fun e w'' => e = .returned (.int .i64 (pickOf x L)) ∧ ∃ g : Fam (Bel wr), w'' = g.w) := fun f => Bel.call f ((kpick_any x L f.w (by omega) (by omega) hfit.1 hfit.2).mono fun e w' ⟨a, b⟩ => ⟨a, b ▸ Below.refl _ _⟩)
              have hpk := pickOf_lt x L (by omega)
              generalize pickOf x L = pk at HPk hpk
              obtain ⟨ao2, cp2, e3, -, -, hcs⟩ := HZ.out.row.row.shape
              injection e3 with ea eb ec
              subst ea
              obtain ⟨gt, e4, hct⟩ := hcs pk (by rw [HR.out.2]; omega)
              subst e4
              have hps : pk < ss.length := by rw [HR.out.2]; exact hpk
              rw [strs_get _ _ hps] at hct
              have HG : Hid (GivenX ts ss[pk]) := HZ.out.ok _ (List.getElem_mem hps)
              have htl := World.block_lt_of_cell? _ _ hct
              generalize ss[pk] = tx at hct HG
              clear hc hco hgo hB6 hcs hps eb ec hfit HOS HDx
              have hpk' : (pk : Int) < L := by omega
              obtain ⟨c0, ⟨-, -, cc⟩, hgl, hgl2⟩ := HZ.out.cells
              have m0 := Bel.cell c0
              have m1 := Bel.cell cc
              have m2 := Bel.cell z1
              have m3 := Bel.cell hct
              clear c0 cc
              go_upto_region 35 with (fail)
              refine region_fam_tail (Bel _) 16 (by kernel_rfl) (by kernel_rfl) (Below.refl _ _).drew ?_
              simp only [List.take_succ_cons, List.take_zero, List.drop_succ_cons, List.drop_zero]
              repeat (go_big_quiet_step (first | (go_at_call 29; exact HPk.out _)))
              refine wpQuiet_nil ?_
              intro _ hw'
              obtain ⟨fq, rfl⟩ := hw'
              obtain ⟨w5, hB5⟩ := fq
              try dsimp only
              have H5 := HZ.out.below hB5 (13, 0, 0)
              clear HZ m0 m1 m2 m3 hB5 hgl hgl2 z1 zl hct htl HPk hpk hpk'
              generalize own2 oz _ (fun _ => (13, 0, 0)) = o5 at *
              go_wp2_with fail
              refine (H5.out.1.receive (b := 2) (by omega) rfl HG.out).mono ?_
              rintro e w6 ⟨hs, rfl, o6, H6⟩
              clear H5 HG
              have hH2 := H6.out.1.gn.histAt (i := 2) (by omega)
              rw [put_same] at hH2
              have hT2 := HR.out.1.talk.sub hH2.2
              have hrq := read_q (k := k) (by omega) hH2.1 hT2
              have hra := read_a (k := k) (by omega) hH2.1 hT2
              have hqk := (told_ins (k := k) (by omega) hH2.1 hT2 kQ 0 (Or.inl ⟨rfl, rfl⟩)).2
              have hqa := no_ahead hH2.1 hT2
              clear hH2 hT2
              generalize cntR hs 0 = nq at *
              generalize cntR hs 1 = na at *
              have HRQ := hide (⟨hrq, hra⟩ : _ ∧ _)
              clear hrq hra
              as_aux_lemma =>
                obtain ⟨c0, ⟨-, -, cc⟩, hgl, hgl2⟩ := H6.out.1.cells
                go_wp2_with fail
                refine (H6.out.1.begins (i := 2) (by omega) rfl).mono ?_
                rintro e w7 ⟨rfl, o7, H7⟩
                clear H6 c0 cc hgl hgl2
                have hrd := H7.out.1.read (i := 2) (by omega) (put_same _ _ _) kQ (by show 2 ≤ maxLen; unfold maxLen; omega) (6, 0, 0) (by simp [tg1]) (l := digs nq) (by rw [put_same]; exact HRQ.out.1)
                simp only [digs_len] at hrd
                have HRD := hide hrd
                clear hrd
                obtain ⟨c0, ⟨-, -, cc⟩, hgl, hgl2⟩ := H7.out.1.cells
                go_wp2_with fail
                refine HRD.out.mono ?_
                rintro e w8 ⟨alq, clq, o8, rfl, H8, HPq⟩
                clear HRD H7
                obtain ⟨c0, ⟨-, -, cc⟩, hgl, hgl2⟩ := H8.out.1.cells
                go_wp2_with fail
                generalize hwd : World.alloc w8 _ = w9
                have hB : Below w8.heap.size w8 w9 := by rw [← hwd]; exact (Below.refl _ _).alloc (Nat.le_refl _) _
                have H9 := H8.out.1.below hB (5, 0, 0)
                have HX : Hid (Bl w9 (own2 o8 w8.heap.size fun _ => (5, 0, 0)) (5, 0, 0) w8.heap.size [.int .i64 0, .slice alq nq clq] 66 ∧ Pc w9 (own2 o8 w8.heap.size fun _ => (5, 0, 0)) (6, 0, 0) 9 1 (.slice alq nq clq) nq (strs (digs nq))) := ⟨⟨by rw [← hwd]; exact heap_alloc_new w8 _, own2_high (Nat.le_refl _)⟩, HPq.out.touch H9.out.2 (not_grp (by omega))⟩
                clear H8 hB hwd HPq c0 cc hgl hgl2
                generalize (own2 o8 w8.heap.size fun _ => (5, 0, 0)) = o9 at *
                generalize w8.heap.size = vq at *
                have hrd := H9.out.1.read (i := 2) (by omega) (put_same _ _ _) kA (by show 2 ≤ maxLen; unfold maxLen; omega) (9, 0, 0) (by simp [tg1]) (l := digs na) (by rw [put_same]; exact HRQ.out.2)
                simp only [digs_len] at hrd
                refine hrd.mono ?_
                rintro e wa ⟨ala, cla, oa, rfl, Ha, HPa⟩
                have HXa := hide (⟨HX.out.1.touch Ha.out.2 (not_grp (by omega)), HX.out.2.touch Ha.out.2 (not_grp (by omega))⟩ : _ ∧ _)
                clear H9 HX hrd HRQ
                obtain ⟨c0, ⟨-, -, cc⟩, hgl, hgl2⟩ := Ha.out.1.cells
                go_wp2_with fail
                generalize hwd : World.alloc wa _ = wb
                have hB : Below wa.heap.size wa wb := by rw [← hwd]; exact (Below.refl _ _).alloc (Nat.le_refl _) _
                have Hb := Ha.out.1.below hB (8, 0, 0)
                have HXb : Hid (Bl wb (own2 oa wa.heap.size fun _ => (8, 0, 0)) (8, 0, 0) wa.heap.size [.int .i64 0, .slice ala na cla] 66 ∧ Pc wb (own2 oa wa.heap.size fun _ => (8, 0, 0)) (9, 0, 0) 9 1 (.slice ala na cla) na (strs (digs na))) := ⟨⟨by rw [← hwd]; exact heap_alloc_new wa _, own2_high (Nat.le_refl _)⟩, HPa.out.touch Hb.out.2 (not_grp (by omega))⟩
                have HXc := hide (⟨HXa.out.1.touch Hb.out.2 (not_grp (by omega)), HXa.out.2.touch Hb.out.2 (not_grp (by omega))⟩ : _ ∧ _)
                clear Ha hB hwd HPa HXa c0 cc hgl hgl2
                generalize (own2 oa wa.heap.size fun _ => (8, 0, 0)) = ob at *
                generalize wa.heap.size = va at *
                refine (Hb.out.1.abort (i := 2) (by omega) (put_same _ _ _)).mono ?_
                rintro e wc ⟨rfl, oc, Hc⟩
                have q1 := HXc.out.1.touch Hc.out.2 (not_grp (by omega))
                have q2 := HXc.out.2.touch Hc.out.2 (not_grp (by omega))
                have q3 := HXb.out.1.touch Hc.out.2 (not_grp (by omega))
                have q4 := HXb.out.2.touch Hc.out.2 (not_grp (by omega))
                obtain ⟨h7, -⟩ := Hc.out
                simp only [put_put, put_none] at h7
                have HC' := hide h7
                have b1 : wc.cell? ⟨vq, 1, none⟩ = some (.slice alq nq clq) := q1.blk.cell 1
                have b2 : wc.cell? ⟨va, 1, none⟩ = some (.slice ala na cla) := q3.blk.cell 1
                have l1 := q1.blk.lt
                have l2 := q3.blk.lt
                have HLq : Hid (∀ l, l < nq → ∃ gq, alq = some ⟨gq, 0, none⟩ ∧ wc.cell? ⟨gq, l, none⟩ = some (.string (wE l))) := fun l hl => by
                  obtain ⟨a2, c2, e3, -, -, hcs⟩ := q2.row.shape
                  injection e3 with ea eb ec
                  subst ea
                  obtain ⟨gq, e4, h4⟩ := hcs l (by omega)
                  exact ⟨gq, e4, by rw [h4, strs_get _ _ (by rw [digs_len]; exact hl)]; simp [digs]⟩
                have HLa : Hid (∀ l, l < na → ∃ gq, ala = some ⟨gq, 0, none⟩ ∧ wc.cell? ⟨gq, l, none⟩ = some (.string (wE l))) := fun l hl => by
                  obtain ⟨a2, c2, e3, -, -, hcs⟩ := q4.row.shape
                  injection e3 with ea eb ec
                  subst ea
                  obtain ⟨gq, e4, h4⟩ := hcs l (by omega)
                  exact ⟨gq, e4, by rw [h4, strs_get _ _ (by rw [digs_len]; exact hl)]; simp [digs]⟩
                clear Hb HXb HXc Hc h7 q1 q2 q3 q4
                have hqa' : (na : Int) ≤ nq := by omega
                as_aux_lemma =>
                  go_wp2_with fail
                  go_loopw [38] (fun xv wz => ∃ a : Nat, a ≤ na ∧ xv = .int .i64 a ∧ Hid (Below wc.heap.size wc wz)) (fun xv _ => na - (intOf xv).toNat)
                  case atStart => exact ⟨0, Nat.zero_le _, rfl, Below.refl _ _⟩
                  case round =>
                    obtain ⟨a, han, rfl, HBz⟩ := hrel
                    have b1' := cell_later HBz.out b1
                    have b2' := cell_later HBz.out b2
                    by_cases ha : a < na
                    · as_aux_lemma =>
                        have ha' : (a : Int) < na := by omega
                        have l1' := Nat.lt_of_lt_of_le l1 HBz.out.size
                        have l2' := Nat.lt_of_lt_of_le l2 HBz.out.size
                        go_wp2_with fail
                        go_loopw [39, 40] (fun fv yv wz => ∃ (b : Nat) (q : Bool), b ≤ nq ∧ fv = .bool q ∧ q = decide (a < b) ∧ yv = .int .i64 b ∧ Hid (Below wc.heap.size wc wz)) (fun _ yv _ => nq - (intOf yv).toNat)
                        case atStart => exact ⟨0, false, Nat.zero_le _, rfl, by simp, rfl, HBz.out⟩
                        case round =>
                          clear b1' b2' l1' l2' HBz
                          obtain ⟨b, q, hbn, rfl, hq, rfl, HBy⟩ := hrel
                          have b1' := cell_later HBy.out b1
                          have b2' := cell_later HBy.out b2
                          have l1' := Nat.lt_of_lt_of_le l1 HBy.out.size
                          have l2' := Nat.lt_of_lt_of_le l2 HBy.out.size
                          by_cases hb : b < nq
                          · obtain ⟨gq, e1, hqc⟩ := HLq.out b hb
                            obtain ⟨ga, e2, hac⟩ := HLa.out a ha
                            subst e1 e2
                            have y1 := cell_later HBy.out hqc
                            have y2 := cell_later HBy.out hac
                            have hb' : (b : Int) < nq := by omega
                            have m1 := Bel.cell b1'
                            have m2 := Bel.cell b2'
                            have m3 := Bel.cell y1
                            have m4 := Bel.cell y2
                            obtain ⟨r, hr⟩ : ∃ r, ((wE b).toList == (wE a).toList) = r := ⟨_, rfl⟩
                            have HQ : Hid (q = true → decide (a < b + 1) = true) := fun h => by
                              rw [h] at hq
                              have := of_decide_eq_true hq.symm
                              exact decide_eq_true (by omega)
                            have HN : Hid (q = false → r = decide (a < b + 1)) := fun h => by
                              rw [h] at hq
                              have hnb : ¬ a < b := of_decide_eq_false hq.symm
                              rw [← hr, Bool.eq_iff_iff, str_eq, decide_eq_true_eq]
                              constructor
                              · intro e
                                have := wE_inj (i := b) (j := a) (by omega) (by omega) e
                                omega
                              · intro e
                                have : b = a := by omega
                                rw [this]
                            clear hq HC' HLq HLa b1 b2 hqc hac y1 y2 l1 l2
                            cases q with
                            | true =>
                              as_aux_lemma =>
                                go_upto_region 49 with (fail)
                                refine region_fam (Bel _) (by kernel_rfl) (by kernel_rfl) (Below.refl _ _).drew ?_
                                repeat (go_big_quiet_step (fail))
                                refine wpQuiet_nil ?_
                                intro _ hw'
                                obtain ⟨fq, rfl⟩ := hw'
                                obtain ⟨w5, hB5⟩ := fq
                                try dsimp only
                                go_wp2_with fail
                                exact ⟨⟨b + 1, true, by omega, rfl, (HQ.out rfl).symm, by simp, HBy.out.trans (hB5.mono HBy.out.size)⟩, by simp [intOf]; omega⟩
                            | false =>
                              as_aux_lemma =>
                                go_upto_region 49 with (fail)
                                refine region_fam (Bel _) (by kernel_rfl) (by kernel_rfl) (Below.refl _ _).drew ?_
                                repeat (go_big_quiet_step (fail))
                                refine wpQuiet_nil ?_
                                intro _ hw'
                                obtain ⟨fq, rfl⟩ := hw'
                                obtain ⟨w5, hB5⟩ := fq
                                try dsimp only
                                go_wp2_with fail
                                exact ⟨⟨b + 1, r, by omega, rfl, HN.out rfl, by simp, HBy.out.trans (hB5.mono HBy.out.size)⟩, by simp [intOf]; omega⟩
                          · have hb' : ¬ (b : Int) < nq := by omega
                            have hqt : q = true := by rw [hq]; exact decide_eq_true (by omega)
                            subst hqt
                            clear hq
                            as_aux_lemma =>
                              clear HLq HLa HC'
                              go_wp2_with fail
                              exact ⟨⟨a + 1, by omega, by simp, HBy.out⟩, by simp [intOf]; omega⟩
                    · as_aux_lemma =>
                        have ha' : ¬ (a : Int) < na := by omega
                        have l1' := Nat.lt_of_lt_of_le l1 HBz.out.size
                        have l2' := Nat.lt_of_lt_of_le l2 HBz.out.size
                        clear b1 b2 l1 l2 HLq HLa
                        go_wp2_with fail
                        exact ⟨⟨j + 1, _, _, by omega, by simp, (HC'.out.below HBz.out (13, 0, 0)).out.1⟩, by simp [intOf]; omega⟩
          · as_aux_lemma =>
              have c' : ¬ (j : Int) < os.length := by omega
              clear HOS hj
              go_upto_region 52 with (fail)
              obtain ⟨c0, ⟨-, cb, cc⟩, hgl, hgl2⟩ := HZ.out.cells
              have m0 := Bel.cell c0
              have m1 := Bel.cell cb
              have m2 := Bel.cell cc
              clear c0 cb cc
              refine region_fam_tail (Bel _) 12 (by kernel_rfl) (by kernel_rfl) (Below.refl _ _).drew ?_
              simp only [List.take_succ_cons, List.take_zero, List.drop_succ_cons, List.drop_zero]
              repeat (go_big_quiet_step (fail))
              refine wpQuiet_nil ?_
              intro _ hw'
              obtain ⟨fq, rfl⟩ := hw'
              obtain ⟨w9, hB9⟩ := fq
              try dsimp only
              have H9 := HZ.out.below hB9 (13, 0, 0)
              clear m0 m1 m2 hB9 hgl hgl2 HZ
              generalize own2 oz _ (fun _ => (13, 0, 0)) = o9 at *
              go_wp2_with fail
              refine (H9.out.1.tells (a := 1) (b := 2) (by omega) (by omega) rfl).mono ?_
              rintro e wa ⟨hs, HF, rfl, oa, Ha⟩
              have hO1 := H9.out.1.gn.own (i := 1) (by omega)
              have hH2 := Ha.out.1.gn.histAt (i := 2) (by omega)
              rw [put_same] at hH2
              have hle := cnt_sub Ha.out.1.gn.hist hH2.1 hH2.2 1
              have hge := HF.out 1 (by omega)
              have hc1 : cntR hs 1 = k := by have := HR.out.1.c1; omega
              have HQ := hide (⟨hc1, hH2⟩ : _ ∧ _ ∧ _)
              clear H9 HF hO1 hH2 hle hge hc1
              obtain ⟨c0, ⟨-, -, cc⟩, hgl, hgl2⟩ := Ha.out.1.cells
              go_wp2_with fail
              refine (Ha.out.1.begins (i := 2) (by omega) rfl).mono ?_
              rintro e wb ⟨rfl, ob, Hb⟩
              clear Ha c0 cc hgl hgl2
              have hrd := Hb.out.1.read (i := 2) (by omega) (put_same _ _ _) kA (by show 2 ≤ maxLen; unfold maxLen; omega) (6, 0, 0) (by simp [tg1]) (l := digs k) (by rw [put_same, read_a (k := k) (by omega) HQ.out.2.1 (HR.out.1.talk.sub HQ.out.2.2), HQ.out.1])
              simp only [digs_len] at hrd
              have HRD := hide hrd
              clear hrd
              obtain ⟨c0, ⟨-, -, cc⟩, hgl, hgl2⟩ := Hb.out.1.cells
              go_wp2_with fail
              refine HRD.out.mono ?_
              rintro e wc ⟨al, cl, oc, rfl, Hc, -⟩
              clear HRD Hb c0 cc hgl hgl2
              go_wp2_with fail
              go_ret
              exact ⟨rfl, (at0_below Hc.out.1.at0).alloc ((at0_below Hc.out.1.at0).size) _⟩
end Go.Proofs.YtiplgdkpnhamaaaGreatDoor.Tv
