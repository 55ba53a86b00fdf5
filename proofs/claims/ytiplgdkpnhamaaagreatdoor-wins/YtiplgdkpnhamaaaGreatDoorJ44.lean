/- The texts QV2, joined. -/
import Derived.Test.YtiplgdkpnhamaaaGreatDoorJ43

namespace Go.Proofs.YtiplgdkpnhamaaaGreatDoor.Tv
open Go.RowKit
def pickY (x y0 : Nat) : Nat := if x ≤ y0 then y0 + 1 else y0
set_option maxRecDepth 100000 in
set_option maxHeartbeats 4000000 in
theorem wins_any {w : World} (ht : Tabs w) (n a b v : Int) (hn : -9223372036854775808 ≤ n) (hn' : n ≤ 9223372036854775807) (ha : -9223372036854775808 ≤ a) (ha' : a ≤ 9223372036854775807) (hb : -9223372036854775808 ≤ b) (hb' : b ≤ 9223372036854775807) (hv : -9223372036854775808 ≤ v) (hv' : v ≤ 9223372036854775807) :
    Calls Tryz.prog 11 #[.int .i64 n, .int .i64 a, .int .i64 b, .int .i64 v] w fun e w' => e = .returned (.bool true) ∧ Below w.heap.size w w' := by
  have hmd := made_any ht n hn hn'
  have hlt := pickOf_lt n 4 (by omega)
  obtain ⟨m, hm⟩ : ∃ m, 2 + pickOf n 4 = m := ⟨_, rfl⟩
  rw [hm] at hmd
  have hm2 : 2 ≤ m := by omega
  have hm5 : m ≤ 5 := by omega
  clear hm hlt
  have hpx := fun W => kpick_any a m W (by omega) (by omega) ha ha'
  have hpy := fun W => kpick_any b (m - 1) W (by omega) (by omega) hb hb'
  rw [show ((m - 1 : Nat) : Int) = (m : Int) - 1 by omega] at hpy
  have hx := pickOf_lt a m (by omega)
  have hy0 := pickOf_lt b (m - 1) (by omega)
  generalize pickOf a m = x at hpx hx
  generalize pickOf b (m - 1) = y0 at hpy hy0
  obtain ⟨y, hye⟩ : ∃ y, pickY x y0 = y := ⟨_, rfl⟩
  have hy : y < m := by rw [← hye]; unfold pickY; split <;> omega
  have hxy : x ≠ y := by rw [← hye]; unfold pickY; split <;> omega
  have hkk := pickOf_lt v 9 (by omega)
  have hdv : ∀ W, Calls Tryz.prog 31 #[.int .i64 v] W fun e w' => e = .returned (.string (wE (pickOf v 9))) ∧ Below W.heap.size W w' := fun W => digits_any v W hv hv'
  generalize pickOf v 9 = k at hdv hkk
  have hdx : ∀ (z : Nat) W, z < 9 → Calls Tryz.prog 31 #[.int .i64 z] W fun e w' => e = .returned (.string (wE z)) ∧ Below W.heap.size W w' := fun z W hz => by
    have := digits_any (z : Int) W (by omega) (by omega)
    rwa [dig_small hz] at this
  have HG := hide (wins_goes hm5 hx hy hxy hkk)
  have HT := hide (wins_told hm5 hx hy hxy hkk).1
  have HA := hide (w_told3 hm5 hx hy hxy hkk)
  have HMd := hide hmd
  have HPx := hide hpx
  have HPy := hide hpy
  have HDv := hide hdv
  have HDx := hide hdx
  clear hmd hpx hpy hdv hdx ht hkk ha ha' hb hb' hv hv' hn hn'
  have hxz : (x : Int) < m := by omega
  have hyz : (y : Int) < m := by omega
  go_enter Tryz.func11, Tryz.ntmps11
  go_wp2_with fail
  refine HMd.out.mono ?_
  rintro e w1 ⟨gb, rv, B, o, rfl, h1, h2, h3⟩
  obtain ⟨g, cap, erv, -, -, hg, hcell, -⟩ := Row.pos h2.row.row (by omega)
  subst erv
  have c0 : w1.cell? ⟨gb, 0, none⟩ = some (.slice (some ⟨g, 0, none⟩) m cap) := h2.blk.blk.cell 0
  have hgl := h2.blk.blk.lt
  have cx : w1.cell? ⟨g, x, none⟩ = some (bptr (B x)) := by rw [hcell x (by omega), rsL_get hx]
  have cy : w1.cell? ⟨g, y, none⟩ = some (bptr (B y)) := by rw [hcell y (by omega), rsL_get hy]
  have HW : Hid (Wn m x y w B [] [] [] none none w1 o) := ⟨by rw [two_self, two_self]; exact h1, h3⟩
  clear h1 h2 h3 hcell HMd
  go_wp2_with fail
  refine (HPx.out _).mono ?_
  rintro e w2 ⟨rfl, hw⟩
  have hw' := hw.symm
  subst hw'
  go_wp2_with fail
  refine (HPy.out _).mono ?_
  rintro e w2 ⟨rfl, hw⟩
  have hw' := hw.symm
  subst hw'
  clear hw HPx HPy
  go_upto_if 65 with (fail)
  go_cut [11] (fun yv wc => yv = .int .i64 y ∧ wc = w1)
  case first =>
    by_cases c : x ≤ y0
    · have c' : (x : Int) ≤ y0 := by omega
      have HY : Hid ((y0 : Int) + 1 = y) := by unfold Hid; rw [← hye]; unfold pickY; rw [if_pos c]; omega
      clear hye HG HT HW HA
      go_wp2_with fail
      all_goals go_meet
      all_goals exact ⟨by rw [HY.out], rfl⟩
    · have c' : (y0 : Int) < x := by omega
      have HY : Hid (y0 = y) := by unfold Hid; rw [← hye]; unfold pickY; rw [if_neg c]
      clear hye HG HT HW HA
      go_wp2_with fail
      all_goals go_meet
      all_goals exact ⟨by rw [HY.out], rfl⟩
  case rest =>
    obtain ⟨rfl, hwc⟩ := hcut
    have hw' := hwc.symm
    subst hw'
    as_aux_lemma =>
      clear hwc hye hy0
      go_wp2_with fail
      refine (HDv.out _).mono ?_
      rintro e w2 ⟨rfl, hB⟩
      have HW2 := HW.out.below hB (13, 0, 0)
      clear HW hB HDv c0 hgl cx cy hg
      generalize (own2 o w1.heap.size fun _ => (13, 0, 0)) = o2 at *
      go_wp2_with fail
      refine (HW2.out.1.beginX hx hxy).mono ?_
      rintro e w3 ⟨rfl, o3, HW3⟩
      clear HW2
      go_wp2_with fail
      refine (HW3.out.1.insX hx hxy (wE k) (wE_size k) (by simp)).mono ?_
      rintro e w4 ⟨rfl, o4, HW4⟩
      clear HW3
      go_wp2_with fail
      refine (HW4.out.1.commitX hx hxy (by simp) (by simp) (w_mk1 m x k)).mono ?_
      rintro e w5 ⟨rfl, o5, HW5⟩
      clear HW4
      go_wp2_with fail
      generalize hw6 : World.alloc w5 _ = w6
      have hB : Below w5.heap.size w5 w6 := by rw [← hw6]; exact (Below.refl _ _).alloc (Nat.le_refl _) _
      have HW6 := HW5.out.1.below hB (13, 0, 0)
      clear HW5 hB hw6
      refine (HW6.out.1.tellsXY (u := wU1 m x k) hx hy hxy (by simp) HG.out.1).mono ?_
      rintro e w7 ⟨rfl, o7, HW7⟩
      clear HW6
      as_aux_lemma =>
        generalize w5.heap.size = db5
        go_wp2_with fail
        refine (HW7.out.1.beginX hx hxy).mono ?_
        rintro e w8 ⟨rfl, o8, HW8⟩
        clear HW7
        go_wp2_with fail
        refine (HW8.out.1.insX hx hxy (wE k) (wE_size k) (by simp)).mono ?_
        rintro e w9 ⟨rfl, o9, HW9⟩
        clear HW8
        go_wp2_with fail
        refine (HDx.out x _ (by omega)).mono ?_
        rintro e wa ⟨rfl, hB⟩
        have HWa := HW9.out.1.below hB (13, 0, 0)
        clear HW9 hB
        go_wp2_with fail
        refine (HWa.out.1.wrX hx hxy (wV x) (wV_size x) (by simp)).mono ?_
        rintro e wb ⟨rfl, ob, HWb⟩
        clear HWa
        go_wp2_with fail
        refine (HWb.out.1.beginY hy).mono ?_
        rintro e wc ⟨rfl, oc, HWc⟩
        clear HWb
        go_wp2_with fail
        refine (HWc.out.1.remY hy (wE k) (wE_size k) (by simp)).mono ?_
        rintro e wd ⟨rfl, od, HWd⟩
        clear HWc
        go_wp2_with fail
        refine (HDx.out y _ (by omega)).mono ?_
        rintro e we ⟨rfl, hB⟩
        have HWe := HWd.out.1.below hB (13, 0, 0)
        clear HWd hB
        go_wp2_with fail
        refine (HWe.out.1.wrY hy (wV y) (wV_size y) (by simp)).mono ?_
        rintro e wf ⟨rfl, of_, HWf⟩
        clear HWe
        go_wp2_with fail
        refine (HWf.out.1.readY hy (s := 0) (l := []) (er := 0) HT.out).mono ?_
        rintro e wg ⟨al, cl, rfl, og, HWg⟩
        clear HWf HT
        go_wp2_with fail
        generalize hwh : World.alloc wg _ = wh
        have hB : Below wg.heap.size wg wh := by rw [← hwh]; exact (Below.refl _ _).alloc (Nat.le_refl _) _
        have HWh := HWg.out.1.below hB (5, 0, 0)
        have HGh : Hid (Bl wh (own2 og wg.heap.size fun _ => (5, 0, 0)) (5, 0, 0) wg.heap.size [.int .i64 0, .slice al 0 cl] 66) := ⟨by rw [← hwh]; exact heap_alloc_new wg _, own2_high (Nat.le_refl _)⟩
        clear HWg hB hwh
        generalize (own2 og wg.heap.size fun _ => (5, 0, 0)) = oh at *
        as_aux_lemma =>
          generalize wg.heap.size = gx at *
          refine (HWh.out.1.commitX hx hxy (by simp) (by simp) (w_mk2 m x k)).mono ?_
          rintro e wi ⟨rfl, oi, HWi⟩
          have HGi := hide (HGh.out.touch HWi.out.2 (not_grp (by omega)))
          clear HWh HGh
          go_wp2_with fail
          generalize hwj : World.alloc wi _ = wj
          have hB : Below wi.heap.size wi wj := by rw [← hwj]; exact (Below.refl _ _).alloc (Nat.le_refl _) _
          have HWj := HWi.out.1.below hB (13, 0, 0)
          have HGj := hide (HGi.out.touch HWj.out.2 (not_grp (by omega)))
          clear HWi HGi hB hwj
          generalize (own2 oi wi.heap.size fun _ => (13, 0, 0)) = oj at *
          generalize wi.heap.size = dbi
          refine (HWj.out.1.commitY hy (by simp) (by simp) (w_mk3 hxy)).mono ?_
          rintro e wk ⟨rfl, ok, HWk⟩
          have HGk := hide (HGj.out.touch HWk.out.2 (not_grp (by omega)))
          clear HWj HGj
          go_wp2_with fail
          generalize hwl : World.alloc wk _ = wl
          have hB : Below wk.heap.size wk wl := by rw [← hwl]; exact (Below.refl _ _).alloc (Nat.le_refl _) _
          have HWl := HWk.out.1.below hB (13, 0, 0)
          have HGl := hide (HGk.out.touch HWl.out.2 (not_grp (by omega)))
          clear HWk HGk hB hwl
          generalize (own2 ok wk.heap.size fun _ => (13, 0, 0)) = ol at *
          generalize wk.heap.size = dbk
          refine (HWl.out.1.tellsXY (u := wU2 m x k) hx hy hxy (by simp) HG.out.2.1).mono ?_
          rintro e wm ⟨rfl, om, HWm⟩
          have HGm := hide (HGl.out.touch HWm.out.2 (not_grp (by omega)))
          clear HWl HGl
          go_wp2_with fail
          refine (HWm.out.1.tellsYX (u := wU3 m x y k) hx hy hxy (by simp) HG.out.2.2.1).mono ?_
          rintro e wn ⟨rfl, on_, HWn⟩
          have HGn := hide (HGm.out.touch HWn.out.2 (not_grp (by omega)))
          as_aux_lemma =>
            clear HWm HGm
            go_wp2_with fail
            refine (HWn.out.1.allX hx hxy (7, 0, 0) (8, 0, 0) (by simp [tg1]) (by simp [tg1]) (by simp)).mono ?_
            rintro e wo ⟨g1, cp1, oo, xs, rfl, HWo, HVo⟩
            have HGo := hide (HGn.out.touch HWo.out.2 (not_grp (by omega)))
            clear HWn HGn
            go_wp2_with fail
            refine (HWo.out.1.allY hy (9, 0, 0) (10, 0, 0) (by simp [tg1]) (by simp [tg1]) (by simp)).mono ?_
            rintro e wp ⟨g2, cp2, op, ys, rfl, HWp, HVp⟩
            have HGp := hide (HGo.out.touch HWp.out.2 (not_grp (by omega)))
            have HVq : Hid (ValsX wp op (7, 0, 0) (8, 0, 0) (.slice (some ⟨g1, 0, none⟩) 6 cp1) (allV m (wP3 m x y k)) xs) := HVo.out.touch HWp.out.2 (not_grp (by omega)) (not_grp (by omega))
            have HVs : Hid (ValsX wp op (9, 0, 0) (10, 0, 0) (.slice (some ⟨g2, 0, none⟩) 6 cp2) (allV m (wQ3 m x y k)) ys) := HVp.out
            clear HWo HGo HVo
            have hal := alike_any wp HVq.out HVs.out (allV_len _ _) (allV_len _ _) (HA.out.1.symm ▸ w_few (by simp)) (HA.out.2.1.symm ▸ w_few (by simp))
            rw [show decide (allV m (wP3 m x y k) = allV m (wQ3 m x y k)) = true from decide_eq_true (HA.out.1.trans HA.out.2.1.symm)] at hal
            have HAL := hide hal
            clear hal
            go_wp2_with fail
            refine HAL.out.mono ?_
            rintro e wq ⟨rfl, hB⟩
            have HWq := HWp.out.1.below hB (13, 0, 0)
            have HGq := hide (HGp.out.touch HWq.out.2 (not_grp (by omega)))
            have HVr := hide (HVq.out.touch HWq.out.2 (not_grp (by omega)) (not_grp (by omega)))
            clear HWp HGp HVq HVp HVs HAL hB
            generalize (own2 op wp.heap.size fun _ => (13, 0, 0)) = oq at *
            as_aux_lemma =>
              go_upto_if 173 with (fail)
              go_cut [41, 42] (fun lo hi wc => lo = .int .i64 ((min x y : Nat) : Int) ∧ hi = .int .i64 ((max x y : Nat) : Int) ∧ wc = wq)
              case first =>
                by_cases c : y < x
                · as_aux_lemma =>
                    have c' : (y : Int) < x := by omega
                    have e1 : Hid (min x y = y ∧ max x y = x) := ⟨by omega, by omega⟩
                    clear HG HA HWq HGq HVr HDx
                    go_wp2_with fail
                    all_goals go_meet
                    all_goals exact ⟨by rw [e1.out.1], by rw [e1.out.2], rfl⟩
                · as_aux_lemma =>
                    have c' : (x : Int) ≤ y := by omega
                    have e1 : Hid (min x y = x ∧ max x y = y) := ⟨by omega, by omega⟩
                    clear HG HA HWq HGq HVr HDx
                    go_wp2_with fail
                    all_goals go_meet
                    all_goals exact ⟨by rw [e1.out.1], by rw [e1.out.2], rfl⟩
              case rest =>
                obtain ⟨rfl, rfl, hwc⟩ := hcut
                have hw' := hwc.symm
                subst hw'
                clear hwc
                as_aux_lemma =>
                  have hlo : min x y < 9 := by omega
                  have hhi : max x y < 9 := by omega
                  have HL : Hid (∀ f : Fam (Bel wq), Calls Tryz.prog 31 #[.int .i64 ((min x y : Nat) : Int)] f.w fun e w'' => e = .returned (.string (wE (min x y))) ∧ ∃ g : Fam (Bel wq), w'' = g.w) := fun f => Bel.call f (HDx.out _ f.w hlo)
                  have HH : Hid (∀ f : Fam (Bel wq), Calls Tryz.prog 31 #[.int .i64 ((max x y : Nat) : Int)] f.w fun e w'' => e = .returned (.string (wE (max x y))) ∧ ∃ g : Fam (Bel wq), w'' = g.w) := fun f => Bel.call f (HDx.out _ f.w hhi)
                  have hVe := HVr.out
                  rw [HA.out.1] at hVe
                  obtain ⟨g1', cp1', eg, hc⟩ := hVe.cells rfl
                  cases eg
                  obtain ⟨al4, cl4, -, z9, r4⟩ := hc 4 (by simp)
                  obtain ⟨al2, cl2, -, z5, r2⟩ := hc 2 (by simp)
                  obtain ⟨q4, cq4, e4, -, -, l4, k4, -⟩ := Row.pos r4 (by simp)
                  obtain ⟨q2, cq2, e2, -, -, l2, k2, -⟩ := Row.pos r2 (by simp)
                  cases e4
                  cases e2
                  have y40 : wq.cell? ⟨q4, 0, none⟩ = some (.string (wE k)) := k4 0 (by simp)
                  have y20 : wq.cell? ⟨q2, 0, none⟩ = some (.string ((⟨#[111, 102, 32]⟩ : ByteArray) ++ wE (min x y))) := k2 0 (by simp)
                  have y21 : wq.cell? ⟨q2, 1, none⟩ = some (.string ((⟨#[111, 102, 32]⟩ : ByteArray) ++ wE (max x y))) := k2 1 (by simp)
                  have z9' : wq.cell? ⟨g1, 9, none⟩ = some (.slice (some ⟨q4, 0, none⟩) 1 cl4) := z9
                  have z5' : wq.cell? ⟨g1, 5, none⟩ = some (.slice (some ⟨q2, 0, none⟩) 2 cl2) := z5
                  have gz : wq.cell? ⟨gx, 1, none⟩ = some (.slice al 0 cl) := HGq.out.blk.cell 1
                  have gl := HGq.out.blk.lt
                  clear hVe hc z9 z5 r4 r2 k4 k2 HVr HGq hlo hhi
                  have m1 := Bel.cell y40
                  have m2 := Bel.cell y20
                  have m3 := Bel.cell y21
                  have m4 := Bel.cell z9'
                  have m5 := Bel.cell z5'
                  generalize min x y = lo at *
                  generalize max x y = hi at *
                  go_upto_region 37 with (fail)
                  as_aux_lemma =>
                    go_cut [301] (fun bv wc => bv = .bool false ∧ Hid (Below wq.heap.size wq wc))
                    case first =>
                      as_aux_lemma =>
                        have s1 : (wE lo).size = 1 := rfl
                        have s2 : (wE hi).size = 1 := rfl
                        clear HG HA HWq HDx y40 y20 y21 z9' z5' gz gl l4 l2 hx hy hxy hm2 hm5 hxz hyz
                        refine region_fam (Bel wq) (by kernel_rfl) (by kernel_rfl) (Below.refl _ _).drew ?_
                        repeat (go_big_quiet_step (first | (go_at_call 31; exact HL.out _) | (go_at_call 31; exact HH.out _)))
                        refine wpQuiet_nil ?_
                        intro _ hw'
                        obtain ⟨fq, rfl⟩ := hw'
                        obtain ⟨W1, hB1⟩ := fq
                        try dsimp only
                        go_wp2_with fail
                        go_meet
                        exact ⟨rfl, hB1⟩
                    case rest =>
                      obtain ⟨rfl, HB1⟩ := hcut
                      as_aux_lemma =>
                        have HWr := HWq.out.1.below HB1.out (13, 0, 0)
                        clear HB1 HWq m1 m2 m3 m4 m5 y40 y20 y21 z9' z5' gz gl HL HH l4 l2
                        generalize (own2 oq wq.heap.size fun _ => (13, 0, 0)) = or at *
                        go_wp2_with fail
                        refine (HWr.out.1.beginY hy).mono ?_
                        rintro e ws ⟨rfl, os, HWs⟩
                        clear HWr
                        go_wp2_with fail
                        refine (HWs.out.1.remY hy (wE k) (wE_size k) (by simp)).mono ?_
                        rintro e wt ⟨rfl, ot, HWt⟩
                        clear HWs
                        go_wp2_with fail
                        refine (HWt.out.1.wrY hy wLast (by decide) (by simp)).mono ?_
                        rintro e wu ⟨rfl, ou, HWu⟩
                        clear HWt
                        go_wp2_with fail
                        refine (HWu.out.1.commitY hy (by simp) (by simp) (w_mk4 hxy)).mono ?_
                        rintro e wv ⟨rfl, ov, HWv⟩
                        clear HWu
                        go_wp2_with fail
                        refine (HWv.out.1.tellsYX (u := wU4 m x y k) hx hy hxy (by simp) HG.out.2.2.2).mono ?_
                        rintro e ww ⟨rfl, ow, HWw⟩
                        clear HWv
                        go_wp2_with fail
                        refine (HWw.out.1.allX hx hxy (11, 0, 0) (12, 0, 0) (by simp [tg1]) (by simp [tg1]) (by simp)).mono ?_
                        rintro e wx ⟨g3, cp3, ox, zs, rfl, HWx, HVx⟩
                        clear HWw
                        as_aux_lemma =>
                          have hVe : ValsX wx ox (11, 0, 0) (12, 0, 0) (.slice (some ⟨g3, 0, none⟩) 6 cp3) (allV m (wP4 m x y k)) zs := HVx.out
                          rw [HA.out.2.2] at hVe
                          obtain ⟨g3', cp3', eg, hc⟩ := hVe.cells rfl
                          cases eg
                          obtain ⟨al4, cl4, -, z9, -⟩ := hc 4 (by simp)
                          obtain ⟨al2, cl2, -, z5, r2⟩ := hc 2 (by simp)
                          obtain ⟨q2, cq2, e2, -, -, l2, k2, -⟩ := Row.pos r2 (by simp)
                          cases e2
                          have y20 : wx.cell? ⟨q2, 0, none⟩ = some (.string wLast) := k2 0 (by simp)
                          have z9' : wx.cell? ⟨g3, 9, none⟩ = some (.slice al4 0 cl4) := z9
                          have z5' : wx.cell? ⟨g3, 5, none⟩ = some (.slice (some ⟨q2, 0, none⟩) 1 cl2) := z5
                          have hstr : (wLast.toList == [108, 97, 115, 116]) = true := by kernel_rfl
                          clear hVe hc z9 z5 r2 k2 HVx
                          go_wp2_with fail
                          go_ret
                          exact ⟨rfl, at0_below HWx.out.1.at0⟩
end Go.Proofs.YtiplgdkpnhamaaaGreatDoor.Tv
