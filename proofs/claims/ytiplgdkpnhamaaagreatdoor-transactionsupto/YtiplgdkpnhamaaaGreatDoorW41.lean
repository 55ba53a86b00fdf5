/- The texts L4, L8, L11, joined. -/
import Derived.Test.YtiplgdkpnhamaaaGreatDoorW08
import Derived.Test.YtiplgdkpnhamaaaGreatDoorW39
import Derived.Test.YtiplgdkpnhamaaaGreatDoorW11
import Derived.Test.YtiplgdkpnhamaaaGreatDoorW40
import Derived.Test.YtiplgdkpnhamaaaGreatDoorW35
import Derived.Test.YtiplgdkpnhamaaaGreatDoorW10

/- The law's transacts: Abort. -/
namespace Go.Proofs.YtiplgdkpnhamaaaGreatDoor
open Go.RowKit

theorem abortAns_shape (d : DRep) (tx : Int) : ∃ x : Int, abortAns d tx = .int .i64 x := by
  unfold abortAns; split
  · exact ⟨_, rfl⟩
  · exact ⟨_, rfl⟩

set_option maxRecDepth 100000 in
set_option maxHeartbeats 4000000 in
theorem transacts_abort (PR : World → (Nat → Tag) → Tag → Nat → Nat → Nat → DRep → Prop) (P : PApi PR) (w : World) (o : Nat → Tag) (s wb gb n : Nat) (pb rb : List Nat) (rsv way tv mv nv kv : Value) (cnt : Int) (m : Nat) (ds : List DRep) (ts : List RTx) (p : LOp) (hp : p.Ok) (hk : p.kind = 8)
    (h : LawSt PR w o s wb gb n pb rb rsv way tv mv nv kv cnt m ds ds ts) (hn : 0 < n) (hn5 : n ≤ 5) (hroom : ∀ d, d ∈ ds → Room d) :
    Calls Tryz.prog 52 #[ptr wb, p.agg] w fun e w' => e = .returned (.bool true) ∧ ∃ o' i d, i < n ∧ ds[i]? = some d ∧ LawSt PR w' o' s wb gb n pb rb rsv way tv mv nv kv cnt m (ds.set i (abortD d p.b)) (ds.set i (abortD d p.b)) ts ∧ Moved (lawTag s) w o w' o' := by
  obtain ⟨kind, a, b, c, key, text⟩ := p
  simp only at hk
  subst hk
  have hlp := h.plen
  have hlr := h.rlen
  have hld := h.dplen
  obtain ⟨ix, hix⟩ : ∃ ix, pickOf a n = ix := ⟨_, rfl⟩
  have hi : ix < n := by rw [← hix]; exact pickOf_lt a n hn
  have HPK : Hid (∀ v, Calls Tryz.prog 51 #[.int .i64 a, .int .i64 n] v fun e w' => e = .returned (.int .i64 ix) ∧ w' = v) := fun v => by rw [← hix]; exact pick_any a n v hn hn5 hp.a0 hp.a1
  clear hix
  have H1 := hide (h.new P (.cells #[.int .i64 8, .int .i64 a, .int .i64 b, .int .i64 c, .string key, .string text] 30) (s + 12, 0, 0))
  have B1 := hide (Bl.fresh w o [.int .i64 8, .int .i64 a, .int .i64 b, .int .i64 c, .string key, .string text] 30 (s + 12, 0, 0))
  have M1 := hide (moved_new (B := lawTag s) w o (.cells #[.int .i64 8, .int .i64 a, .int .i64 b, .int .i64 c, .string key, .string text] 30) (s + 12, 0, 0))
  clear h
  generalize hW : w.alloc (.cells #[.int .i64 8, .int .i64 a, .int .i64 b, .int .i64 c, .string key, .string text] 30) = W at *
  generalize upd o w.heap.size (s + 12, 0, 0) = o1 at *
  obtain ⟨grs, rcap, rfl, hrc, hgrs, hri⟩ := rs_at H1.out.rs (i := ix) (by omega)
  obtain ⟨rv, av, axs, G⟩ := H1.out.grp
  obtain ⟨gR, Rcap, rfl, hRc, hgR, hRi⟩ := rs_at (bs := rb) G.rs (i := ix) (by omega)
  have c0 : W.cell? ⟨wb, 0, none⟩ = some (.slice (some ⟨grs, 0, none⟩) n rcap) := by rw [← hlp]; exact H1.out.blk.blk.cell 0
  have c1 : W.cell? ⟨wb, 1, none⟩ = some (ptr gb) := H1.out.blk.blk.cell 1
  have c2 : W.cell? ⟨gb, 1, none⟩ = some (.slice (some ⟨gR, 0, none⟩) n Rcap) := by rw [← hlr]; exact G.blk.blk.cell 1
  have k0 : W.cell? ⟨w.heap.size, 0, none⟩ = some (.int .i64 8) := B1.out.blk.cell 0
  have k1 : W.cell? ⟨w.heap.size, 1, none⟩ = some (.int .i64 a) := B1.out.blk.cell 1
  have hwl := H1.out.blk.blk.lt
  have hgl := G.blk.blk.lt
  have hbl := B1.out.blk.lt
  have hrc' : n ≤ rcap := by omega
  have hRc' : n ≤ Rcap := by omega
  obtain ⟨pr, hpr⟩ : ∃ pr, pb[ix] = pr := ⟨_, rfl⟩
  obtain ⟨rr, hrr⟩ : ∃ rr, rb[ix] = rr := ⟨_, rfl⟩
  obtain ⟨d, hd⟩ : ∃ d, ds[ix] = d := ⟨_, rfl⟩
  have HPR := hide (hpr ▸ hd ▸ H1.out.prog ix hi)
  have HRR := hide (hrr ▸ hd ▸ H1.out.ref ix hi)
  rw [hpr] at hri
  rw [hrr] at hRi
  have HD := hide (⟨hroom d (by rw [← hd]; exact List.getElem_mem _), hd, hpr, hrr⟩ : _ ∧ _ ∧ _ ∧ _)
  clear G hp hroom hpr hrr hd
  go_enter Tryz.func52, Tryz.ntmps52
  go_upto_region 1 with (fail)
  go_cut [5] (fun v wc => v = .int .i64 ix ∧ Hid (Below W.heap.size W wc))
  case first =>
    go_region_with (go_at_call 51; refine (HPK.out _).mono ?_; rintro e w5 ⟨rfl, rfl⟩)
    all_goals
      go_wp2_with fail
      go_meet
      exact ⟨rfl, (Below.refl _ _).drew⟩
  case rest =>
    obtain ⟨rfl, hB⟩ := hcut
    have H2 := hide (H1.out.below P hB.out)
    have B2 := hide (B1.out.below hB.out)
    have M2 := hide (M1.out.trans ((TouchT.ofBelow (A := lawTag s) (o := o1) hB.out).moved fun _ => id))
    have HPR2 := hide (P.move HPR.out fun q hq e => ⟨hB.out.block q hq, e⟩)
    have c0' := cell_later hB.out c0
    have c1' := cell_later hB.out c1
    have c2' := cell_later hB.out c2
    have hri' := cell_later hB.out hri
    have hRi' := cell_later hB.out hRi
    have k0' := cell_later hB.out k0
    have k2' : wc.cell? ⟨w.heap.size, 2, none⟩ = some (.int .i64 b) := B2.out.blk.cell 2
    have hsz := hB.out.size
    have hwl' : wb < wc.heap.size := by omega
    have hgl' : gb < wc.heap.size := by omega
    have hbl' : w.heap.size < wc.heap.size := by omega
    have hgrs' : grs < wc.heap.size := by omega
    have hgR' : gR < wc.heap.size := by omega
    clear c0 c1 c2 hri hRi k0 k1 hwl hgl hbl hgrs hgR hsz H1 B1 M1 HPR HRR hW HPK
    go_wp2_with fail
    refine (P.abort _ o1 (s + 1, ix, 0) pr n ix d b HPR2.out HD.out.1).mono ?_
    rintro e w1 ⟨he, o2, hPR, hT⟩
    obtain ⟨x, hxy⟩ := abortAns_shape d b
    rw [hxy] at he
    subst he
    have H3 := hide (H2.out.progStep P hi hT (HD.out.2.2.1.symm ▸ hPR))
    have HRR3 := hide (HD.out.2.2.2 ▸ HD.out.2.1 ▸ H3.out.ref ix hi)
    have M3 := hide (M2.out.trans (hT.moved prog_law))
    have B3 := B2.out.touch hT (by simp)
    have k2'' : w1.cell? ⟨w.heap.size, 2, none⟩ = some (.int .i64 b) := B3.blk.cell 2
    have hbl'' := B3.blk.lt
    clear hPR hT H2 B2 M2 HPR2 c0' c1' c2' hri' hRi' k0' k2' hwl' hgl' hbl' hgrs' hgR' B3
    go_wp2_with fail
    refine (ref_abort w1 o2 s ix rr n d b HRR3.out).mono ?_
    rintro e w2 ⟨he, o3, hRR, hT⟩
    rw [hxy] at he
    subst he
    have H4 := hide (H3.out.refTouch P hi hT (HD.out.2.2.2.symm ▸ hRR))
    have M4 := hide (M3.out.trans (hT.moved fun _ => rep_law))
    clear hRR hT H3 M3 HRR3 hxy k2''
    go_wp2_with fail
    go_ret
    exact ⟨rfl, o3, ix, d, hi, by rw [List.getElem?_eq_getElem (by omega), HD.out.2.1], H4.out, M4.out⟩

end Go.Proofs.YtiplgdkpnhamaaaGreatDoor

/- The law's tells: Visible. -/
namespace Go.Proofs.YtiplgdkpnhamaaaGreatDoor
open Go.RowKit

set_option maxRecDepth 100000 in
set_option maxHeartbeats 4000000 in
theorem tells_visible (PR : World → (Nat → Tag) → Tag → Nat → Nat → Nat → DRep → Prop) (P : PApi PR) (w : World) (o : Nat → Tag) (s wb gb n : Nat) (pb rb : List Nat) (rsv way tv mv nv kv : Value) (cnt : Int) (m : Nat) (ds : List DRep) (ts : List RTx) (p : LOp) (hp : p.Ok) (hk : p.kind = 9)
    (h : LawSt PR w o s wb gb n pb rb rsv way tv mv nv kv cnt m ds ds ts) (hn : 0 < n) (hn5 : n ≤ 5) (hroom : ∀ d, d ∈ ds → Room d) (hcnt : 0 ≤ cnt ∧ cnt ≤ 2900000000) (hm : m ≤ 900000000) :
    Calls Tryz.prog 53 #[ptr wb, p.agg] w fun e w' => e = .returned (.bool true) ∧ ∃ o' nv' kv', LawSt PR w' o' s wb gb n pb rb rsv way tv mv nv' kv' (cnt + 2) (m + 260) ds ds ts ∧ Moved (lawTag s) w o w' o' := by
  obtain ⟨kind, a, b, c, key, text⟩ := p
  simp only at hk
  subst hk
  have hlp := h.plen
  have hlr := h.rlen
  have hld := h.dplen
  obtain ⟨ix, hix⟩ : ∃ ix, pickOf a n = ix := ⟨_, rfl⟩
  have hi : ix < n := by rw [← hix]; exact pickOf_lt a n hn
  have HPK : Hid (∀ v, Calls Tryz.prog 51 #[.int .i64 a, .int .i64 n] v fun e w' => e = .returned (.int .i64 ix) ∧ w' = v) := fun v => by rw [← hix]; exact pick_any a n v hn hn5 hp.a0 hp.a1
  clear hix
  have H1 := hide (h.new P (.cells #[.int .i64 9, .int .i64 a, .int .i64 b, .int .i64 c, .string key, .string text] 30) (s + 12, 0, 0))
  have B1 := hide (Bl.fresh w o [.int .i64 9, .int .i64 a, .int .i64 b, .int .i64 c, .string key, .string text] 30 (s + 12, 0, 0))
  have M1 := hide (moved_new (B := lawTag s) w o (.cells #[.int .i64 9, .int .i64 a, .int .i64 b, .int .i64 c, .string key, .string text] 30) (s + 12, 0, 0))
  clear h
  generalize hW : w.alloc (.cells #[.int .i64 9, .int .i64 a, .int .i64 b, .int .i64 c, .string key, .string text] 30) = W at *
  generalize upd o w.heap.size (s + 12, 0, 0) = o1 at *
  obtain ⟨grs, rcap, rfl, hrc, hgrs, hri⟩ := rs_at H1.out.rs (i := ix) (by omega)
  obtain ⟨rv, av, axs, G⟩ := H1.out.grp
  obtain ⟨gR, Rcap, rfl, hRc, hgR, hRi⟩ := rs_at (bs := rb) G.rs (i := ix) (by omega)
  have c0 : W.cell? ⟨wb, 0, none⟩ = some (.slice (some ⟨grs, 0, none⟩) n rcap) := by rw [← hlp]; exact H1.out.blk.blk.cell 0
  have c1 : W.cell? ⟨wb, 1, none⟩ = some (ptr gb) := H1.out.blk.blk.cell 1
  have c2 : W.cell? ⟨gb, 1, none⟩ = some (.slice (some ⟨gR, 0, none⟩) n Rcap) := by rw [← hlr]; exact G.blk.blk.cell 1
  have k0 : W.cell? ⟨w.heap.size, 0, none⟩ = some (.int .i64 9) := B1.out.blk.cell 0
  have k1 : W.cell? ⟨w.heap.size, 1, none⟩ = some (.int .i64 a) := B1.out.blk.cell 1
  have hwl := H1.out.blk.blk.lt
  have hgl := G.blk.blk.lt
  have hbl := B1.out.blk.lt
  have hrc' : n ≤ rcap := by omega
  have hRc' : n ≤ Rcap := by omega
  obtain ⟨pr, hpr⟩ : ∃ pr, pb[ix] = pr := ⟨_, rfl⟩
  obtain ⟨rr, hrr⟩ : ∃ rr, rb[ix] = rr := ⟨_, rfl⟩
  obtain ⟨d, hd⟩ : ∃ d, ds[ix] = d := ⟨_, rfl⟩
  have HPR := hide (hpr ▸ hd ▸ H1.out.prog ix hi)
  have HRR := hide (hrr ▸ hd ▸ H1.out.ref ix hi)
  rw [hpr] at hri
  rw [hrr] at hRi
  have HD := hide (⟨hroom d (by rw [← hd]; exact List.getElem_mem _), hd, hpr, hrr⟩ : _ ∧ _ ∧ _ ∧ _)
  clear G hp hroom hpr hrr hd
  go_enter Tryz.func53, Tryz.ntmps53
  go_upto_region 1 with (fail)
  go_cut [5] (fun v wc => v = .int .i64 ix ∧ Hid (Below W.heap.size W wc))
  case first =>
    go_region_with (go_at_call 51; refine (HPK.out _).mono ?_; rintro e w5 ⟨rfl, rfl⟩)
    all_goals
      go_wp2_with fail
      go_meet
      exact ⟨rfl, (Below.refl _ _).drew⟩
  case rest =>
    obtain ⟨rfl, hB⟩ := hcut
    have H2 := hide (H1.out.below P hB.out)
    have B2 := hide (B1.out.below hB.out)
    have M2 := hide (M1.out.trans ((TouchT.ofBelow (A := lawTag s) (o := o1) hB.out).moved fun _ => id))
    have HPR2 := hide (P.move HPR.out fun q hq e => ⟨hB.out.block q hq, e⟩)
    have c0' := cell_later hB.out c0
    have c1' := cell_later hB.out c1
    have c2' := cell_later hB.out c2
    have hri' := cell_later hB.out hri
    have hRi' := cell_later hB.out hRi
    have k0' := cell_later hB.out k0
    have hsz := hB.out.size
    have hwl' : wb < wc.heap.size := by omega
    have hgl' : gb < wc.heap.size := by omega
    have hbl' : w.heap.size < wc.heap.size := by omega
    have hgrs' : grs < wc.heap.size := by omega
    have hgR' : gR < wc.heap.size := by omega
    clear c0 c1 c2 hri hRi k0 k1 hwl hgl hbl hgrs hgR hsz H1 B1 M1 HPR HRR hW HPK
    go_wp2_with fail
    refine (P.visible _ o1 (s + 1, ix, 0) (s + 12, 4, 0) pr n ix d HPR2.out HD.out.1 (by simp)).mono ?_
    rintro e w1 ⟨lv, o2, rfl, hPR, hT, hL1⟩
    have H3 := hide (H2.out.progSame P hi hT HD.out.2.1 (HD.out.2.2.1.symm ▸ hPR))
    have M3 := hide (M2.out.trans (hT.moved prog_law))
    have B3 := hide (B2.out.touch hT (by simp))
    have HPR3 := hide (HD.out.2.2.1 ▸ HD.out.2.1 ▸ H3.out.prog ix hi)
    have hvn : d.vis.length = n := by
      obtain ⟨vv, v, kv', gv, xs, R⟩ := H3.out.ref ix hi
      have e := R.len
      rw [HD.out.2.1] at e
      exact e
    rw [hvn] at hL1
    obtain ⟨lb, lcap, rfl, hlc, -, -, -, -⟩ := hL1.row.pos (by omega)
    have L3 := hide hL1
    clear hPR hT hL1 H2 B2 M2 HPR2 c0' c1' c2' hri' hRi' k0' hwl' hgl' hbl' hgrs' hgR'
    go_wp2_with fail
    refine (P.visible _ o2 (s + 1, ix, 0) (s + 12, 5, 0) pr n ix d HPR3.out HD.out.1 (by simp)).mono ?_
    rintro e w2 ⟨mv2, o3, rfl, hPR, hT, hL1⟩
    rw [hvn] at hL1
    obtain ⟨mb, mcap, rfl, hmc, -, -, -, -⟩ := hL1.row.pos (by omega)
    have H4 := hide (H3.out.progSame P hi hT HD.out.2.1 (HD.out.2.2.1.symm ▸ hPR))
    have M4 := hide (M3.out.trans (hT.moved prog_law))
    have L4 := hide (L3.out.touch hT (by simp))
    have K4 := hide hL1
    clear hPR hT hL1 H3 B3 M3 L3 HPR3
    obtain ⟨vv, v', kv', gv', xs', R⟩ := HD.out.2.2.2 ▸ HD.out.2.1 ▸ H4.out.ref ix hi
    have hvr := R.vis
    rw [hvn] at hvr
    obtain ⟨vb, vcap, rfl, hvc, -, hvl, hvcell, -⟩ := hvr.row.pos (by omega)
    have v1 : w2.cell? ⟨rr, 1, none⟩ = some (.slice (some ⟨vb, 0, none⟩) n vcap) := R.blk.blk.cell 1
    have hrl := R.blk.blk.lt
    obtain ⟨_, _, e, -, -, hll, hlcell, -⟩ := L4.out.row.pos (by omega)
    obtain ⟨e', -, -⟩ := Value.slice.inj e
    cases e'
    clear e
    obtain ⟨_, _, e, -, -, hml, hmcell, -⟩ := K4.out.row.pos (by omega)
    obtain ⟨e', -, -⟩ := Value.slice.inj e
    cases e'
    clear e
    have HVC := hide hvcell
    have HLC := hide hlcell
    have HMC := hide hmcell
    have HVN := hide hvn
    clear R hvr hvcell hlcell hmcell hvn
    go_wp2_with fail
    go_loopw [14, 15] (fun ok k wr => ∃ kk : Nat, kk ≤ n ∧ ok = .bool true ∧ k = .int .i64 kk ∧ Hid (Below w2.heap.size w2 wr)) (fun _ k _ => n - (intOf k).toNat)
    case atStart => exact ⟨0, Nat.zero_le _, rfl, rfl, Below.refl _ _⟩
    case round =>
      obtain ⟨kk, hkk, rfl, rfl, hBr⟩ := hrel
      have hsr := hBr.out.size
      by_cases hlt : kk < n
      · have x1 := HVC.out kk (by omega)
        have x2 := HLC.out kk (by omega)
        have x3 := HMC.out kk (by omega)
        rw [ints_get _ _ (by have := HVN.out; omega)] at x1 x2 x3
        have y0 := cell_later hBr.out v1
        have y1 := cell_later hBr.out x1
        have y2 := cell_later hBr.out x2
        have y3 := cell_later hBr.out x3
        have z1 : rr < wr.heap.size := by omega
        have z2 : vb < wr.heap.size := by omega
        have z3 : lb < wr.heap.size := by omega
        have z4 : mb < wr.heap.size := by omega
        generalize d.vis[kk]'(by have := HVN.out; omega) = xx at *
        clear x1 x2 x3 v1 hrl hvl hll hml
        go_wp2_with fail
        go_quiet (fail)
        go_wp2_with fail
        exact ⟨⟨kk + 1, by omega, rfl, by go_num, below_drewN hBr.out _⟩, by simp [intOf]; omega⟩
      · have H5 := hide (H4.out.below P hBr.out)
        have M5 := hide (M4.out.below hBr.out)
        have L5 := hide (L4.out.below hBr.out)
        have K5 := hide (K4.out.below hBr.out)
        clear v1 hrl hvl hll hml H4 M4 L4 K4
        go_wp2_with fail
        refine (counts_any wr o3 wb (s + 11, 0, 0) (s + 11, 4, 0) (s + 11, 5, 0) (s + 12, 4, 0) _ _ _ _ _ _ _ cnt m _ n (by simp) (by omega) (by omega) (by omega) (H5.out.toCount L5.out)).mono ?_
        rintro e wA ⟨rfl, oA, nvA, kvA, lA, TA⟩
        have HA2 := hide (H5.out.ofCount P TA (by omega))
        have MA := hide (M5.out.trans (TA.touch.moved fun _ => count_law))
        have KA := hide (K5.out.touch TA.touch (by simp))
        clear H5 M5 L5 K5 TA
        go_wp2_with fail
        refine (counts_any wA oA wb (s + 11, 0, 0) (s + 11, 4, 0) (s + 11, 5, 0) (s + 12, 5, 0) _ _ _ _ _ _ _ (cnt + 1) (m + 130) _ n (by simp) (by omega) (by omega) (by omega) (HA2.out.toCount KA.out)).mono ?_
        rintro e wB ⟨rfl, oB, nvB, kvB, lB, TB⟩
        have HB2 := hide (HA2.out.ofCount P TB (by omega))
        have MB := hide (MA.out.trans (TB.touch.moved fun _ => count_law))
        clear HA2 MA KA TB
        go_wp2_with fail
        go_ret
        refine ⟨rfl, oB, nvB, kvB, ?_, MB.out⟩
        have := HB2.out
        rw [show cnt + 1 + 1 = cnt + 2 by omega, show m + 130 + 130 = m + 260 by omega] at this
        exact this

end Go.Proofs.YtiplgdkpnhamaaaGreatDoor

/- The law's transacts and step, up to Visible: every answer is the document's. -/
namespace Go.Proofs.YtiplgdkpnhamaaaGreatDoor
open Go.RowKit

/-- The group behind at most K steps. -/
def GSt (PR : World → (Nat → Tag) → Tag → Nat → Nat → Nat → DRep → Prop) (s wb gb n : Nat) (pb rb : List Nat) (K : Nat) (w : World) (o : Nat → Tag) : Prop :=
  ∃ rsv way tv mv nv kv cnt m ds ts, LawSt PR w o s wb gb n pb rb rsv way tv mv nv kv cnt m ds ds ts ∧ Inv n ds ts ∧ 0 ≤ cnt ∧ cnt ≤ 2 * (K : Int) ∧ m ≤ 260 * K ∧ ts.length ≤ K
theorem LawSt.few {PR : World → (Nat → Tag) → Tag → Nat → Nat → Nat → DRep → Prop} {w : World} {o : Nat → Tag} {s wb gb n m : Nat} {pb rb : List Nat} {rsv way tv mv nv kv : Value} {cnt : Int} {dp dr : List DRep} {ts : List RTx}
    (h : LawSt PR w o s wb gb n pb rb rsv way tv mv nv kv cnt m dp dr ts) {i : Nat} {d : DRep} (hd : dr[i]? = some d) : ∀ k t, d.opn k = some t → t.ops.length ≤ 16 := by
  obtain ⟨hl, rfl⟩ := List.getElem?_eq_some_iff.1 hd
  intro k t ht
  obtain ⟨vv, v, kv', gv, xs, R⟩ := h.ref i (by have := h.drlen; omega)
  have hk : k < xs.length := by
    by_cases c : k < xs.length
    · exact c
    · rw [R.bey k (by omega)] at ht; cases ht
  exact (R.tx k hk t ht).2.1

theorem transacts_any (PR : World → (Nat → Tag) → Tag → Nat → Nat → Nat → DRep → Prop) (P : PApi PR) (w : World) (o : Nat → Tag) (s wb gb n : Nat) (pb rb : List Nat) (K : Nat) (p : LOp) (hp : p.Ok) (hk : 1 ≤ p.kind ∧ p.kind ≤ 8)
    (h : GSt PR s wb gb n pb rb K w o) (hn : 0 < n) (hn5 : n ≤ 5) (hK : K ≤ 1050000) :
    Calls Tryz.prog 52 #[ptr wb, p.agg] w fun e w' => e = .returned (.bool true) ∧ ∃ o', GSt PR s wb gb n pb rb (K + 1) w' o' ∧ Moved (lawTag s) w o w' o' := by
  obtain ⟨rsv, way, tv, mv, nv, kv, cnt, m, ds, ts, H, I, c0, c1, hm, ht⟩ := h
  have hroom : ∀ d, d ∈ ds → Room d := fun d hd => by
    obtain ⟨i, hi, rfl⟩ := List.mem_iff_getElem.1 hd
    exact I.room (List.getElem?_eq_getElem hi) (by omega)
  have hcase : p.kind = 1 ∨ p.kind = 2 ∨ p.kind = 3 ∨ p.kind = 4 ∨ p.kind = 5 ∨ p.kind = 6 ∨ p.kind = 7 ∨ p.kind = 8 := by omega
  rcases hcase with e | e | e | e | e | e | e | e
  · refine (transacts_begin PR P w o s wb gb n pb rb rsv way tv mv nv kv cnt m ds ts p hp e H hn hn5 hroom).mono ?_
    rintro e' w' ⟨rfl, o', i, d, hi, hd, H', M⟩
    exact ⟨rfl, o', ⟨rsv, way, tv, mv, nv, kv, cnt, m, _, ts, H', I.begins hd, c0, by omega, by omega, by omega⟩, M⟩
  · refine (transacts_add PR P w o s wb gb n pb rb rsv way tv mv nv kv cnt m ds ts p hp e H hn hn5 hroom).mono ?_
    rintro e' w' ⟨rfl, o', i, d, hi, hd, H', M⟩
    exact ⟨rfl, o', ⟨rsv, way, tv, mv, nv, kv, cnt, m, _, ts, H', I.does hd _ _, c0, by omega, by omega, by omega⟩, M⟩
  · refine (transacts_write PR P w o s wb gb n pb rb rsv way tv mv nv kv cnt m ds ts p hp e H hn hn5 hroom).mono ?_
    rintro e' w' ⟨rfl, o', i, d, hi, hd, H', M⟩
    exact ⟨rfl, o', ⟨rsv, way, tv, mv, nv, kv, cnt, m, _, ts, H', I.does hd _ _, c0, by omega, by omega, by omega⟩, M⟩
  · refine (transacts_insert PR P w o s wb gb n pb rb rsv way tv mv nv kv cnt m ds ts p hp e H hn hn5 hroom).mono ?_
    rintro e' w' ⟨rfl, o', i, d, hi, hd, H', M⟩
    exact ⟨rfl, o', ⟨rsv, way, tv, mv, nv, kv, cnt, m, _, ts, H', I.does hd _ _, c0, by omega, by omega, by omega⟩, M⟩
  · refine (transacts_remove PR P w o s wb gb n pb rb rsv way tv mv nv kv cnt m ds ts p hp e H hn hn5 hroom).mono ?_
    rintro e' w' ⟨rfl, o', i, d, hi, hd, H', M⟩
    exact ⟨rfl, o', ⟨rsv, way, tv, mv, nv, kv, cnt, m, _, ts, H', I.does hd _ _, c0, by omega, by omega, by omega⟩, M⟩
  · refine (transacts_read PR P w o s wb gb n pb rb rsv way tv mv nv kv cnt m ds ts p hp e H hn hn5 hroom (by omega) (by omega) ?_ ?_ ?_).mono ?_
    · intro d hd
      obtain ⟨i, hi, rfl⟩ := List.mem_iff_getElem.1 hd
      exact I.reads (List.getElem?_eq_getElem hi) _ _
    · intro d hd
      obtain ⟨i, hi, rfl⟩ := List.mem_iff_getElem.1 hd
      exact I.readLen (List.getElem?_eq_getElem hi) (by omega) hn5 (H.few (List.getElem?_eq_getElem hi)) _ _
    · intro d hd
      obtain ⟨i, hi, rfl⟩ := List.mem_iff_getElem.1 hd
      exact I.sawIn (List.getElem?_eq_getElem hi) (by omega) _
    · rintro e' w' ⟨rfl, o', tv', mv', H', M⟩
      exact ⟨rfl, o', ⟨rsv, way, tv', mv', nv, kv, cnt + 2, m + 260, ds, ts, H', I, by omega, by omega, by omega, by omega⟩, M⟩
  · refine (transacts_commit PR P w o s wb gb n pb rb rsv way tv mv nv kv cnt m ds ts p hp e H hn hn5 hroom (by omega)).mono ?_
    rintro e' w' ⟨rfl, o', i, d, hi, hd, H', M⟩
    refine ⟨rfl, o', ⟨rsv, way, tv, mv, nv, kv, cnt, m, _, _, H', I.commits hd _ (H.few hd), c0, by omega, by omega, ?_⟩, M⟩
    unfold commitT
    split
    · omega
    · split
      · omega
      · simp; omega
  · refine (transacts_abort PR P w o s wb gb n pb rb rsv way tv mv nv kv cnt m ds ts p hp e H hn hn5 hroom).mono ?_
    rintro e' w' ⟨rfl, o', i, d, hi, hd, H', M⟩
    exact ⟨rfl, o', ⟨rsv, way, tv, mv, nv, kv, cnt, m, _, ts, H', I.aborts hd _, c0, by omega, by omega, by omega⟩, M⟩

theorem tells_any (PR : World → (Nat → Tag) → Tag → Nat → Nat → Nat → DRep → Prop) (P : PApi PR) (w : World) (o : Nat → Tag) (s wb gb n : Nat) (pb rb : List Nat) (K : Nat) (p : LOp) (hp : p.Ok) (hk : p.kind = 9)
    (h : GSt PR s wb gb n pb rb K w o) (hn : 0 < n) (hn5 : n ≤ 5) (hK : K ≤ 1050000) :
    Calls Tryz.prog 53 #[ptr wb, p.agg] w fun e w' => e = .returned (.bool true) ∧ ∃ o', GSt PR s wb gb n pb rb (K + 1) w' o' ∧ Moved (lawTag s) w o w' o' := by
  obtain ⟨rsv, way, tv, mv, nv, kv, cnt, m, ds, ts, H, I, c0, c1, hm, ht⟩ := h
  refine (tells_visible PR P w o s wb gb n pb rb rsv way tv mv nv kv cnt m ds ts p hp hk H hn hn5 (fun d hd => ?_) (by omega) (by omega)).mono ?_
  · obtain ⟨i, hi, rfl⟩ := List.mem_iff_getElem.1 hd
    exact I.room (List.getElem?_eq_getElem hi) (by omega)
  · rintro e' w' ⟨rfl, o', nv', kv', H', M⟩
    exact ⟨rfl, o', ⟨rsv, way, tv, mv, nv', kv', cnt + 2, m + 260, ds, ts, H', I, by omega, by omega, by omega, by omega⟩, M⟩

theorem GSt.new {PR : World → (Nat → Tag) → Tag → Nat → Nat → Nat → DRep → Prop} (P : PApi PR) {w : World} {o : Nat → Tag} {s wb gb n K : Nat} {pb rb : List Nat} (h : GSt PR s wb gb n pb rb K w o) (ob : Obj) (t : Tag) : GSt PR s wb gb n pb rb K (w.alloc ob) (upd o w.heap.size t) := by
  obtain ⟨rsv, way, tv, mv, nv, kv, cnt, m, ds, ts, H, rest⟩ := h
  exact ⟨rsv, way, tv, mv, nv, kv, cnt, m, ds, ts, H.new P ob t, rest⟩
theorem GSt.more {PR : World → (Nat → Tag) → Tag → Nat → Nat → Nat → DRep → Prop} {w : World} {o : Nat → Tag} {s wb gb n K : Nat} {pb rb : List Nat} (h : GSt PR s wb gb n pb rb K w o) : GSt PR s wb gb n pb rb (K + 1) w o := by
  obtain ⟨rsv, way, tv, mv, nv, kv, cnt, m, ds, ts, H, I, c0, c1, hm, ht⟩ := h
  exact ⟨rsv, way, tv, mv, nv, kv, cnt, m, ds, ts, H, I, c0, by omega, by omega, by omega⟩

set_option maxRecDepth 100000 in
set_option maxHeartbeats 2000000 in
theorem step_any (PR : World → (Nat → Tag) → Tag → Nat → Nat → Nat → DRep → Prop) (P : PApi PR) (w : World) (o : Nat → Tag) (s wb gb n : Nat) (pb rb : List Nat) (K : Nat) (p : LOp) (hp : p.Ok) (hk : p.kind ≤ 9)
    (h : GSt PR s wb gb n pb rb K w o) (hn : 0 < n) (hn5 : n ≤ 5) (hK : K ≤ 1050000) :
    Calls Tryz.prog 18 #[ptr wb, p.agg] w fun e w' => e = .returned (.bool true) ∧ ∃ o', GSt PR s wb gb n pb rb (K + 1) w' o' ∧ Moved (lawTag s) w o w' o' := by
  obtain ⟨kind, a, b, c, key, text⟩ := p
  simp only at hk
  have HG := hide (h.new P (.cells #[.int .i64 kind, .int .i64 a, .int .i64 b, .int .i64 c, .string key, .string text] 30) (s + 12, 0, 0))
  have HM := hide (moved_new (B := lawTag s) w o (.cells #[.int .i64 kind, .int .i64 a, .int .i64 b, .int .i64 c, .string key, .string text] 30) (s + 12, 0, 0))
  have HP := hide hp
  clear h hp
  by_cases h1 : 1 ≤ kind
  · by_cases h8 : kind ≤ 8
    · go_enter Tryz.func18, Tryz.ntmps18
      go_wp2_with fail
      refine (transacts_any PR P _ _ s wb gb n pb rb K ⟨kind, a, b, c, key, text⟩ HP.out ⟨h1, h8⟩ HG.out hn hn5 hK).mono ?_
      rintro e w' ⟨rfl, o', hG, hM⟩
      have HG' := hide hG
      have HM' := hide (HM.out.trans hM)
      clear hG hM HG HM
      go_wp2_with fail
      go_ret
      exact ⟨rfl, o', HG'.out, HM'.out⟩
    · have e9 : kind = 9 := by omega
      subst e9
      go_enter Tryz.func18, Tryz.ntmps18
      go_wp2_with fail
      refine (tells_any PR P _ _ s wb gb n pb rb K ⟨9, a, b, c, key, text⟩ HP.out rfl HG.out hn hn5 hK).mono ?_
      rintro e w' ⟨rfl, o', hG, hM⟩
      have HG' := hide hG
      have HM' := hide (HM.out.trans hM)
      clear hG hM HG HM
      go_wp2_with fail
      go_ret
      exact ⟨rfl, o', HG'.out, HM'.out⟩
  · have n9 : (kind == 9) = false := by simp; omega
    have n14 : (kind == 14) = false := by simp; omega
    have n15 : (kind == 15) = false := by simp; omega
    have n10 : ¬ 10 ≤ kind := by omega
    go_enter Tryz.func18, Tryz.ntmps18
    go_wp2_with fail
    go_ret
    exact ⟨rfl, _, HG.out.more, HM.out⟩

end Go.Proofs.YtiplgdkpnhamaaaGreatDoor
