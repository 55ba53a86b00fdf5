/- The texts L6, joined. -/
import Derived.Test.YtiplgdkpnhamaaaGreatDoorW08

/- The law's transacts: Commit. -/
namespace Go.Proofs.YtiplgdkpnhamaaaGreatDoor
open Go.RowKit

set_option maxRecDepth 100000 in
set_option maxHeartbeats 4000000 in
theorem transacts_commit (PR : World → (Nat → Tag) → Tag → Nat → Nat → Nat → DRep → Prop) (P : PApi PR) (w : World) (o : Nat → Tag) (s wb gb n : Nat) (pb rb : List Nat) (rsv way tv mv nv kv : Value) (cnt : Int) (m : Nat) (ds : List DRep) (ts : List RTx) (p : LOp) (hp : p.Ok) (hk : p.kind = 7)
    (h : LawSt PR w o s wb gb n pb rb rsv way tv mv nv kv cnt m ds ds ts) (hn : 0 < n) (hn5 : n ≤ 5) (hroom : ∀ d, d ∈ ds → Room d) (hts : ts.length < 2000000) :
    Calls Tryz.prog 52 #[ptr wb, p.agg] w fun e w' => e = .returned (.bool true) ∧ ∃ o' i d, i < n ∧ ds[i]? = some d ∧ LawSt PR w' o' s wb gb n pb rb rsv way tv mv nv kv cnt m (ds.set i (commitD i d p.b)) (ds.set i (commitD i d p.b)) (commitT i d p.b ts) ∧ Moved (lawTag s) w o w' o' := by
  obtain ⟨kind, a, b, c, key, text⟩ := p
  simp only at hk
  subst hk
  have hlp := h.plen
  have hlr := h.rlen
  have hld := h.dplen
  obtain ⟨ix, hix⟩ : ∃ ix, pickOf a n = ix := ⟨_, rfl⟩
  have hi : ix < n := by rw [← hix]; exact pickOf_lt a n hn
  have HPK : Hid (∀ v, Calls Tryz.prog 51 #[.int .i64 a, .int .i64 n] v fun e w' => e = .returned (.int .i64 ix) ∧ w' = v) := fun v => by rw [← hix]; exact pick_any a n v hn hn5 hp.a0 hp.a1
  clear hix
  have H1 := hide (h.new P (.cells #[.int .i64 7, .int .i64 a, .int .i64 b, .int .i64 c, .string key, .string text] 30) (s + 12, 0, 0))
  have B1 := hide (Bl.fresh w o [.int .i64 7, .int .i64 a, .int .i64 b, .int .i64 c, .string key, .string text] 30 (s + 12, 0, 0))
  have M1 := hide (moved_new (B := lawTag s) w o (.cells #[.int .i64 7, .int .i64 a, .int .i64 b, .int .i64 c, .string key, .string text] 30) (s + 12, 0, 0))
  clear h
  generalize hW : w.alloc (.cells #[.int .i64 7, .int .i64 a, .int .i64 b, .int .i64 c, .string key, .string text] 30) = W at *
  generalize upd o w.heap.size (s + 12, 0, 0) = o1 at *
  obtain ⟨grs, rcap, rfl, hrc, hgrs, hri⟩ := rs_at H1.out.rs (i := ix) (by omega)
  obtain ⟨rv, av, axs, G⟩ := H1.out.grp
  obtain ⟨gR, Rcap, rfl, hRc, hgR, hRi⟩ := rs_at (bs := rb) G.rs (i := ix) (by omega)
  have c0 : W.cell? ⟨wb, 0, none⟩ = some (.slice (some ⟨grs, 0, none⟩) n rcap) := by rw [← hlp]; exact H1.out.blk.blk.cell 0
  have c1 : W.cell? ⟨wb, 1, none⟩ = some (ptr gb) := H1.out.blk.blk.cell 1
  have c2 : W.cell? ⟨gb, 1, none⟩ = some (.slice (some ⟨gR, 0, none⟩) n Rcap) := by rw [← hlr]; exact G.blk.blk.cell 1
  have k0 : W.cell? ⟨w.heap.size, 0, none⟩ = some (.int .i64 7) := B1.out.blk.cell 0
  have k1 : W.cell? ⟨w.heap.size, 1, none⟩ = some (.int .i64 a) := B1.out.blk.cell 1
  have hwl := H1.out.blk.blk.lt
  have hgl := G.blk.blk.lt
  have hbl := B1.out.blk.lt
  have hrc' : n ≤ rcap := by omega
  have hRc' : n ≤ Rcap := by omega
  obtain ⟨pr, hpr⟩ : ∃ pr, pb[ix] = pr := ⟨_, rfl⟩
  obtain ⟨rr, hrr⟩ : ∃ rr, rb[ix] = rr := ⟨_, rfl⟩
  obtain ⟨d, hd⟩ : ∃ d, ds[ix] = d := ⟨_, rfl⟩
  have HPR := hide (hpr ▸ hd ▸ H1.out.prog ix hi)
  have HRR := hide (hrr ▸ hd ▸ H1.out.ref ix hi)
  rw [hpr] at hri
  rw [hrr] at hRi
  have HD := hide (⟨hroom d (by rw [← hd]; exact List.getElem_mem _), hd, hpr, hrr⟩ : _ ∧ _ ∧ _ ∧ _)
  clear G hp hroom hpr hrr hd
  go_enter Tryz.func52, Tryz.ntmps52
  go_upto_region 1 with (fail)
  go_cut [5] (fun v wc => v = .int .i64 ix ∧ Hid (Below W.heap.size W wc))
  case first =>
    go_region_with (go_at_call 51; refine (HPK.out _).mono ?_; rintro e w5 ⟨rfl, rfl⟩)
    all_goals
      go_wp2_with fail
      go_meet
      exact ⟨rfl, (Below.refl _ _).drew⟩
  case rest =>
    obtain ⟨rfl, hB⟩ := hcut
    have H2 := hide (H1.out.below P hB.out)
    have B2 := hide (B1.out.below hB.out)
    have M2 := hide (M1.out.trans ((TouchT.ofBelow (A := lawTag s) (o := o1) hB.out).moved fun _ => id))
    have HPR2 := hide (P.move HPR.out fun q hq e => ⟨hB.out.block q hq, e⟩)
    have c0' := cell_later hB.out c0
    have c1' := cell_later hB.out c1
    have c2' := cell_later hB.out c2
    have hri' := cell_later hB.out hri
    have hRi' := cell_later hB.out hRi
    have k0' := cell_later hB.out k0
    have k2' : wc.cell? ⟨w.heap.size, 2, none⟩ = some (.int .i64 b) := B2.out.blk.cell 2
    have hsz := hB.out.size
    have hwl' : wb < wc.heap.size := by omega
    have hgl' : gb < wc.heap.size := by omega
    have hbl' : w.heap.size < wc.heap.size := by omega
    have hgrs' : grs < wc.heap.size := by omega
    have hgR' : gR < wc.heap.size := by omega
    clear c0 c1 c2 hri hRi k0 k1 hwl hgl hbl hgrs hgR hsz H1 B1 M1 HPR HRR hW HPK
    go_wp2_with fail
    refine (P.commit _ o1 (s + 1, ix, 0) pr n ix d b HPR2.out HD.out.1).mono ?_
    rintro e w1 ⟨he, o2, hPR, hT⟩
    obtain ⟨x, y, z, hxy⟩ := commitAns_shape ix d b
    rw [hxy] at he
    subst he
    have H3 := hide ((H2.out.progStep P hi hT (HD.out.2.2.1.symm ▸ hPR)).new P (.cells #[.int .i64 x, .int .i64 y] 62) (s + 12, 1, 0))
    have M3 := hide ((M2.out.trans (hT.moved prog_law)).trans (moved_new (B := lawTag s) w1 o2 (.cells #[.int .i64 x, .int .i64 y] 62) (s + 12, 1, 0)))
    have B3 := hide ((B2.out.touch hT (by simp)).new (.cells #[.int .i64 x, .int .i64 y] 62) (s + 12, 1, 0))
    have A3 := hide (Bl.fresh w1 o2 [.int .i64 x, .int .i64 y] 62 (s + 12, 1, 0))
    clear hPR hT H2 B2 M2 HPR2 c0' c1' c2' hri' hRi' k0' k2' hwl' hgl' hbl' hgrs' hgR'
    go_upto_region 20 with (fail)
    generalize hab : w1.heap.size = ab at *
    generalize w1.alloc (.cells #[.int .i64 x, .int .i64 y] 62) = W2 at *
    generalize upd o2 ab (s + 12, 1, 0) = o4 at *
    clear hab
    have H4 := hide (H3.out.retag P (s + 12, 3, 0))
    have M4 := hide (M3.out.retag (s + 12, 3, 0))
    have B4 := hide (B3.out.retag (s + 12, 3, 0))
    have A4 := hide (A3.out.retag (s + 12, 3, 0))
    have hT4 : Hid (upd o4 W2.heap.size (s + 12, 3, 0) W2.heap.size = (s + 12, 3, 0)) := upd_same _ _ _
    generalize upd o4 W2.heap.size (s + 12, 3, 0) = o5 at *
    have j1 : W2.cell? ⟨wb, 1, none⟩ = some (ptr gb) := H4.out.blk.blk.cell 1
    have j2 : W2.cell? ⟨w.heap.size, 2, none⟩ = some (.int .i64 b) := B4.out.blk.cell 2
    have hwl2 := H4.out.blk.blk.lt
    have hbl2 := B4.out.blk.lt
    have HDR : Hid (∀ (h : ix < ds.length), ds[ix] = d) := fun _ => HD.out.2.1
    clear H3 M3 B3 A3
    go_cut [22, 23] (fun pv ev wd => ∃ qb o', pv = ptr qb ∧ ev = .int .i64 z ∧ LawSt PR wd o' s wb gb n pb rb (.slice (some ⟨grs, 0, none⟩) pb.length rcap) way tv mv nv kv cnt m (ds.set ix (commitD ix d b)) (ds.set ix (commitD ix d b)) (commitT ix d b ts) ∧ Bl wd o' (s + 12, 1, 0) ab [.int .i64 x, .int .i64 y] 62 ∧ Bl wd o' (s + 12, 3, 0) qb [.int .i64 x, .int .i64 y] 62 ∧ Moved (lawTag s) w o wd o')
    case first =>
      go_region_with (go_at_call 91; refine (commit_in P H4.out hi hn5 (HDR.out (by omega)) HD.out.2.2.2 b HD.out.1 hts (by first | exact (Below.refl _ _).drew | exact ((Below.refl _ _).alloc (Nat.le_refl _) _).drew)).mono ?_; rintro e w5 ⟨he, o6, H5, M5⟩; rw [hxy] at he; subst he; have H5 := hide H5; have A5 := hide (Bl.moved (A4.out.below (by first | exact (Below.refl _ _).drew | exact ((Below.refl _ _).alloc (Nat.le_refl _) _).drew)) M5 both_tmp); have N5 := hide (Moved.trans (M4.out.below (by first | exact (Below.refl _ _).drew | exact ((Below.refl _ _).alloc (Nat.le_refl _) _).drew)) (M5.mono fun _ => both_law)); have M5 := hide M5; first | (have Q5 := ahead_at M5.out hT4.out both_tmp; have q0 := Q5.blk.cell 0; have q1 := Q5.blk.cell 1; have q2 := Q5.blk.frozen 0; have q3 := Q5.blk.frozen 1; have q4 := Q5.blk.lt; have Q5 := hide Q5) | skip)
      all_goals
        go_wp2_with fail
        go_meet
      all_goals first | (obtain ⟨r1, r2, r3⟩ := meetB P H5.out N5.out Q5.out (.int .i64 x) (.int .i64 y); exact ⟨_, _, rfl, rfl, r1, (A5.out.other (p := ⟨_, 0, none⟩) Q5.out.tag (by simp) _).other (p := ⟨_, 1, none⟩) Q5.out.tag (by simp) _, r2, r3⟩) | (obtain ⟨r1, r2, r3⟩ := meetA P H5.out N5.out [.int .i64 x, .int .i64 y] 62; exact ⟨_, _, rfl, rfl, r1, A5.out.new _ _, r2, r3⟩)
    case rest =>
      obtain ⟨qb, o7, rfl, rfl, H7, A7, Q7, M7⟩ := hcut
      have a0 : wc.cell? ⟨ab, 0, none⟩ = some (.int .i64 x) := A7.blk.cell 0
      have a1 : wc.cell? ⟨ab, 1, none⟩ = some (.int .i64 y) := A7.blk.cell 1
      have q0 : wc.cell? ⟨qb, 0, none⟩ = some (.int .i64 x) := Q7.blk.cell 0
      have q1 : wc.cell? ⟨qb, 1, none⟩ = some (.int .i64 y) := Q7.blk.cell 1
      have hal := A7.blk.lt
      have hql := Q7.blk.lt
      have H7 := hide H7
      have M7 := hide M7
      clear A7 Q7 H4 M4 B4 A4 hT4 j1 j2 hwl2 hbl2 hxy
      go_wp2_with fail
      go_ret
      exact ⟨rfl, o7, ix, d, hi, by rw [List.getElem?_eq_getElem (by omega), HD.out.2.1], H7.out, M7.out⟩

end Go.Proofs.YtiplgdkpnhamaaaGreatDoor
