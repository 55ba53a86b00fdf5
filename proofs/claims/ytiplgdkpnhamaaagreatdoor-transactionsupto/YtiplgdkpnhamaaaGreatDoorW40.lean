/- The texts L5write, L5remove, L9, joined. -/
import Derived.Test.YtiplgdkpnhamaaaGreatDoorW08
import Derived.Test.YtiplgdkpnhamaaaGreatDoorW39

/- The law's transacts: Write. -/
namespace Go.Proofs.YtiplgdkpnhamaaaGreatDoor
open Go.RowKit

set_option maxRecDepth 100000 in
set_option maxHeartbeats 4000000 in
theorem transacts_write (PR : World → (Nat → Tag) → Tag → Nat → Nat → Nat → DRep → Prop) (P : PApi PR) (w : World) (o : Nat → Tag) (s wb gb n : Nat) (pb rb : List Nat) (rsv way tv mv nv kv : Value) (cnt : Int) (m : Nat) (ds : List DRep) (ts : List RTx) (p : LOp) (hp : p.Ok) (hk : p.kind = 3)
    (h : LawSt PR w o s wb gb n pb rb rsv way tv mv nv kv cnt m ds ds ts) (hn : 0 < n) (hn5 : n ≤ 5) (hroom : ∀ d, d ∈ ds → Room d) :
    Calls Tryz.prog 52 #[ptr wb, p.agg] w fun e w' => e = .returned (.bool true) ∧ ∃ o' i d, i < n ∧ ds[i]? = some d ∧ LawSt PR w' o' s wb gb n pb rb rsv way tv mv nv kv cnt m (ds.set i (doesD d p.b ⟨2, p.key, p.text, p.c⟩)) (ds.set i (doesD d p.b ⟨2, p.key, p.text, p.c⟩)) ts ∧ Moved (lawTag s) w o w' o' := by
  obtain ⟨kind, a, b, c, key, text⟩ := p
  simp only at hk
  subst hk
  have hlp := h.plen
  have hlr := h.rlen
  have hld := h.dplen
  obtain ⟨ix, hix⟩ : ∃ ix, pickOf a n = ix := ⟨_, rfl⟩
  have hi : ix < n := by rw [← hix]; exact pickOf_lt a n hn
  have HPK : Hid (∀ v, Calls Tryz.prog 51 #[.int .i64 a, .int .i64 n] v fun e w' => e = .returned (.int .i64 ix) ∧ w' = v) := fun v => by rw [← hix]; exact pick_any a n v hn hn5 hp.a0 hp.a1
  clear hix
  have H1 := hide (h.new P (.cells #[.int .i64 3, .int .i64 a, .int .i64 b, .int .i64 c, .string key, .string text] 30) (s + 12, 0, 0))
  have B1 := hide (Bl.fresh w o [.int .i64 3, .int .i64 a, .int .i64 b, .int .i64 c, .string key, .string text] 30 (s + 12, 0, 0))
  have M1 := hide (moved_new (B := lawTag s) w o (.cells #[.int .i64 3, .int .i64 a, .int .i64 b, .int .i64 c, .string key, .string text] 30) (s + 12, 0, 0))
  clear h
  generalize hW : w.alloc (.cells #[.int .i64 3, .int .i64 a, .int .i64 b, .int .i64 c, .string key, .string text] 30) = W at *
  generalize upd o w.heap.size (s + 12, 0, 0) = o1 at *
  obtain ⟨grs, rcap, rfl, hrc, hgrs, hri⟩ := rs_at H1.out.rs (i := ix) (by omega)
  obtain ⟨rv, av, axs, G⟩ := H1.out.grp
  obtain ⟨gR, Rcap, rfl, hRc, hgR, hRi⟩ := rs_at (bs := rb) G.rs (i := ix) (by omega)
  have c0 : W.cell? ⟨wb, 0, none⟩ = some (.slice (some ⟨grs, 0, none⟩) n rcap) := by rw [← hlp]; exact H1.out.blk.blk.cell 0
  have c1 : W.cell? ⟨wb, 1, none⟩ = some (ptr gb) := H1.out.blk.blk.cell 1
  have c2 : W.cell? ⟨gb, 1, none⟩ = some (.slice (some ⟨gR, 0, none⟩) n Rcap) := by rw [← hlr]; exact G.blk.blk.cell 1
  have k0 : W.cell? ⟨w.heap.size, 0, none⟩ = some (.int .i64 3) := B1.out.blk.cell 0
  have k1 : W.cell? ⟨w.heap.size, 1, none⟩ = some (.int .i64 a) := B1.out.blk.cell 1
  have hwl := H1.out.blk.blk.lt
  have hgl := G.blk.blk.lt
  have hbl := B1.out.blk.lt
  have hrc' : n ≤ rcap := by omega
  have hRc' : n ≤ Rcap := by omega
  obtain ⟨pr, hpr⟩ : ∃ pr, pb[ix] = pr := ⟨_, rfl⟩
  obtain ⟨rr, hrr⟩ : ∃ rr, rb[ix] = rr := ⟨_, rfl⟩
  obtain ⟨d, hd⟩ : ∃ d, ds[ix] = d := ⟨_, rfl⟩
  have HPR := hide (hpr ▸ hd ▸ H1.out.prog ix hi)
  have HRR := hide (hrr ▸ hd ▸ H1.out.ref ix hi)
  rw [hpr] at hri
  rw [hrr] at hRi
  have HD := hide (⟨hroom d (by rw [← hd]; exact List.getElem_mem _), hd, hpr, hrr⟩ : _ ∧ _ ∧ _ ∧ _)
  have HP := hide hp
  clear G hp hroom hpr hrr hd
  go_enter Tryz.func52, Tryz.ntmps52
  go_upto_region 1 with (fail)
  go_cut [5] (fun v wc => v = .int .i64 ix ∧ Hid (Below W.heap.size W wc))
  case first =>
    go_region_with (go_at_call 51; refine (HPK.out _).mono ?_; rintro e w5 ⟨rfl, rfl⟩)
    all_goals
      go_wp2_with fail
      go_meet
      exact ⟨rfl, (Below.refl _ _).drew⟩
  case rest =>
    obtain ⟨rfl, hB⟩ := hcut
    have H2 := hide (H1.out.below P hB.out)
    have B2 := hide (B1.out.below hB.out)
    have M2 := hide (M1.out.trans ((TouchT.ofBelow (A := lawTag s) (o := o1) hB.out).moved fun _ => id))
    have HPR2 := hide (P.move HPR.out fun q hq e => ⟨hB.out.block q hq, e⟩)
    have c0' := cell_later hB.out c0
    have c1' := cell_later hB.out c1
    have c2' := cell_later hB.out c2
    have hri' := cell_later hB.out hri
    have hRi' := cell_later hB.out hRi
    have k0' := cell_later hB.out k0
    have k2' : wc.cell? ⟨w.heap.size, 2, none⟩ = some (.int .i64 b) := B2.out.blk.cell 2
    have k3' : wc.cell? ⟨w.heap.size, 3, none⟩ = some (.int .i64 c) := B2.out.blk.cell 3
    have k4' : wc.cell? ⟨w.heap.size, 4, none⟩ = some (.string key) := B2.out.blk.cell 4
    have k5' : wc.cell? ⟨w.heap.size, 5, none⟩ = some (.string text) := B2.out.blk.cell 5
    have hsz := hB.out.size
    have hwl' : wb < wc.heap.size := by omega
    have hgl' : gb < wc.heap.size := by omega
    have hbl' : w.heap.size < wc.heap.size := by omega
    have hgrs' : grs < wc.heap.size := by omega
    have hgR' : gR < wc.heap.size := by omega
    clear c0 c1 c2 hri hRi k0 k1 hwl hgl hbl hgrs hgR hsz H1 B1 M1 HPR HRR hW HPK
    go_wp2_with fail
    refine (P.write _ o1 (s + 1, ix, 0) pr n ix d b ⟨2, key, text, c⟩ HPR2.out HD.out.1 rfl HP.out.key HP.out.text).mono ?_
    rintro e w1 ⟨rfl, o2, hPR, hT⟩
    have H3 := hide (H2.out.progStep P hi hT (HD.out.2.2.1.symm ▸ hPR))
    have HRR3 := hide (HD.out.2.2.2 ▸ HD.out.2.1 ▸ H3.out.ref ix hi)
    have M3 := hide (M2.out.trans (hT.moved prog_law))
    have B3 := B2.out.touch hT (by simp)
    have j0 : w1.cell? ⟨w.heap.size, 0, none⟩ = some (.int .i64 3) := B3.blk.cell 0
    have j2 : w1.cell? ⟨w.heap.size, 2, none⟩ = some (.int .i64 b) := B3.blk.cell 2
    have j3 : w1.cell? ⟨w.heap.size, 3, none⟩ = some (.int .i64 c) := B3.blk.cell 3
    have j4 : w1.cell? ⟨w.heap.size, 4, none⟩ = some (.string key) := B3.blk.cell 4
    have j5 : w1.cell? ⟨w.heap.size, 5, none⟩ = some (.string text) := B3.blk.cell 5
    have hbl'' := B3.blk.lt
    clear hPR hT H2 B2 M2 HPR2 c0' c1' c2' hri' hRi' k0' k2' k3' k4' k5' hwl' hgl' hbl' hgrs' hgR' B3
    generalize hx : doesErr (opnAt d b) ⟨2, key, text, c⟩ = x at *
    have HX := hide hx
    clear hx
    go_wp2_with fail
    refine (ref_does w1 o2 s ix rr n d b ⟨2, key, text, c⟩ HRR3.out (by simp) HP.out.key HP.out.text).mono ?_
    rintro e w2 ⟨he, o3, hRR, hT⟩
    rw [HX.out] at he
    subst he
    have H4 := hide (H3.out.refTouch P hi hT (HD.out.2.2.2.symm ▸ hRR))
    have M4 := hide (M3.out.trans (hT.moved fun _ => rep_law))
    clear hRR hT H3 M3 HRR3 j0 j2 j3 j4 j5
    go_wp2_with fail
    go_ret
    exact ⟨rfl, o3, ix, d, hi, by rw [List.getElem?_eq_getElem (by omega), HD.out.2.1], H4.out, M4.out⟩

end Go.Proofs.YtiplgdkpnhamaaaGreatDoor

/- The law's transacts: Remove. -/
namespace Go.Proofs.YtiplgdkpnhamaaaGreatDoor
open Go.RowKit

set_option maxRecDepth 100000 in
set_option maxHeartbeats 4000000 in
theorem transacts_remove (PR : World → (Nat → Tag) → Tag → Nat → Nat → Nat → DRep → Prop) (P : PApi PR) (w : World) (o : Nat → Tag) (s wb gb n : Nat) (pb rb : List Nat) (rsv way tv mv nv kv : Value) (cnt : Int) (m : Nat) (ds : List DRep) (ts : List RTx) (p : LOp) (hp : p.Ok) (hk : p.kind = 5)
    (h : LawSt PR w o s wb gb n pb rb rsv way tv mv nv kv cnt m ds ds ts) (hn : 0 < n) (hn5 : n ≤ 5) (hroom : ∀ d, d ∈ ds → Room d) :
    Calls Tryz.prog 52 #[ptr wb, p.agg] w fun e w' => e = .returned (.bool true) ∧ ∃ o' i d, i < n ∧ ds[i]? = some d ∧ LawSt PR w' o' s wb gb n pb rb rsv way tv mv nv kv cnt m (ds.set i (doesD d p.b ⟨4, p.key, p.text, p.c⟩)) (ds.set i (doesD d p.b ⟨4, p.key, p.text, p.c⟩)) ts ∧ Moved (lawTag s) w o w' o' := by
  obtain ⟨kind, a, b, c, key, text⟩ := p
  simp only at hk
  subst hk
  have hlp := h.plen
  have hlr := h.rlen
  have hld := h.dplen
  obtain ⟨ix, hix⟩ : ∃ ix, pickOf a n = ix := ⟨_, rfl⟩
  have hi : ix < n := by rw [← hix]; exact pickOf_lt a n hn
  have HPK : Hid (∀ v, Calls Tryz.prog 51 #[.int .i64 a, .int .i64 n] v fun e w' => e = .returned (.int .i64 ix) ∧ w' = v) := fun v => by rw [← hix]; exact pick_any a n v hn hn5 hp.a0 hp.a1
  clear hix
  have H1 := hide (h.new P (.cells #[.int .i64 5, .int .i64 a, .int .i64 b, .int .i64 c, .string key, .string text] 30) (s + 12, 0, 0))
  have B1 := hide (Bl.fresh w o [.int .i64 5, .int .i64 a, .int .i64 b, .int .i64 c, .string key, .string text] 30 (s + 12, 0, 0))
  have M1 := hide (moved_new (B := lawTag s) w o (.cells #[.int .i64 5, .int .i64 a, .int .i64 b, .int .i64 c, .string key, .string text] 30) (s + 12, 0, 0))
  clear h
  generalize hW : w.alloc (.cells #[.int .i64 5, .int .i64 a, .int .i64 b, .int .i64 c, .string key, .string text] 30) = W at *
  generalize upd o w.heap.size (s + 12, 0, 0) = o1 at *
  obtain ⟨grs, rcap, rfl, hrc, hgrs, hri⟩ := rs_at H1.out.rs (i := ix) (by omega)
  obtain ⟨rv, av, axs, G⟩ := H1.out.grp
  obtain ⟨gR, Rcap, rfl, hRc, hgR, hRi⟩ := rs_at (bs := rb) G.rs (i := ix) (by omega)
  have c0 : W.cell? ⟨wb, 0, none⟩ = some (.slice (some ⟨grs, 0, none⟩) n rcap) := by rw [← hlp]; exact H1.out.blk.blk.cell 0
  have c1 : W.cell? ⟨wb, 1, none⟩ = some (ptr gb) := H1.out.blk.blk.cell 1
  have c2 : W.cell? ⟨gb, 1, none⟩ = some (.slice (some ⟨gR, 0, none⟩) n Rcap) := by rw [← hlr]; exact G.blk.blk.cell 1
  have k0 : W.cell? ⟨w.heap.size, 0, none⟩ = some (.int .i64 5) := B1.out.blk.cell 0
  have k1 : W.cell? ⟨w.heap.size, 1, none⟩ = some (.int .i64 a) := B1.out.blk.cell 1
  have hwl := H1.out.blk.blk.lt
  have hgl := G.blk.blk.lt
  have hbl := B1.out.blk.lt
  have hrc' : n ≤ rcap := by omega
  have hRc' : n ≤ Rcap := by omega
  obtain ⟨pr, hpr⟩ : ∃ pr, pb[ix] = pr := ⟨_, rfl⟩
  obtain ⟨rr, hrr⟩ : ∃ rr, rb[ix] = rr := ⟨_, rfl⟩
  obtain ⟨d, hd⟩ : ∃ d, ds[ix] = d := ⟨_, rfl⟩
  have HPR := hide (hpr ▸ hd ▸ H1.out.prog ix hi)
  have HRR := hide (hrr ▸ hd ▸ H1.out.ref ix hi)
  rw [hpr] at hri
  rw [hrr] at hRi
  have HD := hide (⟨hroom d (by rw [← hd]; exact List.getElem_mem _), hd, hpr, hrr⟩ : _ ∧ _ ∧ _ ∧ _)
  have HP := hide hp
  clear G hp hroom hpr hrr hd
  go_enter Tryz.func52, Tryz.ntmps52
  go_upto_region 1 with (fail)
  go_cut [5] (fun v wc => v = .int .i64 ix ∧ Hid (Below W.heap.size W wc))
  case first =>
    go_region_with (go_at_call 51; refine (HPK.out _).mono ?_; rintro e w5 ⟨rfl, rfl⟩)
    all_goals
      go_wp2_with fail
      go_meet
      exact ⟨rfl, (Below.refl _ _).drew⟩
  case rest =>
    obtain ⟨rfl, hB⟩ := hcut
    have H2 := hide (H1.out.below P hB.out)
    have B2 := hide (B1.out.below hB.out)
    have M2 := hide (M1.out.trans ((TouchT.ofBelow (A := lawTag s) (o := o1) hB.out).moved fun _ => id))
    have HPR2 := hide (P.move HPR.out fun q hq e => ⟨hB.out.block q hq, e⟩)
    have c0' := cell_later hB.out c0
    have c1' := cell_later hB.out c1
    have c2' := cell_later hB.out c2
    have hri' := cell_later hB.out hri
    have hRi' := cell_later hB.out hRi
    have k0' := cell_later hB.out k0
    have k2' : wc.cell? ⟨w.heap.size, 2, none⟩ = some (.int .i64 b) := B2.out.blk.cell 2
    have k3' : wc.cell? ⟨w.heap.size, 3, none⟩ = some (.int .i64 c) := B2.out.blk.cell 3
    have k4' : wc.cell? ⟨w.heap.size, 4, none⟩ = some (.string key) := B2.out.blk.cell 4
    have k5' : wc.cell? ⟨w.heap.size, 5, none⟩ = some (.string text) := B2.out.blk.cell 5
    have hsz := hB.out.size
    have hwl' : wb < wc.heap.size := by omega
    have hgl' : gb < wc.heap.size := by omega
    have hbl' : w.heap.size < wc.heap.size := by omega
    have hgrs' : grs < wc.heap.size := by omega
    have hgR' : gR < wc.heap.size := by omega
    clear c0 c1 c2 hri hRi k0 k1 hwl hgl hbl hgrs hgR hsz H1 B1 M1 HPR HRR hW HPK
    go_wp2_with fail
    refine (P.remove _ o1 (s + 1, ix, 0) pr n ix d b ⟨4, key, text, c⟩ HPR2.out HD.out.1 rfl HP.out.key HP.out.text).mono ?_
    rintro e w1 ⟨rfl, o2, hPR, hT⟩
    have H3 := hide (H2.out.progStep P hi hT (HD.out.2.2.1.symm ▸ hPR))
    have HRR3 := hide (HD.out.2.2.2 ▸ HD.out.2.1 ▸ H3.out.ref ix hi)
    have M3 := hide (M2.out.trans (hT.moved prog_law))
    have B3 := B2.out.touch hT (by simp)
    have j0 : w1.cell? ⟨w.heap.size, 0, none⟩ = some (.int .i64 5) := B3.blk.cell 0
    have j2 : w1.cell? ⟨w.heap.size, 2, none⟩ = some (.int .i64 b) := B3.blk.cell 2
    have j3 : w1.cell? ⟨w.heap.size, 3, none⟩ = some (.int .i64 c) := B3.blk.cell 3
    have j4 : w1.cell? ⟨w.heap.size, 4, none⟩ = some (.string key) := B3.blk.cell 4
    have j5 : w1.cell? ⟨w.heap.size, 5, none⟩ = some (.string text) := B3.blk.cell 5
    have hbl'' := B3.blk.lt
    clear hPR hT H2 B2 M2 HPR2 c0' c1' c2' hri' hRi' k0' k2' k3' k4' k5' hwl' hgl' hbl' hgrs' hgR' B3
    generalize hx : doesErr (opnAt d b) ⟨4, key, text, c⟩ = x at *
    have HX := hide hx
    clear hx
    go_wp2_with fail
    refine (ref_does w1 o2 s ix rr n d b ⟨4, key, text, c⟩ HRR3.out (by simp) HP.out.key HP.out.text).mono ?_
    rintro e w2 ⟨he, o3, hRR, hT⟩
    rw [HX.out] at he
    subst he
    have H4 := hide (H3.out.refTouch P hi hT (HD.out.2.2.2.symm ▸ hRR))
    have M4 := hide (M3.out.trans (hT.moved fun _ => rep_law))
    clear hRR hT H3 M3 HRR3 j0 j2 j3 j4 j5
    go_wp2_with fail
    go_ret
    exact ⟨rfl, o3, ix, d, hi, by rw [List.getElem?_eq_getElem (by omega), HD.out.2.1], H4.out, M4.out⟩

end Go.Proofs.YtiplgdkpnhamaaaGreatDoor

/- The law's awake: a transaction reads what it wrote. -/
namespace Go.Proofs.YtiplgdkpnhamaaaGreatDoor
open Go.RowKit

def awR : ByteArray := ⟨#[114]⟩
def awV : ByteArray := ⟨#[118]⟩
def awD1 : DRep := beginD (newD 2)
def awP : ROp := ⟨2, ⟨#[114]⟩, ⟨#[118]⟩, 0⟩
theorem aw_free : freeSlot (newD 2).opn = 0 := freeSlot_eq (by omega) (fun j hj => by omega) rfl
theorem aw_begin : beginAns (newD 2) = .tuple #[.int .i64 0, .int .i64 0] := by
  unfold beginAns; rw [aw_free]; rfl
theorem aw_open : opnAt awD1 0 = some ⟨0, 0, [0, 0], []⟩ := by
  unfold opnAt awD1 beginD
  rw [if_pos (by omega), aw_free, if_pos (by omega)]
  rfl
theorem aw_kind : kindOf ⟨#[114]⟩ = 114 := by decide
theorem aw_err : doesErr (opnAt awD1 0) awP = 0 := by
  rw [aw_open]
  have e : (⟨#[118]⟩ : ByteArray).size = 1 := rfl
  simp [doesErr, awP, aw_kind, kindByte, e]
def awD2 : DRep := doesD awD1 0 awP
theorem aw_open2 : opnAt awD2 0 = some ⟨0, 0, [0, 0], [awP]⟩ := by
  have e : awD2 = { awD1 with opn := setSlot awD1.opn 0 (some ⟨0, 0, [0, 0], [awP]⟩) } := by
    unfold awD2 doesD
    rw [aw_open]
    have h := aw_err
    rw [aw_open] at h
    simp only []
    rw [if_pos h]
    rfl
  rw [e]
  unfold opnAt
  rw [if_pos (by omega)]
  show setSlot awD1.opn 0 _ 0 = _
  exact setSlot_same _ _ _
theorem aw_read (hs : List RTx) : readAns (opnAt awD2 0) ⟨#[114]⟩ hs 2 = (0, [⟨#[118]⟩], 0) := by
  rw [aw_open2]
  have hl : lastOf ⟨#[114]⟩ noEl [awP] = some awP := lastOf_hit (k := 0) (by simp) (by simp [hits, awP]) (fun j hj h => by simp at hj; omega)
  simp only [readAns, aw_kind]
  rw [if_neg (by omega), if_pos trivial]
  simp only [hl]
  rfl
theorem aw_room (d : DRep) (h : d.hs = []) (hv : d.vis = [0, 0]) : Room d := ⟨by rw [h]; simp, fun j hj => by
  simp only [hv] at hj ⊢
  simp at hj
  rcases j with _ | _ | j
  · simp
  · simp
  · omega⟩
theorem below_touch {w w1 w2 : World} {o2 : Nat → Tag} (hB : Below w.heap.size w w1) (T : TouchT (· = (1, 0, 0)) w1 (own2 (fun _ => (0, 0, 0)) w.heap.size fun _ => (1, 0, 0)) w2 o2) : Below w.heap.size w w2 :=
  ⟨T.touch.os.trans hB.os, T.touch.tape.trans hB.tape, T.touch.output.trans hB.output, Nat.le_trans hB.size T.touch.size, fun q hq => by
    rw [T.touch.block q (Nat.lt_of_lt_of_le hq hB.size) (by rw [own2_low hq]; simp)]; exact hB.block q hq⟩

set_option maxRecDepth 100000 in
set_option maxHeartbeats 2000000 in
theorem awake_any (PR : World → (Nat → Tag) → Tag → Nat → Nat → Nat → DRep → Prop) (P : PApi PR) (w : World) :
    Calls Tryz.prog 15 #[] w fun e w' => e = .returned (.bool true) ∧ Below w.heap.size w w' := by
  go_enter Tryz.func15, Tryz.ntmps15
  go_wp2_with fail
  refine (P.newOk w 1 2 (by decide)).mono ?_
  rintro e w1 ⟨b, rfl, hB1, hnew⟩
  have hPR := hnew (fun _ => (0, 0, 0)) (1, 0, 0)
  have HB1 := hide hB1
  clear hnew hB1
  go_wp2_with fail
  refine (P.begins _ _ _ b 2 1 _ hPR (aw_room _ rfl rfl)).mono ?_
  rintro e w2 ⟨he, o2, hPR2, T2⟩
  rw [aw_begin] at he
  subst he
  have r1 : Room awD1 := aw_room _ (by unfold awD1 beginD; split <;> rfl) (by unfold awD1 beginD; split <;> rfl)
  have HPR2 := hide hPR2
  have HT2 := hide T2
  clear hPR hPR2 T2
  go_wp2_with fail
  refine (P.write _ _ _ b 2 1 awD1 0 awP HPR2.out r1 rfl (by simp [awP, maxLen]; decide) (by simp [awP, maxLen]; decide)).mono ?_
  rintro e w3 ⟨he, o3, hPR3, T3⟩
  rw [aw_err] at he
  subst he
  have hv2 : awD2.hs = [] ∧ awD2.vis = [0, 0] := by
    unfold awD2 doesD
    rw [aw_open]
    simp only []
    split <;> exact ⟨by unfold awD1 beginD; split <;> rfl, by unfold awD1 beginD; split <;> rfl⟩
  have r2 : Room awD2 := aw_room _ hv2.1 hv2.2
  have HPR3 := hide hPR3
  have HT3 := hide (HT2.out.trans T3)
  clear hPR3 T3 HPR2 HT2 r1
  go_wp2_with fail
  refine (P.read _ _ _ (2, 0, 0) b 2 1 awD2 0 ⟨#[114]⟩ HPR3.out r2 (by simp) (by simp [maxLen]; decide)).mono ?_
  rintro e w4 ⟨lv, o4, he, hPR4, T4, hL⟩
  rw [aw_read] at he hL
  simp only at he hL
  obtain ⟨lb, lcap, rfl, hlc, -, hll, hcell, -⟩ := hL.row.pos (by simp)
  subst he
  have c0 : w4.cell? ⟨lb, 0, none⟩ = some (.string ⟨#[118]⟩) := by rw [hcell 0 (by simp)]; rfl
  have HB4 := hide (below_touch HB1.out (HT3.out.trans T4))
  clear HPR3 HT3 hPR4 T4 hL hcell HB1
  go_wp2_with fail
  go_ret
  exact ⟨rfl, HB4.out.alloc HB4.out.size _⟩

end Go.Proofs.YtiplgdkpnhamaaaGreatDoor
