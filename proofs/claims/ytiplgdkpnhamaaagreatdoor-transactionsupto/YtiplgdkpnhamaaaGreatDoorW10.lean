/- The texts L7, joined. -/
import Derived.Test.YtiplgdkpnhamaaaGreatDoorW08

/- The law's transacts: Read. -/
namespace Go.Proofs.YtiplgdkpnhamaaaGreatDoor
open Go.RowKit

set_option maxRecDepth 100000 in
set_option maxHeartbeats 4000000 in
theorem transacts_read (PR : World → (Nat → Tag) → Tag → Nat → Nat → Nat → DRep → Prop) (P : PApi PR) (w : World) (o : Nat → Tag) (s wb gb n : Nat) (pb rb : List Nat) (rsv way tv mv nv kv : Value) (cnt : Int) (m : Nat) (ds : List DRep) (ts : List RTx) (p : LOp) (hp : p.Ok) (hk : p.kind = 6)
    (h : LawSt PR w o s wb gb n pb rb rsv way tv mv nv kv cnt m ds ds ts) (hn : 0 < n) (hn5 : n ≤ 5) (hroom : ∀ d, d ∈ ds → Room d) (hcnt : 0 ≤ cnt ∧ cnt ≤ 2900000000) (hm : m ≤ 900000000)
    (hag : ∀ d, d ∈ ds → readAns (opnAt d p.b) p.key d.hs n = readAns (opnAt d p.b) p.key ts n) (hlen : ∀ d, d ∈ ds → (readAns (opnAt d p.b) p.key ts n).2.1.length ≤ 100000000) (hsaw : ∀ d, d ∈ ds → ∀ t, opnAt d p.b = some t → SawIn t ts) :
    Calls Tryz.prog 52 #[ptr wb, p.agg] w fun e w' => e = .returned (.bool true) ∧ ∃ o' tv' mv', LawSt PR w' o' s wb gb n pb rb rsv way tv' mv' nv kv (cnt + 2) (m + 260) ds ds ts ∧ Moved (lawTag s) w o w' o' := by
  obtain ⟨kind, a, b, c, key, text⟩ := p
  simp only at hk
  subst hk
  have hlp := h.plen
  have hlr := h.rlen
  have hld := h.dplen
  obtain ⟨ix, hix⟩ : ∃ ix, pickOf a n = ix := ⟨_, rfl⟩
  have hi : ix < n := by rw [← hix]; exact pickOf_lt a n hn
  have HPK : Hid (∀ v, Calls Tryz.prog 51 #[.int .i64 a, .int .i64 n] v fun e w' => e = .returned (.int .i64 ix) ∧ w' = v) := fun v => by rw [← hix]; exact pick_any a n v hn hn5 hp.a0 hp.a1
  clear hix
  have H1 := hide (h.new P (.cells #[.int .i64 6, .int .i64 a, .int .i64 b, .int .i64 c, .string key, .string text] 30) (s + 12, 0, 0))
  have B1 := hide (Bl.fresh w o [.int .i64 6, .int .i64 a, .int .i64 b, .int .i64 c, .string key, .string text] 30 (s + 12, 0, 0))
  have M1 := hide (moved_new (B := lawTag s) w o (.cells #[.int .i64 6, .int .i64 a, .int .i64 b, .int .i64 c, .string key, .string text] 30) (s + 12, 0, 0))
  clear h
  generalize hW : w.alloc (.cells #[.int .i64 6, .int .i64 a, .int .i64 b, .int .i64 c, .string key, .string text] 30) = W at *
  generalize upd o w.heap.size (s + 12, 0, 0) = o1 at *
  obtain ⟨grs, rcap, rfl, hrc, hgrs, hri⟩ := rs_at H1.out.rs (i := ix) (by omega)
  obtain ⟨rv, av, axs, G⟩ := H1.out.grp
  obtain ⟨gR, Rcap, rfl, hRc, hgR, hRi⟩ := rs_at (bs := rb) G.rs (i := ix) (by omega)
  have c0 : W.cell? ⟨wb, 0, none⟩ = some (.slice (some ⟨grs, 0, none⟩) n rcap) := by rw [← hlp]; exact H1.out.blk.blk.cell 0
  have c1 : W.cell? ⟨wb, 1, none⟩ = some (ptr gb) := H1.out.blk.blk.cell 1
  have c2 : W.cell? ⟨gb, 1, none⟩ = some (.slice (some ⟨gR, 0, none⟩) n Rcap) := by rw [← hlr]; exact G.blk.blk.cell 1
  have k0 : W.cell? ⟨w.heap.size, 0, none⟩ = some (.int .i64 6) := B1.out.blk.cell 0
  have k1 : W.cell? ⟨w.heap.size, 1, none⟩ = some (.int .i64 a) := B1.out.blk.cell 1
  have hwl := H1.out.blk.blk.lt
  have hgl := G.blk.blk.lt
  have hbl := B1.out.blk.lt
  have hrc' : n ≤ rcap := by omega
  have hRc' : n ≤ Rcap := by omega
  obtain ⟨pr, hpr⟩ : ∃ pr, pb[ix] = pr := ⟨_, rfl⟩
  obtain ⟨rr, hrr⟩ : ∃ rr, rb[ix] = rr := ⟨_, rfl⟩
  obtain ⟨d, hd⟩ : ∃ d, ds[ix] = d := ⟨_, rfl⟩
  have HPR := hide (hpr ▸ hd ▸ H1.out.prog ix hi)
  have HRR := hide (hrr ▸ hd ▸ H1.out.ref ix hi)
  rw [hpr] at hri
  rw [hrr] at hRi
  have HD := hide (⟨hroom d (by rw [← hd]; exact List.getElem_mem _), hd, hpr, hrr⟩ : _ ∧ _ ∧ _ ∧ _)
  have hmem : d ∈ ds := by rw [← hd]; exact List.getElem_mem _
  obtain ⟨S, L, E, hA⟩ : ∃ S L E, readAns (opnAt d b) key ts n = (S, L, E) := ⟨_, _, _, rfl⟩
  have HA := hide (⟨hA, (hag d hmem).trans hA, hsaw d hmem⟩ : _ ∧ _ ∧ _)
  have hL : L.length ≤ 100000000 := by have := hlen d hmem; simp only [hA] at this; exact this
  have HP := hide hp
  clear G hp hroom hpr hrr hd hag hlen hsaw hA hmem
  go_enter Tryz.func52, Tryz.ntmps52
  go_upto_region 1 with (fail)
  go_cut [5] (fun v wc => v = .int .i64 ix ∧ Hid (Below W.heap.size W wc))
  case first =>
    as_aux_lemma =>
    go_region_with (go_at_call 51; refine (HPK.out _).mono ?_; rintro e w5 ⟨rfl, rfl⟩)
    all_goals
      go_wp2_with fail
      go_meet
      exact ⟨rfl, (Below.refl _ _).drew⟩
  case rest =>
    obtain ⟨rfl, hB⟩ := hcut
    have H2 := hide (H1.out.below P hB.out)
    have B2 := hide (B1.out.below hB.out)
    have M2 := hide (M1.out.trans ((TouchT.ofBelow (A := lawTag s) (o := o1) hB.out).moved fun _ => id))
    have HPR2 := hide (P.move HPR.out fun q hq e => ⟨hB.out.block q hq, e⟩)
    have c0' := cell_later hB.out c0
    have c1' := cell_later hB.out c1
    have c2' := cell_later hB.out c2
    have hri' := cell_later hB.out hri
    have hRi' := cell_later hB.out hRi
    have k0' := cell_later hB.out k0
    have k2' : wc.cell? ⟨w.heap.size, 2, none⟩ = some (.int .i64 b) := B2.out.blk.cell 2
    have k4' : wc.cell? ⟨w.heap.size, 4, none⟩ = some (.string key) := B2.out.blk.cell 4
    have hsz := hB.out.size
    have hwl' : wb < wc.heap.size := by omega
    have hgl' : gb < wc.heap.size := by omega
    have hbl' : w.heap.size < wc.heap.size := by omega
    have hgrs' : grs < wc.heap.size := by omega
    have hgR' : gR < wc.heap.size := by omega
    clear c0 c1 c2 hri hRi k0 k1 hwl hgl hbl hgrs hgR hsz H1 B1 M1 HPR HRR hW HPK
    go_wp2_with fail
    refine (P.read _ o1 (s + 1, ix, 0) (s + 12, 4, 0) pr n ix d b key HPR2.out HD.out.1 (by simp) HP.out.key).mono ?_
    rintro e w1 ⟨lv, o2, he, hPR, hT, hL1⟩
    rw [HA.out.2.1] at he hL1
    simp only at he hL1
    obtain ⟨lo, lcap, rfl, -, -, -⟩ := hL1.row.shape
    subst he
    have H3 := hide ((H2.out.progSame P hi hT HD.out.2.1 (HD.out.2.2.1.symm ▸ hPR)).new P (.cells #[.int .i64 S, .slice lo L.length lcap] 66) (s + 12, 1, 0))
    have M3 := hide ((M2.out.trans (hT.moved prog_law)).trans (moved_new (B := lawTag s) w1 o2 (.cells #[.int .i64 S, .slice lo L.length lcap] 66) (s + 12, 1, 0)))
    have B3 := hide ((B2.out.touch hT (by simp)).new (.cells #[.int .i64 S, .slice lo L.length lcap] 66) (s + 12, 1, 0))
    have A3 := hide (Bl.fresh w1 o2 [.int .i64 S, .slice lo L.length lcap] 66 (s + 12, 1, 0))
    have L3 := hide (hL1.newBlk (.cells #[.int .i64 S, .slice lo L.length lcap] 66) (s + 12, 1, 0))
    clear hPR hT hL1 H2 B2 M2 HPR2 c0' c1' c2' hri' hRi' k0' k2' k4' hwl' hgl' hbl' hgrs' hgR'
    go_upto_region 11 with (fail)
    generalize hab : w1.heap.size = ab at *
    generalize w1.alloc (.cells #[.int .i64 S, .slice lo L.length lcap] 66) = W2 at *
    generalize upd o2 ab (s + 12, 1, 0) = o3 at *
    clear hab
    have k2 : W2.cell? ⟨w.heap.size, 2, none⟩ = some (.int .i64 b) := B3.out.blk.cell 2
    have k4 : W2.cell? ⟨w.heap.size, 4, none⟩ = some (.string key) := B3.out.blk.cell 4
    have hbl2 := B3.out.blk.lt
    have HPR3 := hide (HD.out.2.2.1 ▸ HD.out.2.1 ▸ H3.out.prog ix hi)
    go_wp2_with fail
    refine (P.read _ o3 (s + 1, ix, 0) (s + 12, 5, 0) pr n ix d b key HPR3.out HD.out.1 (by simp) HP.out.key).mono ?_
    rintro e w2 ⟨lv, o4, he, hPR, hT, hL1⟩
    rw [HA.out.2.1] at he hL1
    simp only at he hL1
    obtain ⟨co, ccap, rfl, -, -, -⟩ := hL1.row.shape
    subst he
    have H4 := hide (((H3.out.progSame P hi hT HD.out.2.1 (HD.out.2.2.1.symm ▸ hPR)).new P (.cells #[.int .i64 S, .slice co L.length ccap] 66) (s + 12, 2, 0)).retag P (s + 12, 3, 0))
    have M4 := hide (((M3.out.trans (hT.moved prog_law)).trans (moved_new (B := lawTag s) w2 o4 (.cells #[.int .i64 S, .slice co L.length ccap] 66) (s + 12, 2, 0))).retag (s + 12, 3, 0))
    have B4 := hide (((B3.out.touch hT (by simp)).new (.cells #[.int .i64 S, .slice co L.length ccap] 66) (s + 12, 2, 0)).retag (s + 12, 3, 0))
    have A4 := hide (((A3.out.touch hT (by simp)).new (.cells #[.int .i64 S, .slice co L.length ccap] 66) (s + 12, 2, 0)).retag (s + 12, 3, 0))
    have L4 := hide (((L3.out.touch hT (by simp)).newBlk (.cells #[.int .i64 S, .slice co L.length ccap] 66) (s + 12, 2, 0)).retag (s + 12, 3, 0))
    have C4 := hide ((Bl.fresh w2 o4 [.int .i64 S, .slice co L.length ccap] 66 (s + 12, 2, 0)).retag (s + 12, 3, 0))
    have K4 := hide ((hL1.newBlk (.cells #[.int .i64 S, .slice co L.length ccap] 66) (s + 12, 2, 0)).retag (s + 12, 3, 0))
    clear hPR hT hL1 H3 B3 M3 A3 L3 HPR3 k2 k4 hbl2
    go_upto_region 12 with (fail)
    generalize hcb : w2.heap.size = cb at *
    generalize w2.alloc (.cells #[.int .i64 S, .slice co L.length ccap] 66) = W3 at *
    generalize upd o4 cb (s + 12, 2, 0) = o5 at *
    have hT4 : Hid (upd o5 W3.heap.size (s + 12, 3, 0) W3.heap.size = (s + 12, 3, 0)) := upd_same _ _ _
    generalize upd o5 W3.heap.size (s + 12, 3, 0) = o6 at *
    clear hcb
    have j1 : W3.cell? ⟨wb, 1, none⟩ = some (ptr gb) := H4.out.blk.blk.cell 1
    have j2 : W3.cell? ⟨w.heap.size, 2, none⟩ = some (.int .i64 b) := B4.out.blk.cell 2
    have j4 : W3.cell? ⟨w.heap.size, 4, none⟩ = some (.string key) := B4.out.blk.cell 4
    have hwl2 := H4.out.blk.blk.lt
    have hbl2 := B4.out.blk.lt
    have HDR : Hid (∀ (h : ix < ds.length), ds[ix] = d) := fun _ => HD.out.2.1
    have BUN := hide (⟨H4.out, M4.out, A4.out, L4.out, C4.out, K4.out, hT4.out⟩ : _ ∧ _ ∧ _ ∧ _ ∧ _ ∧ _ ∧ _)
    clear H4 M4 A4 L4 C4 K4 hT4 B4
    go_cut [16, 17] (fun pv ev wd => ∃ qb qo qcap o', pv = ptr qb ∧ ev = .int .i64 E ∧ LawSt PR wd o' s wb gb n pb rb (.slice (some ⟨grs, 0, none⟩) pb.length rcap) way tv mv nv kv cnt m ds ds ts ∧ Bl wd o' (s + 12, 1, 0) ab [.int .i64 S, .slice lo L.length lcap] 66 ∧ Bl wd o' (s + 12, 2, 0) cb [.int .i64 S, .slice co L.length ccap] 66 ∧ Bl wd o' (s + 12, 3, 0) qb [.int .i64 S, .slice qo L.length qcap] 66 ∧
      Pc wd o' (s + 12, 4, 0) 9 1 (.slice lo L.length lcap) L.length (strs L) ∧ Pc wd o' (s + 12, 5, 0) 9 1 (.slice co L.length ccap) L.length (strs L) ∧ Pc wd o' (s + 12, 6, 0) 9 1 (.slice qo L.length qcap) L.length (strs L) ∧ Moved (lawTag s) w o wd o')
    case first =>
      go_region_with (go_at_call 88; refine (read_in P BUN.out.1 hi hn5 (HDR.out (by omega)) HD.out.2.2.2 b key HP.out.key HA.out.2.2 (by first | exact (Below.refl _ _).drew | exact ((Below.refl _ _).alloc (Nat.le_refl _) _).drew)).mono ?_; rintro e w5 ⟨lq, he, hl, hB5⟩; rw [HA.out.1] at he hl; simp only at he hl; obtain ⟨qo, qcap, rfl, -, -, -⟩ := Row.shape (ownsRow_low hl (Nat.zero_le _)); subst he; obtain ⟨H5, K5, T5⟩ := read_after P BUN.out.1 (by first | exact (Below.refl _ _).drew | exact ((Below.refl _ _).alloc (Nat.le_refl _) _).drew) hB5 hl; have HH := hide (⟨H5, K5, T5⟩ : _ ∧ _ ∧ _); have HB5 := hide hB5; clear hl hB5 H5 K5 T5; first | (have Q5 := ahead_read (s := s) HB5.out BUN.out.2.2.2.2.2.2; have q0 := Q5.blk.cell 0; have q1 := Q5.blk.cell 1; have q2 := Q5.blk.frozen 0; have q3 := Q5.blk.frozen 1; have q4 := Q5.blk.lt; have Q5 := hide Q5) | skip)
      all_goals as_aux_lemma =>
        go_wp2_with fail
        go_meet
        have N5 := BUN.out.2.1.trans (HH.out.2.2.moved (B := lawTag s) fun _ => False.elim)
        have A5 := BUN.out.2.2.1.touch HH.out.2.2 id
        have C5 := BUN.out.2.2.2.2.1.touch HH.out.2.2 id
        have L5 := BUN.out.2.2.2.1.touch HH.out.2.2 id
        have K5 := BUN.out.2.2.2.2.2.1.touch HH.out.2.2 id
        first | (obtain ⟨r1, r2, r3⟩ := meetB P HH.out.1 N5 Q5.out (.int .i64 S) (.slice qo L.length qcap); exact ⟨_, qo, qcap, _, rfl, rfl, r1, (A5.other (p := ⟨_, 0, none⟩) Q5.out.tag (by simp) _).other (p := ⟨_, 1, none⟩) Q5.out.tag (by simp) _, (C5.other (p := ⟨_, 0, none⟩) Q5.out.tag (by simp) _).other (p := ⟨_, 1, none⟩) Q5.out.tag (by simp) _, r2, (L5.set (p := ⟨_, 0, none⟩) Q5.out.tag (by simp) _).set (p := ⟨_, 1, none⟩) Q5.out.tag (by simp) _, (K5.set (p := ⟨_, 0, none⟩) Q5.out.tag (by simp) _).set (p := ⟨_, 1, none⟩) Q5.out.tag (by simp) _, (HH.out.2.1.set (p := ⟨_, 0, none⟩) Q5.out.tag (by simp) _).set (p := ⟨_, 1, none⟩) Q5.out.tag (by simp) _, r3⟩) | (obtain ⟨r1, r2, r3⟩ := meetA P HH.out.1 N5 [.int .i64 S, .slice qo L.length qcap] 66; exact ⟨_, qo, qcap, _, rfl, rfl, r1, A5.new _ _, C5.new _ _, r2, L5.newBlk _ _, K5.newBlk _ _, HH.out.2.1.newBlk _ _, r3⟩)
    case rest => as_aux_lemma =>
      obtain ⟨qb, qo, qcap, o7, rfl, rfl, H7, A7, C7, Q7, L7, K7, E7, M7⟩ := hcut
      have a0 : wc.cell? ⟨ab, 0, none⟩ = some (.int .i64 S) := A7.blk.cell 0
      have a1 : wc.cell? ⟨ab, 1, none⟩ = some (.slice lo L.length lcap) := A7.blk.cell 1
      have q0 : wc.cell? ⟨qb, 0, none⟩ = some (.int .i64 S) := Q7.blk.cell 0
      have q1 : wc.cell? ⟨qb, 1, none⟩ = some (.slice qo L.length qcap) := Q7.blk.cell 1
      have hal := A7.blk.lt
      have hql := Q7.blk.lt
      have H7 := hide H7
      have M7 := hide M7
      have A7 := hide A7
      have C7 := hide C7
      have Q7 := hide Q7
      have L7 := hide L7
      have K7 := hide K7
      have E7 := hide E7
      clear BUN j1 j2 j4 hwl2 hbl2
      go_wp2_with fail
      refine (same_any _ S S _ _ L L L7.out.row E7.out.row hL hL).mono ?_
      rintro e w8 ⟨rfl, hB8⟩
      rw [sameB_refl]
      have H8 := hide (H7.out.below P hB8)
      have M8 := hide (M7.out.below hB8)
      have A8 := hide (A7.out.below hB8)
      have C8 := hide (C7.out.below hB8)
      have Q8 := hide (Q7.out.below hB8)
      have L8 := hide (L7.out.below hB8)
      have K8 := hide (K7.out.below hB8)
      have E8 := hide (E7.out.below hB8)
      clear H7 M7 A7 C7 Q7 L7 K7 E7 a0 a1 q0 q1 hal hql hB8
      have c0 : w8.cell? ⟨cb, 0, none⟩ = some (.int .i64 S) := C8.out.blk.cell 0
      have c1 : w8.cell? ⟨cb, 1, none⟩ = some (.slice co L.length ccap) := C8.out.blk.cell 1
      have q0 : w8.cell? ⟨qb, 0, none⟩ = some (.int .i64 S) := Q8.out.blk.cell 0
      have q1 : w8.cell? ⟨qb, 1, none⟩ = some (.slice qo L.length qcap) := Q8.out.blk.cell 1
      have hcl := C8.out.blk.lt
      have hql := Q8.out.blk.lt
      go_wp2_with fail
      refine (same_any _ S S _ _ L L K8.out.row E8.out.row hL hL).mono ?_
      rintro e w9 ⟨rfl, hB9⟩
      rw [sameB_refl]
      have H9 := hide (H8.out.below P hB9)
      have M9 := hide (M8.out.below hB9)
      have A9 := hide (A8.out.below hB9)
      have C9 := hide (C8.out.below hB9)
      have L9 := hide (L8.out.below hB9)
      have K9 := hide (K8.out.below hB9)
      clear H8 M8 A8 C8 Q8 L8 K8 E8 c0 c1 q0 q1 hcl hql hB9
      have a1 : w9.cell? ⟨ab, 1, none⟩ = some (.slice lo L.length lcap) := A9.out.blk.cell 1
      have hal := A9.out.blk.lt
      go_wp2_with fail
      refine (takes_any w9 o7 wb (s + 11, 0, 0) (s + 11, 2, 0) (s + 11, 3, 0) (s + 12, 4, 0) _ _ _ _ _ _ _ cnt m _ L.length (by simp) (by omega) (by omega) (by omega) (H9.out.toTake L9.out)).mono ?_
      rintro e wA ⟨rfl, oA, tvA, mvA, lA, TA⟩
      have HA2 := hide (H9.out.ofTake P TA (by omega))
      have MA := hide (M9.out.trans (TA.touch.moved fun _ => take_law))
      have CA := hide (C9.out.touch TA.touch (by simp))
      have KA := hide (K9.out.touch TA.touch (by simp))
      clear H9 M9 A9 C9 L9 K9 a1 hal TA
      have c1 : wA.cell? ⟨cb, 1, none⟩ = some (.slice co L.length ccap) := CA.out.blk.cell 1
      have hcl := CA.out.blk.lt
      go_wp2_with fail
      refine (takes_any wA oA wb (s + 11, 0, 0) (s + 11, 2, 0) (s + 11, 3, 0) (s + 12, 5, 0) _ _ _ _ _ _ _ (cnt + 1) (m + 130) _ L.length (by simp) (by omega) (by omega) (by omega) (HA2.out.toTake KA.out)).mono ?_
      rintro e wB ⟨rfl, oB, tvB, mvB, lB, TB⟩
      have HB2 := hide (HA2.out.ofTake P TB (by omega))
      have MB := hide (MA.out.trans (TB.touch.moved fun _ => take_law))
      clear HA2 MA CA KA TB c1 hcl
      go_wp2_with fail
      go_ret
      refine ⟨rfl, oB, tvB, mvB, ?_, MB.out⟩
      have := HB2.out
      rw [show cnt + 1 + 1 = cnt + 2 by omega, show m + 130 + 130 = m + 260 by omega] at this
      exact this

end Go.Proofs.YtiplgdkpnhamaaaGreatDoor
