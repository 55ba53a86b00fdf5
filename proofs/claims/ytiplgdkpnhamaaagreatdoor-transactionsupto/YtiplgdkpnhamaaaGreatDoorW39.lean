/- The texts S3, L5insert, L5add, joined. -/
import Derived.Test.YtiplgdkpnhamaaaGreatDoorW08
import Derived.Test.YtiplgdkpnhamaaaGreatDoorW11
import Derived.Test.YtiplgdkpnhamaaaGreatDoorW24
import Derived.Test.YtiplgdkpnhamaaaGreatDoorW26
import Derived.Test.YtiplgdkpnhamaaaGreatDoorW31
import Derived.Test.YtiplgdkpnhamaaaGreatDoorW32

/- The reference's Does and Commit over the document's state. -/
namespace Go.Proofs.YtiplgdkpnhamaaaGreatDoor
open Go.RowKit

theorem does_lift {w w' : World} {o : Nat → Tag} {s i b n k : Nat} {vv v kv gv ov' : Value} {xs : List XTx} {d : DRep} {t : RTx} {p : ROp} (h : RefRep w o s i b n vv v kv gv xs d) (hk : k < xs.length) (ht : d.opn k = some t) (h16 : t.ops.length < 16)
    (P : DoesPost w w' v xs k t.ops p ov') :
    ∃ o', RefRep w' o' s i b n vv v kv gv (xs.set k { xs[k] with ov := ov' }) { d with opn := setSlot d.opn k (some { t with ops := t.ops ++ [p] }) } ∧ TouchT (repTag s i) w o w' o' := by
  have hx : xs[k]? = some xs[k] := List.getElem?_eq_getElem hk
  have hrow := P.row _ hx
  have hto := P.touch _ hx
  have hown := P.own _ hx
  obtain ⟨b1, b2, b3, b4⟩ := h.tx k hk t ht
  have hsame : ∀ q, q < w.heap.size → own2 o w.heap.size (fun _ => (s + 6, i, k)) q = o q := fun q hq => own2_low hq
  have hT : TouchT (repTag s i) w o w' (own2 o w.heap.size (fun _ => (s + 6, i, k))) := by
    refine ⟨hto.mono fun q hq e => ?_, hsame⟩
    rcases e with e | e
    · rw [h.row.tag q e]; exact Or.inr (Or.inr (Or.inl rfl))
    · rw [b4.tag q e]; exact Or.inr (Or.inr (Or.inr ⟨k, Or.inr rfl⟩))
  have hold : ∀ t', t' ≠ (s + 4, i, 0) → t' ≠ (s + 6, i, k) → ∀ q, q < w.heap.size → o q = t' → w'.heap[q]? = w.heap[q]? ∧ own2 o w.heap.size (fun _ => (s + 6, i, k)) q = t' := fun t' h4 h6 q hq e => by
    refine ⟨hto.block q hq fun c => ?_, (hsame q hq).trans e⟩
    rcases c with c | c
    · exact h4 (by rw [← e]; exact h.row.tag q c)
    · exact h6 (by rw [← e]; exact b4.tag q c)
  refine ⟨_, ⟨h.blk.move2 (hold _ (by simp) (by simp)), h.vis.move2 (hold _ (by simp) (by simp)), ⟨by rw [List.length_set]; exact hrow, fun q hq => (hsame q (h.row.lt hq)).trans (h.row.tag q hq)⟩, h.len, by rw [List.length_set]; exact h.few, fun j hj => ?_, fun j hj => ?_, fun j hj u hu => ?_⟩, hT⟩
  · rw [List.length_set] at hj
    show _ = (setSlot d.opn k _ j).isSome
    by_cases e : k = j
    · subst e
      rw [setSlot_same]
      simp [h.opn k hk, ht]
    · rw [List.getElem_set_ne e, h.opn j hj, setSlot_other (fun c => e c.symm)]
  · rw [List.length_set] at hj
    exact (setSlot_other (by omega)).trans (h.bey j hj)
  · rw [List.length_set] at hj
    by_cases e : j = k
    · subst e
      have c : some ({ t with ops := t.ops ++ [p] } : RTx) = some u := (setSlot_same d.opn j _).symm.trans hu
      cases c
      rw [List.getElem_set_self]
      refine ⟨b1, by simp; omega, b3.move2 (hold _ (by simp) (by simp)), ⟨P.ops, fun q hq => ?_⟩⟩
      rcases hown q hq with c | c
      · exact (hsame q (b4.lt c)).trans (b4.tag q c)
      · exact own2_high c
    · have c : d.opn j = some u := (setSlot_other e).symm.trans hu
      obtain ⟨a1, a2, a3, a4⟩ := h.tx j hj u c
      rw [List.getElem_set_ne (fun c => e c.symm)]
      exact ⟨a1, a2, a3.move2 (hold _ (by simp) (by simp)), a4.move2 (hold _ (by simp) (by simp [e]))⟩

set_option maxHeartbeats 1000000 in
theorem ref_does (w : World) (o : Nat → Tag) (s i b n : Nat) (d : DRep) (tx : Int) (p : ROp) (h : RefR w o s i b n d) (hkind : p.kind = 1 ∨ p.kind = 2 ∨ p.kind = 3 ∨ p.kind = 4) (hkey : p.key.size ≤ maxLen) (hval : p.value.size ≤ maxLen) :
    Calls Tryz.prog 93 #[.pointer (some ⟨b, 0, none⟩), .int .i64 tx, .agg #[.int .i64 p.kind, .string p.key, .string p.value, .int .i64 p.amount]] w fun e w' => e = .returned (.int .i64 (doesErr (opnAt d tx) p)) ∧ ∃ o', RefR w' o' s i b n (doesD d tx p) ∧ TouchT (repTag s i) w o w' o' := by
  obtain ⟨vv, v, kv, gv, xs, h⟩ := h
  have hop := opn_at h tx
  cases hd : opnAt d tx with
  | none =>
    rw [hd] at hop
    refine (does_no w b v xs tx p h.few (h.blk.blk.cell 2) h.row.row hop).mono ?_
    rintro e w' ⟨rfl, hB⟩
    refine ⟨rfl, o, ⟨vv, v, kv, gv, xs, ?_⟩, TouchT.ofBelow hB⟩
    rw [doesD, hd]; exact h.below hB
  | some t =>
    obtain ⟨k, rfl, hk, hk'⟩ := opn_some h hd
    have hxo : xs[k].isOpen = true := by rw [h.opn k hk, hk']; rfl
    obtain ⟨a1, a2, a3, a4⟩ := h.tx k hk t hk'
    have hv := h.blk.blk.cell 2
    have hbl := h.blk.blk.lt
    have bad : ∀ (r : Int), doesErr (some t) p = r → ¬ r = 0 → ∀ {e : Ending} {w' : World}, (e = .returned (.int .i64 r) ∧ Below w.heap.size w w') → (e = .returned (.int .i64 (doesErr (some t) p)) ∧ ∃ o', RefR w' o' s i b n (doesD d (k : Int) p) ∧ TouchT (repTag s i) w o w' o') := by
      rintro r hr h0 e w' ⟨rfl, hB⟩
      refine ⟨by rw [hr], o, ⟨vv, v, kv, gv, xs, ?_⟩, TouchT.ofBelow hB⟩
      simp only [doesD, hd]
      rw [if_neg (by rw [hr]; exact h0)]
      exact h.below hB
    have good : doesErr (some t) p = 0 → t.ops.length < 16 → ∀ {e : Ending} {w' : World}, (∃ ov', e = .returned (.int .i64 0) ∧ DoesPost w w' v xs k t.ops p ov') → (e = .returned (.int .i64 (doesErr (some t) p)) ∧ ∃ o', RefR w' o' s i b n (doesD d (k : Int) p) ∧ TouchT (repTag s i) w o w' o') := by
      rintro hr h16 e w' ⟨ov', rfl, P⟩
      obtain ⟨o', hR, hT⟩ := does_lift h hk hk' h16 P
      refine ⟨by rw [hr], o', ⟨vv, v, kv, gv, xs.set k { xs[k] with ov := ov' }, ?_⟩, hT⟩
      simp only [doesD, hd]
      rw [if_pos hr]
      exact hR
    have hdis : ¬ xs[k].ov.ownBlock = v.ownBlock := by
      obtain ⟨g, cap, rfl, -⟩ := h.row.row.pos (by omega)
      intro e
      have c := a4.tag g e
      rw [h.row.tag g rfl] at c
      simp at c
    have hnb : ¬ xs[k].ov.ownBlock = some b := fun e => by
      have c := a4.tag b e
      rw [h.blk.tag] at c
      simp at c
    obtain ⟨kind, key, val, amount⟩ := p
    simp only at hkind hkey hval
    by_cases hb : kindOf key = kindByte kind
    · by_cases hv3 : (kind = 1 ∧ (amount < -1000000 ∨ 1000000 < amount)) ∨ (¬ kind = 1 ∧ 8 < val.size)
      · have hr : doesErr (some t) ⟨kind, key, val, amount⟩ = 3 := by simp only [doesErr]; rw [if_neg (fun c => c hb), if_pos hv3]
        rcases hkind with rfl | rfl | rfl | rfl
        · rcases hv3 with ⟨-, c | c⟩ | ⟨c, -⟩
          · exact (does1_low w b v xs k key val amount t.ops h.few hk hbl hkey hval hv h.row.row hxo a2 a4.row hb c).mono fun e w' => bad 3 hr (by decide)
          · exact (does1_high w b v xs k key val amount t.ops h.few hk hbl hkey hval hv h.row.row hxo a2 a4.row hb c).mono fun e w' => bad 3 hr (by decide)
          · exact absurd rfl c
        · rcases hv3 with ⟨c, -⟩ | ⟨-, c⟩
          · exact absurd c (by decide)
          · exact (does2_val w b v xs k key val amount t.ops h.few hk hbl hkey hval hv h.row.row hxo a2 a4.row hb c).mono fun e w' => bad 3 hr (by decide)
        · rcases hv3 with ⟨c, -⟩ | ⟨-, c⟩
          · exact absurd c (by decide)
          · exact (does3_val w b v xs k key val amount t.ops h.few hk hbl hkey hval hv h.row.row hxo a2 a4.row hb c).mono fun e w' => bad 3 hr (by decide)
        · rcases hv3 with ⟨c, -⟩ | ⟨-, c⟩
          · exact absurd c (by decide)
          · exact (does4_val w b v xs k key val amount t.ops h.few hk hbl hkey hval hv h.row.row hxo a2 a4.row hb c).mono fun e w' => bad 3 hr (by decide)
      · by_cases hf : 16 ≤ t.ops.length
        · have hr : doesErr (some t) ⟨kind, key, val, amount⟩ = 5 := by simp only [doesErr]; rw [if_neg (fun c => c hb), if_neg hv3, if_pos hf]
          rcases hkind with rfl | rfl | rfl | rfl
          · exact (does1_full w b v xs k key val amount t.ops h.few hk hbl hkey hval hv h.row.row hxo a2 a4.row hb (by omega) (by omega) hf).mono fun e w' => bad 5 hr (by decide)
          · exact (does2_full w b v xs k key val amount t.ops h.few hk hbl hkey hval hv h.row.row hxo a2 a4.row hb (by omega) hf).mono fun e w' => bad 5 hr (by decide)
          · exact (does3_full w b v xs k key val amount t.ops h.few hk hbl hkey hval hv h.row.row hxo a2 a4.row hb (by omega) hf).mono fun e w' => bad 5 hr (by decide)
          · exact (does4_full w b v xs k key val amount t.ops h.few hk hbl hkey hval hv h.row.row hxo a2 a4.row hb (by omega) hf).mono fun e w' => bad 5 hr (by decide)
        · have hr : doesErr (some t) ⟨kind, key, val, amount⟩ = 0 := by simp only [doesErr]; rw [if_neg (fun c => c hb), if_neg hv3, if_neg hf]
          rcases hkind with rfl | rfl | rfl | rfl
          · exact (does1_ok w b v xs k key val amount t.ops h.few hk hbl hkey hval hv h.row.row hxo a2 a4.row hb (by omega) (by omega) (by omega) hdis hnb).mono fun e w' => good hr (by omega)
          · exact (does2_ok w b v xs k key val amount t.ops h.few hk hbl hkey hval hv h.row.row hxo a2 a4.row hb (by omega) (by omega) hdis hnb).mono fun e w' => good hr (by omega)
          · exact (does3_ok w b v xs k key val amount t.ops h.few hk hbl hkey hval hv h.row.row hxo a2 a4.row hb (by omega) (by omega) hdis hnb).mono fun e w' => good hr (by omega)
          · exact (does4_ok w b v xs k key val amount t.ops h.few hk hbl hkey hval hv h.row.row hxo a2 a4.row hb (by omega) (by omega) hdis hnb).mono fun e w' => good hr (by omega)
    · have hr : doesErr (some t) ⟨kind, key, val, amount⟩ = 2 := by simp only [doesErr]; rw [if_pos hb]
      rcases hkind with rfl | rfl | rfl | rfl
      · exact (does1_key w b v xs k key val amount t.ops h.few hk hbl hkey hval hv h.row.row hxo a2 a4.row hb).mono fun e w' => bad 2 hr (by decide)
      · exact (does2_key w b v xs k key val amount t.ops h.few hk hbl hkey hval hv h.row.row hxo a2 a4.row hb).mono fun e w' => bad 2 hr (by decide)
      · exact (does3_key w b v xs k key val amount t.ops h.few hk hbl hkey hval hv h.row.row hxo a2 a4.row hb).mono fun e w' => bad 2 hr (by decide)
      · exact (does4_key w b v xs k key val amount t.ops h.few hk hbl hkey hval hv h.row.row hxo a2 a4.row hb).mono fun e w' => bad 2 hr (by decide)

end Go.Proofs.YtiplgdkpnhamaaaGreatDoor

/- The law's transacts: Insert. -/
namespace Go.Proofs.YtiplgdkpnhamaaaGreatDoor
open Go.RowKit

set_option maxRecDepth 100000 in
set_option maxHeartbeats 4000000 in
theorem transacts_insert (PR : World → (Nat → Tag) → Tag → Nat → Nat → Nat → DRep → Prop) (P : PApi PR) (w : World) (o : Nat → Tag) (s wb gb n : Nat) (pb rb : List Nat) (rsv way tv mv nv kv : Value) (cnt : Int) (m : Nat) (ds : List DRep) (ts : List RTx) (p : LOp) (hp : p.Ok) (hk : p.kind = 4)
    (h : LawSt PR w o s wb gb n pb rb rsv way tv mv nv kv cnt m ds ds ts) (hn : 0 < n) (hn5 : n ≤ 5) (hroom : ∀ d, d ∈ ds → Room d) :
    Calls Tryz.prog 52 #[ptr wb, p.agg] w fun e w' => e = .returned (.bool true) ∧ ∃ o' i d, i < n ∧ ds[i]? = some d ∧ LawSt PR w' o' s wb gb n pb rb rsv way tv mv nv kv cnt m (ds.set i (doesD d p.b ⟨3, p.key, p.text, p.c⟩)) (ds.set i (doesD d p.b ⟨3, p.key, p.text, p.c⟩)) ts ∧ Moved (lawTag s) w o w' o' := by
  obtain ⟨kind, a, b, c, key, text⟩ := p
  simp only at hk
  subst hk
  have hlp := h.plen
  have hlr := h.rlen
  have hld := h.dplen
  obtain ⟨ix, hix⟩ : ∃ ix, pickOf a n = ix := ⟨_, rfl⟩
  have hi : ix < n := by rw [← hix]; exact pickOf_lt a n hn
  have HPK : Hid (∀ v, Calls Tryz.prog 51 #[.int .i64 a, .int .i64 n] v fun e w' => e = .returned (.int .i64 ix) ∧ w' = v) := fun v => by rw [← hix]; exact pick_any a n v hn hn5 hp.a0 hp.a1
  clear hix
  have H1 := hide (h.new P (.cells #[.int .i64 4, .int .i64 a, .int .i64 b, .int .i64 c, .string key, .string text] 30) (s + 12, 0, 0))
  have B1 := hide (Bl.fresh w o [.int .i64 4, .int .i64 a, .int .i64 b, .int .i64 c, .string key, .string text] 30 (s + 12, 0, 0))
  have M1 := hide (moved_new (B := lawTag s) w o (.cells #[.int .i64 4, .int .i64 a, .int .i64 b, .int .i64 c, .string key, .string text] 30) (s + 12, 0, 0))
  clear h
  generalize hW : w.alloc (.cells #[.int .i64 4, .int .i64 a, .int .i64 b, .int .i64 c, .string key, .string text] 30) = W at *
  generalize upd o w.heap.size (s + 12, 0, 0) = o1 at *
  obtain ⟨grs, rcap, rfl, hrc, hgrs, hri⟩ := rs_at H1.out.rs (i := ix) (by omega)
  obtain ⟨rv, av, axs, G⟩ := H1.out.grp
  obtain ⟨gR, Rcap, rfl, hRc, hgR, hRi⟩ := rs_at (bs := rb) G.rs (i := ix) (by omega)
  have c0 : W.cell? ⟨wb, 0, none⟩ = some (.slice (some ⟨grs, 0, none⟩) n rcap) := by rw [← hlp]; exact H1.out.blk.blk.cell 0
  have c1 : W.cell? ⟨wb, 1, none⟩ = some (ptr gb) := H1.out.blk.blk.cell 1
  have c2 : W.cell? ⟨gb, 1, none⟩ = some (.slice (some ⟨gR, 0, none⟩) n Rcap) := by rw [← hlr]; exact G.blk.blk.cell 1
  have k0 : W.cell? ⟨w.heap.size, 0, none⟩ = some (.int .i64 4) := B1.out.blk.cell 0
  have k1 : W.cell? ⟨w.heap.size, 1, none⟩ = some (.int .i64 a) := B1.out.blk.cell 1
  have hwl := H1.out.blk.blk.lt
  have hgl := G.blk.blk.lt
  have hbl := B1.out.blk.lt
  have hrc' : n ≤ rcap := by omega
  have hRc' : n ≤ Rcap := by omega
  obtain ⟨pr, hpr⟩ : ∃ pr, pb[ix] = pr := ⟨_, rfl⟩
  obtain ⟨rr, hrr⟩ : ∃ rr, rb[ix] = rr := ⟨_, rfl⟩
  obtain ⟨d, hd⟩ : ∃ d, ds[ix] = d := ⟨_, rfl⟩
  have HPR := hide (hpr ▸ hd ▸ H1.out.prog ix hi)
  have HRR := hide (hrr ▸ hd ▸ H1.out.ref ix hi)
  rw [hpr] at hri
  rw [hrr] at hRi
  have HD := hide (⟨hroom d (by rw [← hd]; exact List.getElem_mem _), hd, hpr, hrr⟩ : _ ∧ _ ∧ _ ∧ _)
  have HP := hide hp
  clear G hp hroom hpr hrr hd
  go_enter Tryz.func52, Tryz.ntmps52
  go_upto_region 1 with (fail)
  go_cut [5] (fun v wc => v = .int .i64 ix ∧ Hid (Below W.heap.size W wc))
  case first =>
    go_region_with (go_at_call 51; refine (HPK.out _).mono ?_; rintro e w5 ⟨rfl, rfl⟩)
    all_goals
      go_wp2_with fail
      go_meet
      exact ⟨rfl, (Below.refl _ _).drew⟩
  case rest =>
    obtain ⟨rfl, hB⟩ := hcut
    have H2 := hide (H1.out.below P hB.out)
    have B2 := hide (B1.out.below hB.out)
    have M2 := hide (M1.out.trans ((TouchT.ofBelow (A := lawTag s) (o := o1) hB.out).moved fun _ => id))
    have HPR2 := hide (P.move HPR.out fun q hq e => ⟨hB.out.block q hq, e⟩)
    have c0' := cell_later hB.out c0
    have c1' := cell_later hB.out c1
    have c2' := cell_later hB.out c2
    have hri' := cell_later hB.out hri
    have hRi' := cell_later hB.out hRi
    have k0' := cell_later hB.out k0
    have k2' : wc.cell? ⟨w.heap.size, 2, none⟩ = some (.int .i64 b) := B2.out.blk.cell 2
    have k3' : wc.cell? ⟨w.heap.size, 3, none⟩ = some (.int .i64 c) := B2.out.blk.cell 3
    have k4' : wc.cell? ⟨w.heap.size, 4, none⟩ = some (.string key) := B2.out.blk.cell 4
    have k5' : wc.cell? ⟨w.heap.size, 5, none⟩ = some (.string text) := B2.out.blk.cell 5
    have hsz := hB.out.size
    have hwl' : wb < wc.heap.size := by omega
    have hgl' : gb < wc.heap.size := by omega
    have hbl' : w.heap.size < wc.heap.size := by omega
    have hgrs' : grs < wc.heap.size := by omega
    have hgR' : gR < wc.heap.size := by omega
    clear c0 c1 c2 hri hRi k0 k1 hwl hgl hbl hgrs hgR hsz H1 B1 M1 HPR HRR hW HPK
    go_wp2_with fail
    refine (P.insert _ o1 (s + 1, ix, 0) pr n ix d b ⟨3, key, text, c⟩ HPR2.out HD.out.1 rfl HP.out.key HP.out.text).mono ?_
    rintro e w1 ⟨rfl, o2, hPR, hT⟩
    have H3 := hide (H2.out.progStep P hi hT (HD.out.2.2.1.symm ▸ hPR))
    have HRR3 := hide (HD.out.2.2.2 ▸ HD.out.2.1 ▸ H3.out.ref ix hi)
    have M3 := hide (M2.out.trans (hT.moved prog_law))
    have B3 := B2.out.touch hT (by simp)
    have j0 : w1.cell? ⟨w.heap.size, 0, none⟩ = some (.int .i64 4) := B3.blk.cell 0
    have j2 : w1.cell? ⟨w.heap.size, 2, none⟩ = some (.int .i64 b) := B3.blk.cell 2
    have j3 : w1.cell? ⟨w.heap.size, 3, none⟩ = some (.int .i64 c) := B3.blk.cell 3
    have j4 : w1.cell? ⟨w.heap.size, 4, none⟩ = some (.string key) := B3.blk.cell 4
    have j5 : w1.cell? ⟨w.heap.size, 5, none⟩ = some (.string text) := B3.blk.cell 5
    have hbl'' := B3.blk.lt
    clear hPR hT H2 B2 M2 HPR2 c0' c1' c2' hri' hRi' k0' k2' k3' k4' k5' hwl' hgl' hbl' hgrs' hgR' B3
    generalize hx : doesErr (opnAt d b) ⟨3, key, text, c⟩ = x at *
    have HX := hide hx
    clear hx
    go_wp2_with fail
    refine (ref_does w1 o2 s ix rr n d b ⟨3, key, text, c⟩ HRR3.out (by simp) HP.out.key HP.out.text).mono ?_
    rintro e w2 ⟨he, o3, hRR, hT⟩
    rw [HX.out] at he
    subst he
    have H4 := hide (H3.out.refTouch P hi hT (HD.out.2.2.2.symm ▸ hRR))
    have M4 := hide (M3.out.trans (hT.moved fun _ => rep_law))
    clear hRR hT H3 M3 HRR3 j0 j2 j3 j4 j5
    go_wp2_with fail
    go_ret
    exact ⟨rfl, o3, ix, d, hi, by rw [List.getElem?_eq_getElem (by omega), HD.out.2.1], H4.out, M4.out⟩

end Go.Proofs.YtiplgdkpnhamaaaGreatDoor

/- The law's transacts: Add. -/
namespace Go.Proofs.YtiplgdkpnhamaaaGreatDoor
open Go.RowKit

set_option maxRecDepth 100000 in
set_option maxHeartbeats 4000000 in
theorem transacts_add (PR : World → (Nat → Tag) → Tag → Nat → Nat → Nat → DRep → Prop) (P : PApi PR) (w : World) (o : Nat → Tag) (s wb gb n : Nat) (pb rb : List Nat) (rsv way tv mv nv kv : Value) (cnt : Int) (m : Nat) (ds : List DRep) (ts : List RTx) (p : LOp) (hp : p.Ok) (hk : p.kind = 2)
    (h : LawSt PR w o s wb gb n pb rb rsv way tv mv nv kv cnt m ds ds ts) (hn : 0 < n) (hn5 : n ≤ 5) (hroom : ∀ d, d ∈ ds → Room d) :
    Calls Tryz.prog 52 #[ptr wb, p.agg] w fun e w' => e = .returned (.bool true) ∧ ∃ o' i d, i < n ∧ ds[i]? = some d ∧ LawSt PR w' o' s wb gb n pb rb rsv way tv mv nv kv cnt m (ds.set i (doesD d p.b ⟨1, p.key, p.text, p.c⟩)) (ds.set i (doesD d p.b ⟨1, p.key, p.text, p.c⟩)) ts ∧ Moved (lawTag s) w o w' o' := by
  obtain ⟨kind, a, b, c, key, text⟩ := p
  simp only at hk
  subst hk
  have hlp := h.plen
  have hlr := h.rlen
  have hld := h.dplen
  obtain ⟨ix, hix⟩ : ∃ ix, pickOf a n = ix := ⟨_, rfl⟩
  have hi : ix < n := by rw [← hix]; exact pickOf_lt a n hn
  have HPK : Hid (∀ v, Calls Tryz.prog 51 #[.int .i64 a, .int .i64 n] v fun e w' => e = .returned (.int .i64 ix) ∧ w' = v) := fun v => by rw [← hix]; exact pick_any a n v hn hn5 hp.a0 hp.a1
  clear hix
  have H1 := hide (h.new P (.cells #[.int .i64 2, .int .i64 a, .int .i64 b, .int .i64 c, .string key, .string text] 30) (s + 12, 0, 0))
  have B1 := hide (Bl.fresh w o [.int .i64 2, .int .i64 a, .int .i64 b, .int .i64 c, .string key, .string text] 30 (s + 12, 0, 0))
  have M1 := hide (moved_new (B := lawTag s) w o (.cells #[.int .i64 2, .int .i64 a, .int .i64 b, .int .i64 c, .string key, .string text] 30) (s + 12, 0, 0))
  clear h
  generalize hW : w.alloc (.cells #[.int .i64 2, .int .i64 a, .int .i64 b, .int .i64 c, .string key, .string text] 30) = W at *
  generalize upd o w.heap.size (s + 12, 0, 0) = o1 at *
  obtain ⟨grs, rcap, rfl, hrc, hgrs, hri⟩ := rs_at H1.out.rs (i := ix) (by omega)
  obtain ⟨rv, av, axs, G⟩ := H1.out.grp
  obtain ⟨gR, Rcap, rfl, hRc, hgR, hRi⟩ := rs_at (bs := rb) G.rs (i := ix) (by omega)
  have c0 : W.cell? ⟨wb, 0, none⟩ = some (.slice (some ⟨grs, 0, none⟩) n rcap) := by rw [← hlp]; exact H1.out.blk.blk.cell 0
  have c1 : W.cell? ⟨wb, 1, none⟩ = some (ptr gb) := H1.out.blk.blk.cell 1
  have c2 : W.cell? ⟨gb, 1, none⟩ = some (.slice (some ⟨gR, 0, none⟩) n Rcap) := by rw [← hlr]; exact G.blk.blk.cell 1
  have k0 : W.cell? ⟨w.heap.size, 0, none⟩ = some (.int .i64 2) := B1.out.blk.cell 0
  have k1 : W.cell? ⟨w.heap.size, 1, none⟩ = some (.int .i64 a) := B1.out.blk.cell 1
  have hwl := H1.out.blk.blk.lt
  have hgl := G.blk.blk.lt
  have hbl := B1.out.blk.lt
  have hrc' : n ≤ rcap := by omega
  have hRc' : n ≤ Rcap := by omega
  obtain ⟨pr, hpr⟩ : ∃ pr, pb[ix] = pr := ⟨_, rfl⟩
  obtain ⟨rr, hrr⟩ : ∃ rr, rb[ix] = rr := ⟨_, rfl⟩
  obtain ⟨d, hd⟩ : ∃ d, ds[ix] = d := ⟨_, rfl⟩
  have HPR := hide (hpr ▸ hd ▸ H1.out.prog ix hi)
  have HRR := hide (hrr ▸ hd ▸ H1.out.ref ix hi)
  rw [hpr] at hri
  rw [hrr] at hRi
  have HD := hide (⟨hroom d (by rw [← hd]; exact List.getElem_mem _), hd, hpr, hrr⟩ : _ ∧ _ ∧ _ ∧ _)
  have HP := hide hp
  clear G hp hroom hpr hrr hd
  go_enter Tryz.func52, Tryz.ntmps52
  go_upto_region 1 with (fail)
  go_cut [5] (fun v wc => v = .int .i64 ix ∧ Hid (Below W.heap.size W wc))
  case first =>
    go_region_with (go_at_call 51; refine (HPK.out _).mono ?_; rintro e w5 ⟨rfl, rfl⟩)
    all_goals
      go_wp2_with fail
      go_meet
      exact ⟨rfl, (Below.refl _ _).drew⟩
  case rest =>
    obtain ⟨rfl, hB⟩ := hcut
    have H2 := hide (H1.out.below P hB.out)
    have B2 := hide (B1.out.below hB.out)
    have M2 := hide (M1.out.trans ((TouchT.ofBelow (A := lawTag s) (o := o1) hB.out).moved fun _ => id))
    have HPR2 := hide (P.move HPR.out fun q hq e => ⟨hB.out.block q hq, e⟩)
    have c0' := cell_later hB.out c0
    have c1' := cell_later hB.out c1
    have c2' := cell_later hB.out c2
    have hri' := cell_later hB.out hri
    have hRi' := cell_later hB.out hRi
    have k0' := cell_later hB.out k0
    have k2' : wc.cell? ⟨w.heap.size, 2, none⟩ = some (.int .i64 b) := B2.out.blk.cell 2
    have k3' : wc.cell? ⟨w.heap.size, 3, none⟩ = some (.int .i64 c) := B2.out.blk.cell 3
    have k4' : wc.cell? ⟨w.heap.size, 4, none⟩ = some (.string key) := B2.out.blk.cell 4
    have k5' : wc.cell? ⟨w.heap.size, 5, none⟩ = some (.string text) := B2.out.blk.cell 5
    have hsz := hB.out.size
    have hwl' : wb < wc.heap.size := by omega
    have hgl' : gb < wc.heap.size := by omega
    have hbl' : w.heap.size < wc.heap.size := by omega
    have hgrs' : grs < wc.heap.size := by omega
    have hgR' : gR < wc.heap.size := by omega
    clear c0 c1 c2 hri hRi k0 k1 hwl hgl hbl hgrs hgR hsz H1 B1 M1 HPR HRR hW HPK
    go_wp2_with fail
    refine (P.add _ o1 (s + 1, ix, 0) pr n ix d b ⟨1, key, text, c⟩ HPR2.out HD.out.1 rfl HP.out.key).mono ?_
    rintro e w1 ⟨rfl, o2, hPR, hT⟩
    have H3 := hide (H2.out.progStep P hi hT (HD.out.2.2.1.symm ▸ hPR))
    have HRR3 := hide (HD.out.2.2.2 ▸ HD.out.2.1 ▸ H3.out.ref ix hi)
    have M3 := hide (M2.out.trans (hT.moved prog_law))
    have B3 := B2.out.touch hT (by simp)
    have j0 : w1.cell? ⟨w.heap.size, 0, none⟩ = some (.int .i64 2) := B3.blk.cell 0
    have j2 : w1.cell? ⟨w.heap.size, 2, none⟩ = some (.int .i64 b) := B3.blk.cell 2
    have j3 : w1.cell? ⟨w.heap.size, 3, none⟩ = some (.int .i64 c) := B3.blk.cell 3
    have j4 : w1.cell? ⟨w.heap.size, 4, none⟩ = some (.string key) := B3.blk.cell 4
    have j5 : w1.cell? ⟨w.heap.size, 5, none⟩ = some (.string text) := B3.blk.cell 5
    have hbl'' := B3.blk.lt
    clear hPR hT H2 B2 M2 HPR2 c0' c1' c2' hri' hRi' k0' k2' k3' k4' k5' hwl' hgl' hbl' hgrs' hgR' B3
    generalize hx : doesErr (opnAt d b) ⟨1, key, text, c⟩ = x at *
    have HX := hide hx
    clear hx
    go_wp2_with fail
    refine (ref_does w1 o2 s ix rr n d b ⟨1, key, text, c⟩ HRR3.out (by simp) HP.out.key HP.out.text).mono ?_
    rintro e w2 ⟨he, o3, hRR, hT⟩
    rw [HX.out] at he
    subst he
    have H4 := hide (H3.out.refTouch P hi hT (HD.out.2.2.2.symm ▸ hRR))
    have M4 := hide (M3.out.trans (hT.moved fun _ => rep_law))
    clear hRR hT H3 M3 HRR3 j0 j2 j3 j4 j5
    go_wp2_with fail
    go_ret
    exact ⟨rfl, o3, ix, d, hi, by rw [List.getElem?_eq_getElem (by omega), HD.out.2.1], H4.out, M4.out⟩

end Go.Proofs.YtiplgdkpnhamaaaGreatDoor
