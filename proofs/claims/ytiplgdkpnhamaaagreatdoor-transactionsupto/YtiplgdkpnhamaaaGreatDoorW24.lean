/- The texts R9k1, joined. -/
import Derived.Test.YtiplgdkpnhamaaaGreatDoorW05
import Derived.Test.YtiplgdkpnhamaaaGreatDoorW02
import Derived.Deep.DeepCutAuto

/- The reference's Replica.Does: what it answers, and what becomes of the transaction. -/
namespace Go.Proofs.YtiplgdkpnhamaaaGreatDoor
open Go.RowKit

theorem Tryz.infoOp1 : (Tryz.prog.info? 171).map (fun i => (i.zero, i.size, i.bytes)) = some (some (.agg #[.int .i64 0, .string ⟨#[]⟩, .string ⟨#[]⟩, .int .i64 0]), 4, 48) := by kernel_rfl

set_option maxRecDepth 100000 in
set_option maxHeartbeats 10000000 in
theorem does1_ok (w : World) (b : Nat) (v : Value) (xs : List XTx) (k : Nat) (key val : ByteArray) (amount : Int) (ops : List ROp) (hn : xs.length ≤ 6) (hk : k < xs.length) (hb : b < w.heap.size) (hkey : key.size ≤ maxLen) (_hval : val.size ≤ maxLen)
    (hv : w.cell? ⟨b, 2, none⟩ = some v) (hrow : Row w 217 5 v xs.length (xs.flatMap XTx.cells)) (hop : xs[k].isOpen = true) (_hfew : ops.length ≤ 16)
    (hops : Row w 171 4 xs[k].ov ops.length (ops.flatMap ROp.cells)) (hok : kindOf key = 99) (hlo : -1000000 ≤ amount) (hhi : amount ≤ 1000000) (hroom : ops.length < 16) (hdis : ¬ xs[k].ov.ownBlock = v.ownBlock) (hnb0 : ¬ xs[k].ov.ownBlock = some b) :
    Calls Tryz.prog 93 #[.pointer (some ⟨b, 0, none⟩), .int .i64 k, .agg #[.int .i64 1, .string key, .string val, .int .i64 amount]] w fun e w' => ∃ ov', e = .returned (.int .i64 0) ∧ DoesPost w w' v xs k ops ⟨1, key, val, amount⟩ ov' := by
  obtain ⟨g, cap, rfl, hcap, hm, hg, hc, hf⟩ := hrow.pos (by omega)
  have h4 := hc (k * 5 + 4) (by omega)
  rw [flat_get _ 5 XTx.cells_len _ _ _ hk (by omega)] at h4
  simp only [XTx.cells, List.getElem?_cons_zero, List.getElem?_cons_succ] at h4
  have HI : Hid (isOpenAt xs k = true) := by simp [Hid, isOpenAt, hk, hop]
  obtain ⟨o1, ocap, hoe, hocap, hom, -⟩ := hops.shape
  rw [hoe] at h4 hops
  have HO := hide hops
  have HV : Hid ((w.alloc (.cells #[.int .i64 1, .string key, .string val, .int .i64 amount] 171)).cell? ⟨b, 2, none⟩ = some (.slice (some ⟨g, 0, none⟩) xs.length cap)) := by
    unfold Hid; rw [World.cell?_alloc_past _ _ _ hb]; exact hv
  have HR := hide (hrow.alloc (.cells #[.int .i64 1, .string key, .string val, .int .i64 amount] 171))
  have HW := hide hrow
  have HOE := hide hoe
  clear hrow hc hops hop hoe
  unfold maxLen at _hval
  have hok' : (kindOf key != 99) = false := by rw [hok]; rfl
  clear hok
  obtain ⟨i0, hi, hz0, hz1, hz2⟩ := info_parts Tryz.infoOp1
  have hdis' : Hid (¬ (Value.slice o1 ops.length ocap).ownBlock = (Value.slice (some ⟨g, 0, none⟩) xs.length cap).ownBlock) := by rw [← HOE.out]; exact hdis
  have hnb : Hid (¬ (Value.slice o1 ops.length ocap).ownBlock = some b) := by rw [← HOE.out]; exact hnb0
  clear hdis hnb0
  go_enter Tryz.func93, Tryz.ntmps93
  go_wp2_with fail
  refine (is_any _ b _ xs k (by omega) HV.out HR.out).mono ?_
  rintro e w1 ⟨he, rfl⟩
  rw [HI.out] at he
  subst he
  go_wp2_with fail
  refine (kind_any key _ hkey).mono ?_
  rintro e w2 ⟨rfl, rfl⟩
  generalize kindOf key = kk at *
  go_upto_region 11 with (fail)
  go_region_law (refine step_append_own rfl _ _ 215 rfl 171 i0 (.agg #[.int .i64 0, .string ⟨#[]⟩, .string ⟨#[]⟩, .int .i64 0]) 4 48 Tryz.underlying215 hi hz0 hz1 hz2 rfl (by decide) (.slice o1 ops.length ocap) ops.length (ops.flatMap ROp.cells) (by simp [Act.eval]) (by exact (HO.out.alloc _).alloc _) ⟨w.heap.size + 1, 0, none⟩ 1 1 [.int .i64 1, .string key, .string val, .int .i64 amount] (by simp [Act.eval]) rfl (by exact news2 _ _ _ _) (by intro u hu; simp at hu; rcases hu with rfl | rfl | rfl | rfl <;> rfl) (by unfold maxLen; omega) (by omega) ?_; intro v2 w2 hown2 hgrow2 hat2; obtain ⟨g2, cap2, rfl, -, -, -, -, -⟩ := Row.pos hown2 (by omega); obtain ⟨q1, q2⟩ := grown_cell hgrow2 (b := g) (j := k * 5 + 4) (u := .slice o1 ops.length ocap) (by simp [go_sem, h4, hg]) (by simp [go_sem, hf, hg]) hdis'.out; have p1 := hgrow2.cell (a := ⟨b, 2, none⟩) (v := .slice (some ⟨g, 0, none⟩) xs.length cap) (by simp [go_sem, hv, hb]) (fun e => hnb.out e.symm))
  all_goals go_wp2_with fail
  all_goals go_ret
  all_goals exact ⟨_, rfl, does_close hk HOE.out HW.out hown2 hgrow2 hat2 hdis'.out⟩

end Go.Proofs.YtiplgdkpnhamaaaGreatDoor
