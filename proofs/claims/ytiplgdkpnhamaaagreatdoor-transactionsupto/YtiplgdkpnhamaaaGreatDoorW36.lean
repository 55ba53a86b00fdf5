/- The texts K8, joined. -/
import Derived.Test.YtiplgdkpnhamaaaGreatDoorW30
import Derived.Test.YtiplgdkpnhamaaaGreatDoorW05

/- The program's held.Log.Add. -/
namespace Go.Proofs.YtiplgdkpnhamaaaGreatDoor
open Go.RowKit

theorem Tryz.infoTrx : (Tryz.prog.info? 139).map (fun i => (i.zero, i.size, i.bytes)) = some (some (.agg #[.int .i64 0, .int .i64 0, .int .i64 0, .int .i64 0, .int .i64 0, .int .i64 0, .int .i64 0, .map none]), 8, 64) := by kernel_rfl

def HeldPost (w : World) (p : Nat → Own) (b r m : Nat) (cs : List Value) (w' : World) : Prop :=
  ∃ p' v' ys, Qb w' p' .rep b (cs.set (3 + r) v') 114 ∧ Qc w' p' (.held r) 139 8 v' (m + 1) ys ∧ QT (fun u => u = .rep ∨ u = .held r) w p w' p'

set_option maxRecDepth 100000 in
set_option maxHeartbeats 16000000 in
theorem held_add {w : World} {p : Nat → Own} {b r m : Nat} {cs : List Value} {v : Value} {xs : List Value} (hB : Qb w p .rep b cs 114) (hc : w.cell? ⟨b, 3 + r, none⟩ = some v) (hr : r < 5) (hrow : Qc w p (.held r) 139 8 v m xs) (hm : m ≤ 2000000) (seq a b2 c d e : Int) (mb : Nat) :
    Calls Tryz.prog 106 #[.pointer (some ⟨b, 3, none⟩), .agg #[.int .i64 r, .int .i64 seq, .int .i64 a, .int .i64 b2, .int .i64 c, .int .i64 d, .int .i64 e, .map (some mb)]] w fun e' w' => e' = .returned (.tuple #[]) ∧ HeldPost w p b r m cs w' := by
  obtain ⟨i0, hi, hz0, hz1, hz2⟩ := info_parts Tryz.infoTrx
  have HI := hide (⟨hi, hz0, hz1, hz2⟩ : _ ∧ _ ∧ _ ∧ _)
  clear hi hz0 hz1 hz2
  generalize hW0 : w.alloc (.cells #[.int .i64 r, .int .i64 seq, .int .i64 a, .int .i64 b2, .int .i64 c, .int .i64 d, .int .i64 e, .map (some mb)] 139) = W0
  have hB0 : Below w.heap.size w W0 := by rw [← hW0]; exact (Below.refl _ _).alloc (Nat.le_refl _) _
  have bx : Blk W0 w.heap.size [.int .i64 r, .int .i64 seq, .int .i64 a, .int .i64 b2, .int .i64 c, .int .i64 d, .int .i64 e, .map (some mb)] 139 := by rw [← hW0]; exact heap_alloc_new w _
  have x0 : W0.cell? ⟨w.heap.size, 0, none⟩ = some (.int .i64 r) := bx.cell 0
  have x1 : W0.cell? ⟨w.heap.size, 1, none⟩ = some (.int .i64 seq) := bx.cell 1
  have x2 : W0.cell? ⟨w.heap.size, 2, none⟩ = some (.int .i64 a) := bx.cell 2
  have x3 : W0.cell? ⟨w.heap.size, 3, none⟩ = some (.int .i64 b2) := bx.cell 3
  have x4 : W0.cell? ⟨w.heap.size, 4, none⟩ = some (.int .i64 c) := bx.cell 4
  have x5 : W0.cell? ⟨w.heap.size, 5, none⟩ = some (.int .i64 d) := bx.cell 5
  have x6 : W0.cell? ⟨w.heap.size, 6, none⟩ = some (.int .i64 e) := bx.cell 6
  have x7 : W0.cell? ⟨w.heap.size, 7, none⟩ = some (.map (some mb)) := bx.cell 7
  have hc0 : W0.cell? ⟨b, 3 + r, none⟩ = some v := cell_later hB0 hc
  have bB0 := hB.below hB0
  have hrow0 := hrow.below hB0
  have hl : w.heap.size < W0.heap.size := bx.lt
  have hbl : b < W0.heap.size := bB0.blk.lt
  have e1 : ¬ (r : Int) < 0 := by omega
  have e2 : (r : Int) < 5 := by omega
  obtain ⟨ao, cap, hsh, hcap, hmx, -⟩ := hrow.row.shape
  subst hsh
  have htag : ∀ q, (Value.slice ao m cap).ownBlock = some q → p q = .held r := hrow.tag
  have hne : ¬ (Value.slice ao m cap).ownBlock = some b := fun e => by have := htag b e; rw [hB.tag] at this; cases this
  have hlt : ∀ q, (Value.slice ao m cap).ownBlock = some q → q < w.heap.size := fun q hq => hrow.lt hq
  have hW8 : Blk (W0.alloc (.cells #[.int .i64 r, .int .i64 seq, .int .i64 a, .int .i64 b2, .int .i64 c, .int .i64 d, .int .i64 e, .map (some mb)] 139)).drew W0.heap.size [.int .i64 r, .int .i64 seq, .int .i64 a, .int .i64 b2, .int .i64 c, .int .i64 d, .int .i64 e, .map (some mb)] 139 := heap_alloc_new W0 _
  have HNEW := hide (news_at hW8)
  have HK : Hid (∀ w5, (W0.alloc (.cells #[.int .i64 r, .int .i64 seq, .int .i64 a, .int .i64 b2, .int .i64 c, .int .i64 d, .int .i64 e, .map (some mb)] 139)).drew.grownBy w5 (Value.slice ao m cap).ownBlock → w5.cell? ⟨b, 3 + r, none⟩ = some (.slice ao m cap) ∧ w5.frozen? ⟨b, 3 + r, none⟩ = false ∧ b < w5.heap.size ∧ w5.cell? ⟨w.heap.size, 0, none⟩ = some (.int .i64 r) ∧ w.heap.size < w5.heap.size) := fun w5 g => by
    have g' : ∀ q, q < W0.heap.size → ¬ (Value.slice ao m cap).ownBlock = some q → w5.heap[q]? = W0.heap[q]? := fun q hq hn => (g.block q (by show q < (W0.alloc _).heap.size; simp; omega) (fun e => hn e.symm)).trans (Below.heap_alloc _ _ _ hq)
    have b5 : Blk w5 b cs 114 := bB0.blk.move (g' b hbl hne)
    have x5' : Blk w5 w.heap.size _ 139 := bx.move (g' _ hl (fun e => by have := hlt _ e; omega))
    exact ⟨cell_blk (g' b hbl hne) hc0, b5.frozen _, b5.lt, x5'.cell 0, x5'.lt⟩
  have HH := hide (⟨hB, hrow, hB0, bB0, hrow0, htag⟩ : _ ∧ _ ∧ _ ∧ _ ∧ _ ∧ _)
  have HW0 := hide hW0
  have HM := hide hm
  clear hB hrow hB0 bB0 hrow0 hW0 hW8 bx hc htag hne hlt hm hcap hmx
  go_enter Tryz.func106, Tryz.ntmps106
  go_upto_region 1 with (fail)
  rw [HW0.out]
  go_region_law (refine step_append_own rfl _ _ 106 rfl 139 i0 (.agg #[.int .i64 0, .int .i64 0, .int .i64 0, .int .i64 0, .int .i64 0, .int .i64 0, .int .i64 0, .map none]) 8 64 Tryz.underlying106 HI.out.1 HI.out.2.1 HI.out.2.2.1 HI.out.2.2.2 rfl (by decide) (.slice ao m cap) m xs (by simp [Act.eval]) (by exact World.ownsRow.alloc HH.out.2.2.2.2.1.row _) ⟨W0.heap.size, 0, none⟩ 1 1 [.int .i64 r, .int .i64 seq, .int .i64 a, .int .i64 b2, .int .i64 c, .int .i64 d, .int .i64 e, .map (some mb)] (by simp [Act.eval]) rfl (by exact HNEW.out) (by intro u hu; simp at hu; rcases hu with rfl | rfl | rfl | rfl | rfl | rfl | rfl | rfl <;> rfl) (by have := HM.out; unfold maxLen; omega) (by have := HM.out; omega) ?_; intro v5 w5 r1 r2 r3; obtain ⟨k1, k2, k3, k4, k5⟩ := HK.out w5 r2; obtain ⟨g5, cap5, rfl, -, -, -, -, -⟩ := Row.pos r1 (by omega); have HR5 := hide (⟨r1, r2, r3⟩ : _ ∧ _ ∧ _); clear r1 r2 r3)
  all_goals go_wp2_with fail
  all_goals
    go_end0
    obtain ⟨r1, r2, r3⟩ := HR5.out
    obtain ⟨hB, hrow, hB0, bB0, hrow0, htag⟩ := HH.out
    have r2' : (W0.alloc (.cells #[.int .i64 r, .int .i64 seq, .int .i64 a, .int .i64 b2, .int .i64 c, .int .i64 d, .int .i64 e, .map (some mb)] 139)).grownBy w5 (Value.slice ao m cap).ownBlock := ⟨r2.os, r2.tape, r2.output, r2.size, r2.block⟩
    have k5' := (bB0.alloc (.cells #[.int .i64 r, .int .i64 seq, .int .i64 a, .int .i64 b2, .int .i64 c, .int .i64 d, .int .i64 e, .map (some mb)] 139)).grew r2' htag (by simp)
    have q1 := (((QT.ofBelow (A := fun u => u = Own.rep ∨ u = .held r) (o := p) hB0)).alloc (.cells #[.int .i64 r, .int .i64 seq, .int .i64 a, .int .i64 b2, .int .i64 c, .int .i64 d, .int .i64 e, .map (some mb)] 139)).grew r2' htag (Or.inr rfl)
    have q2 := q1.set (p := ⟨b, 3 + r, none⟩) (by show _ ∨ _; rw [k5'.tag]; exact Or.inl rfl) (.slice (some ⟨g5, 0, none⟩) (m + 1) cap5)
    have R5 := ((hrow0.alloc (.cells #[.int .i64 r, .int .i64 seq, .int .i64 a, .int .i64 b2, .int .i64 c, .int .i64 d, .int .i64 e, .map (some mb)] 139)).app r1 r3).set (p := ⟨b, 3 + r, none⟩) k5'.tag (by simp) (.slice (some ⟨g5, 0, none⟩) (m + 1) cap5)
    exact ⟨rfl, _, _, _, k5'.set (3 + r) (.slice (some ⟨g5, 0, none⟩) (m + 1) cap5), R5, q2⟩

end Go.Proofs.YtiplgdkpnhamaaaGreatDoor
