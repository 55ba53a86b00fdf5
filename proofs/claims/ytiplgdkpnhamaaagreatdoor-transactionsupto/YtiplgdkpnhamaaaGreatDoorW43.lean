/- The texts L12, joined. -/
import Derived.Test.YtiplgdkpnhamaaaGreatDoorW41
import Derived.Test.YtiplgdkpnhamaaaGreatDoorW38
import Derived.Test.YtiplgdkpnhamaaaGreatDoorW40

/- The law's played, up to Visible: true, whatever the script. -/
namespace Go.Proofs.YtiplgdkpnhamaaaGreatDoor
open Go.RowKit

/-- A script in memory. -/
structure ScriptIn (w : World) (sv : Value) (ops : List LOp) : Prop where
  lies : ∃ ao cap, sv = .slice ao ops.length cap ∧ ∀ k (h : k < ops.length), ∃ sb so, ao = some ⟨sb, so, none⟩ ∧ sb < w.heap.size ∧ ∀ j, j < 6 → w.cell? ⟨sb, so + k * 6 + j, none⟩ = (ops[k].cells)[j]?
  ok : ∀ k (h : k < ops.length), (ops[k]).Ok
  few : ops.length ≤ 1048576

set_option maxRecDepth 100000 in
set_option maxHeartbeats 2000000 in
theorem played_none (PR : World → (Nat → Tag) → Tag → Nat → Nat → Nat → DRep → Prop) (P : PApi PR) (w : World) (n last : Int) (sv : Value) (hn : ¬ (1 ≤ n ∧ n ≤ 5)) :
    Calls Tryz.prog 14 #[.int .i64 n, sv, .int .i64 last] w fun e w' => e = .returned (.bool true) ∧ Below w.heap.size w w' := by
  go_enter Tryz.func14, Tryz.ntmps14
  go_wp2_with fail
  refine (awake_any PR P w).mono ?_
  rintro e w1 ⟨rfl, hB1⟩
  have HB1 := hide hB1
  clear hB1
  go_wp2_with fail
  refine (begun_none PR P w1 n 0 hn).mono ?_
  rintro e w2 ⟨rfl, hB2⟩
  have HB2 : Hid (Below w.heap.size w w2) := HB1.out.trans (hB2.mono HB1.out.size)
  clear hB2 HB1
  go_wp2_with fail
  refine wp_loop_rounds 1 ?_
  rw [rounds_succ]
  go_wp2_with fail
  go_ret
  exact ⟨rfl, HB2.out⟩

set_option maxRecDepth 100000 in
set_option maxHeartbeats 4000000 in
theorem played_ok (PR : World → (Nat → Tag) → Tag → Nat → Nat → Nat → DRep → Prop) (P : PApi PR) (w : World) (n : Nat) (sv : Value) (ops : List LOp) (hs : ScriptIn w sv ops) (hn : 1 ≤ n) (hn5 : n ≤ 5) :
    Calls Tryz.prog 14 #[.int .i64 n, sv, .int .i64 9] w fun e w' => e = .returned (.bool true) ∧ Below w.heap.size w w' := by
  obtain ⟨⟨ao, cap, rfl, hat⟩, hok, hfew⟩ := hs
  have HAT := hide hat
  have HOK := hide hok
  clear hat hok
  go_enter Tryz.func14, Tryz.ntmps14
  go_wp2_with fail
  refine (awake_any PR P w).mono ?_
  rintro e w1 ⟨rfl, hB1⟩
  have HB1 := hide hB1
  clear hB1
  go_wp2_with fail
  refine (begun_ok PR P 0 w1 n 0 hn hn5).mono ?_
  rintro e w2 ⟨wb, gb, o, pb, rb, rsv, rsvR, rfl, hst, hpl, hrl⟩
  have HG : Hid (GSt PR 0 wb gb n pb rb 0 w2 o) := ⟨rsv, nilS, nilS, nilS, nilS, nilS, 0, 0, _, _, hst.law hpl hrl, Inv.init n, by omega, by omega, by omega, by simp⟩
  have HM : Hid (Moved (lawTag 0) w1 (fun _ => (0, 0, 0)) w2 o) := hst.moved
  clear hst
  go_wp2_with fail
  go_loopw [9, 10] (fun ok i wr => ∃ (k : Nat) (o' : Nat → Tag), k ≤ ops.length ∧ ok = .bool true ∧ i = .int .i64 k ∧ Hid (GSt PR 0 wb gb n pb rb k wr o' ∧ Moved (lawTag 0) w1 (fun _ => (0, 0, 0)) wr o')) (fun _ i _ => ops.length - (intOf i).toNat)
  case atStart => exact ⟨0, o, Nat.zero_le _, rfl, rfl, HG.out, HM.out⟩
  case round =>
    clear HG HM
    obtain ⟨k, o', hk, rfl, rfl, hst⟩ := hrel
    have HBr : Hid (Below w.heap.size w wr) := HB1.out.trans ((Below.ofMoved hst.out.2).mono HB1.out.size)
    by_cases hlt : k < ops.length
    · obtain ⟨sb, so, rfl, hsb, hcell⟩ := HAT.out k hlt
      have x0 := hcell 0 (by omega)
      have x1 := hcell 1 (by omega)
      have x2 := hcell 2 (by omega)
      have x3 := hcell 3 (by omega)
      have x4 := hcell 4 (by omega)
      have x5 := hcell 5 (by omega)
      simp only [LOp.cells, List.getElem?_cons_zero, List.getElem?_cons_succ, Nat.add_zero] at x0 x1 x2 x3 x4 x5
      have y0 := cell_later HBr.out x0
      have y1 := cell_later HBr.out x1
      have y2 := cell_later HBr.out x2
      have y3 := cell_later HBr.out x3
      have y4 := cell_later HBr.out x4
      have y5 := cell_later HBr.out x5
      have hsl : sb < wr.heap.size := by have := HBr.out.size; omega
      have HO := hide (HOK.out k hlt)
      obtain ⟨p, hp⟩ : ∃ p, ops[k] = p := ⟨_, rfl⟩
      rw [hp] at y0 y1 y2 y3 y4 y5 HO
      clear x0 x1 x2 x3 x4 x5 hcell hsb hp
      by_cases h9 : p.kind ≤ 9
      · go_wp2_with fail
        refine (step_any PR P wr o' 0 wb gb n pb rb k p HO.out h9 hst.out.1 (by omega) hn5 (by omega)).mono ?_
        rintro e w3 ⟨rfl, o3, hG, hM⟩
        have HN : Hid (GSt PR 0 wb gb n pb rb (k + 1) w3 o3 ∧ Moved (lawTag 0) w1 (fun _ => (0, 0, 0)) w3 o3) := ⟨hG, hst.out.2.trans hM⟩
        clear hG hM hst y0 y1 y2 y3 y4 y5 HBr
        go_wp2_with fail
        exact ⟨⟨k + 1, o3, by omega, rfl, by go_num, HN.out⟩, by simp [intOf]; omega⟩
      · go_wp2_with fail
        exact ⟨⟨k + 1, o', by omega, rfl, by go_num, hst.out.1.more, hst.out.2⟩, by simp [intOf]; omega⟩
    · go_wp2_with fail
      go_ret
      exact ⟨rfl, HBr.out⟩

/-- Transactions, if the program's calls are the document's. -/
theorem transactions_true (PR : World → (Nat → Tag) → Tag → Nat → Nat → Nat → DRep → Prop) (P : PApi PR) (w : World) (n : Int) (sv : Value) (ops : List LOp) (hs : ScriptIn w sv ops) :
    Calls Tryz.prog 3 #[.int .i64 n, sv] w fun e w' => e = .returned (.bool true) ∧ Below w.heap.size w w' := by
  have HPL : Hid (Calls Tryz.prog 14 #[.int .i64 n, sv, .int .i64 9] w fun e w' => e = .returned (.bool true) ∧ Below w.heap.size w w') := by
    by_cases h : 1 ≤ n ∧ n ≤ 5
    · obtain ⟨k, rfl⟩ : ∃ k : Nat, n = k := ⟨n.toNat, by omega⟩
      exact played_ok PR P w k sv ops hs (by omega) (by omega)
    · exact played_none PR P w n 9 sv h
  clear hs
  go_enter Tryz.func3, Tryz.ntmps3
  go_wp2_with fail
  refine HPL.out.mono ?_
  rintro e w1 ⟨rfl, hB⟩
  have HB := hide hB
  clear hB
  go_wp2_with fail
  go_ret
  exact ⟨rfl, HB.out⟩

end Go.Proofs.YtiplgdkpnhamaaaGreatDoor
