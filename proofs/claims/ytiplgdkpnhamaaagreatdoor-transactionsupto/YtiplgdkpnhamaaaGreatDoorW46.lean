/- The texts T10, joined. -/
import Derived.Test.YtiplgdkpnhamaaaGreatDoorW43
import Derived.Test.YtiplgdkpnhamaaaGreatDoorRows
import Derived.Deep.Slices
import Derived.ProofKit

/- A script that comes in as an argument: the steps that it holds, as plain data. -/
namespace Go.Proofs.YtiplgdkpnhamaaaGreatDoor
open Go.RowKit Go.ChangeShapes Go.WideShapes

theorem six_of {α : Type} {l : List α} (h : l.length = 6) : ∃ a b c d e f, l = [a, b, c, d, e, f] := by
  match l, h with
  | [a, b, c, d, e, f], _ => exact ⟨a, b, c, d, e, f, rfl⟩
theorem op_cells : Tryz.prog.cellsOf 30 = 6 := by kernel_rfl
theorem int_cells : Tryz.prog.cellsOf 3 = 1 := by kernel_rfl
theorem str_cells : Tryz.prog.cellsOf 9 = 1 := by kernel_rfl
section
variable {H : Type} {enc : TypeId × Value → H} {W : World} {base : Nat} {sp : Nat → Bool} {held : Bool}
theorem struct6 {P : Program} {t : TypeId} {f0 f1 f2 f3 f4 f5 : Field} {fuel : Nat} {cs : List Value} {x : DataW H × List MemPlace} (ht : P.underlying t = some (.struct #[f0, f1, f2, f3, f4, f5])) (h : DataW.trod enc P W base sp held fuel t cs = some x) :
    ∃ y0 y1 y2 y3 y4 y5 n, cs.length = P.cellsOf t ∧ DataW.trod enc P W base sp held n f0.type ((cs.drop f0.offset).take (P.cellsOf f0.type)) = some y0 ∧ DataW.trod enc P W base sp held n f1.type ((cs.drop f1.offset).take (P.cellsOf f1.type)) = some y1 ∧
      DataW.trod enc P W base sp held n f2.type ((cs.drop f2.offset).take (P.cellsOf f2.type)) = some y2 ∧ DataW.trod enc P W base sp held n f3.type ((cs.drop f3.offset).take (P.cellsOf f3.type)) = some y3 ∧
      DataW.trod enc P W base sp held n f4.type ((cs.drop f4.offset).take (P.cellsOf f4.type)) = some y4 ∧ DataW.trod enc P W base sp held n f5.type ((cs.drop f5.offset).take (P.cellsOf f5.type)) = some y5 := by
  obtain ⟨xs, n, _, -, hl, hlen, hf⟩ := DataW.trod_struct ht h
  obtain ⟨y0, y1, y2, y3, y4, y5, rfl⟩ := six_of hlen
  exact ⟨y0, y1, y2, y3, y4, y5, n, hl, by simpa using hf 0 f0 rfl, by simpa using hf 1 f1 rfl, by simpa using hf 2 f2 rfl, by simpa using hf 3 f3 rfl, by simpa using hf 4 f4 rfl, by simpa using hf 5 f5 rfl⟩
theorem op_of {fuel : Nat} {cs : List Value} {x : DataW H × List MemPlace} (h : DataW.trod enc Tryz.prog W base sp held fuel 30 cs = some x) : ∃ p : LOp, cs = p.cells ∧ p.Ok := by
  obtain ⟨y0, y1, y2, y3, y4, y5, n, hl, h0, h1, h2, h3, h4, h5⟩ := struct6 Tryz.underlying30 h
  rw [op_cells] at hl
  obtain ⟨c0, c1, c2, c3, c4, c5, rfl⟩ := six_of hl
  simp only [int_cells, str_cells, List.drop_succ_cons, List.drop_zero, List.take_succ_cons, List.take_zero] at h0 h1 h2 h3 h4 h5
  obtain ⟨a0, e0, -, w0⟩ := DataW.trod_int Tryz.underlying3 h0
  obtain ⟨a1, e1, -, w1⟩ := DataW.trod_int Tryz.underlying3 h1
  obtain ⟨a2, e2, -, w2⟩ := DataW.trod_int Tryz.underlying3 h2
  obtain ⟨a3, e3, -, w3⟩ := DataW.trod_int Tryz.underlying3 h3
  obtain ⟨a4, e4, -, w4⟩ := DataW.trod_string Tryz.underlying9 h4
  obtain ⟨a5, e5, -, w5⟩ := DataW.trod_string Tryz.underlying9 h5
  simp only [List.cons.injEq, and_true] at e0 e1 e2 e3 e4 e5
  subst e0 e1 e2 e3 e4 e5
  have q1 : IntKind.i64.min = -9223372036854775808 := by decide
  have q2 : IntKind.i64.max = 9223372036854775807 := by decide
  simp only [Lit.wf, q1, q2, Bool.and_eq_true, decide_eq_true_eq] at w1
  exact ⟨⟨a0, a1, a2, a3, a4, a5⟩, rfl, ⟨w1.1, w1.2, w4, w5⟩⟩
end

theorem bulk_one {H : Type} (d : DataW H) : 1 ≤ Rows.uptoBulk d := by
  cases d with
  | lit l => cases l <;> simp [Rows.uptoBulk]
  | _ => simp [Rows.uptoBulk]
theorem bulk_len {H : Type} (l : List (DataW H)) : l.length ≤ Rows.uptoBulkAll l := by
  induction l with
  | nil => simp [Rows.uptoBulkAll]
  | cons x r ih => have := bulk_one x; simp only [Rows.uptoBulkAll, List.length_cons]; omega

/-- The script of an argument, whose length is bounded by its bulk. -/
theorem script_in {H : Type} {enc : TypeId × Value → H} {W : World} {fuel : Nat} {sv : Value} {d : DataW H} {ps : List MemPlace} (h : DataW.trod enc Tryz.prog W 0 (fun _ => true) true fuel 22 [sv] = some (d, ps)) (hb : Rows.uptoBulk d ≤ 1048576) :
    ∃ ops, ScriptIn W sv ops := by
  rcases Go.Deep.open_slice Tryz.underlying22 h with ⟨hc, -⟩ | ⟨a, len, cap, m, n, D, Pl, hc, -, hl, -, hm, hx, hall⟩
  · simp only [List.cons.injEq, and_true] at hc
    exact ⟨[], ⟨none, 0, hc, fun k hk => absurd hk (Nat.not_lt_zero _)⟩, fun k hk => absurd hk (Nat.not_lt_zero _), Nat.zero_le _⟩
  · simp only [List.cons.injEq, and_true] at hc
    simp only [if_true] at hm
    subst hm
    simp only [Prod.mk.injEq] at hx
    have hd := hx.1
    rw [op_cells] at hall
    haveI : Inhabited LOp := ⟨⟨0, 0, 0, 0, ⟨#[]⟩, ⟨#[]⟩⟩⟩
    obtain ⟨f, hf⟩ := Go.Deep.choose_lt (α := LOp) (n := len) (p := fun i p => p.Ok ∧ ∀ j, j < 6 → W.cell? ((a.add (i * 6)).add j) = p.cells[j]?) (fun i hi => by
      obtain ⟨cs, h1, h2⟩ := hall i (by omega)
      obtain ⟨p, rfl, hp⟩ := op_of h2
      exact ⟨p, hp, fun j hj => (World.cells?_some h1).2.2 j hj⟩)
    have hfew : len ≤ 1048576 := by
      have := bulk_len ((List.range len).map D)
      rw [hd] at hb
      simp only [Rows.uptoBulk] at hb
      rw [List.length_map, List.length_range] at this
      omega
    refine ⟨(List.range len).map f, ⟨some a, m, by simpa using hc, fun k hk => ?_⟩, fun k hk => ?_, by simpa using hfew⟩
    · have hk' : k < len := by simpa using hk
      have h0 := (hf 0 (by omega)).2 0 (by omega)
      obtain ⟨sb, so, spot⟩ := a
      have hv0 : W.cell? (⟨sb, so, spot⟩ : Addr) = some (.int .i64 (f 0).kind) := by simpa [Addr.add, LOp.cells] using h0
      have hspot : spot = none := by simpa using World.cell?_spot hv0
      subst hspot
      refine ⟨sb, so, rfl, ?_, fun j hj => ?_⟩
      · exact World.block_lt_of_cell? W _ hv0
      · have := (hf k hk').2 j hj
        simp only [Addr.add_lit] at this
        rw [this]
        simp
    · have hk' : k < len := by simpa using hk
      simpa using (hf k hk').1

end Go.Proofs.YtiplgdkpnhamaaaGreatDoor
