/- The texts T12, joined. -/
import Derived.Test.YtiplgdkpnhamaaaGreatDoorRows
import Derived.ProofKit

/- The closed facts of Transactions' row, each a lemma of its own (together they pass the kernel's memory). -/
namespace Go.Proofs.YtiplgdkpnhamaaaGreatDoor.transactions

theorem and_t {a b : Bool} (h : a = true) (k : b = true) : (a && b) = true := by rw [h, k]; rfl
theorem named : Tryz.pinned.checked.prog.funcNamed Rows.transactionsUptoRow.func = some 3 := by kernel_rfl
theorem inst : Tryz.f3.isInstance Tryz.pinned.checked.prog Rows.transactionsUptoRow.origin Rows.transactionsUptoRow.targs := of_decide_eq_true (by kernel_rfl)
theorem wrap : Tryz.f3.isWrapper Tryz.pinned.checked.prog Rows.transactionsUptoRow.wrapper Rows.transactionsUptoRow.mainSum := by
  unfold Func.isWrapper; first | (rw [if_pos (by decide +kernel)]; kernel_rfl) | (rw [if_neg (by decide +kernel)]; exact ⟨rfl, rfl⟩)
set_option maxHeartbeats 8000000 in
set_option maxRecDepth 100000 in
theorem closed : joinedFacts Tryz.pinned.checked.prog 3 Tryz.f3 (Rows.OpenSpec.upto Rows.transactionsSpec).bare Rows.transactionsUptoRow = true := by
  unfold joinedFacts
  repeat' with_reducible refine and_t ?_ ?_
  all_goals as_aux_lemma => kernel_rfl
end Go.Proofs.YtiplgdkpnhamaaaGreatDoor.transactions
