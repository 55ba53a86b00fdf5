/- The closed facts of Wholly's row, each a lemma of its own (together they pass the kernel's memory). -/
import Derived.Test.YtiplgdkpnhamaaaGreatDoorRows
import Derived.ProofKit
namespace Go.Proofs.YtiplgdkpnhamaaaGreatDoor.wholly
theorem and_t {a b:Bool} (h:a=true) (k:b=true):(a && b)=true:=by rw [h,k];rfl
theorem named:Tryz.pinned.checked.prog.funcNamed Rows.whollyUptoRow.func=some 8:=by kernel_rfl
theorem inst:Tryz.f8.isInstance Tryz.pinned.checked.prog Rows.whollyUptoRow.origin Rows.whollyUptoRow.targs:=of_decide_eq_true (by kernel_rfl)
theorem wrap:Tryz.f8.isWrapper Tryz.pinned.checked.prog Rows.whollyUptoRow.wrapper Rows.whollyUptoRow.mainSum:=by
 unfold Func.isWrapper;first | (rw [if_pos (by decide +kernel)];kernel_rfl) | (rw [if_neg (by decide +kernel)];exact ⟨rfl,rfl⟩)
set_option maxHeartbeats 8000000 in
set_option maxRecDepth 100000 in
theorem closed:joinedFacts Tryz.pinned.checked.prog 8 Tryz.f8 (Rows.OpenSpec.upto Rows.whollySpec).bare Rows.whollyUptoRow=true:=by
 unfold joinedFacts
 repeat' with_reducible refine and_t ?_ ?_
 all_goals as_aux_lemma=>kernel_rfl
end Go.Proofs.YtiplgdkpnhamaaaGreatDoor.wholly
