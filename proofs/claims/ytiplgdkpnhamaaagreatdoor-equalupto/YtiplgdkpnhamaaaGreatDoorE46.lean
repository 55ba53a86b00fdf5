/- The texts QE5, joined. -/
import Derived.Test.YtiplgdkpnhamaaaGreatDoorRows
import Derived.ProofKit
namespace Go.Proofs.YtiplgdkpnhamaaaGreatDoor.equal
theorem and_t {a b:Bool} (h:a=true) (k:b=true):(a && b)=true:=by rw [h,k]; rfl
theorem named:Tryz.pinned.checked.prog.funcNamed Rows.equalUptoRow.func=some 7:=by kernel_rfl
theorem inst:Tryz.f7.isInstance Tryz.pinned.checked.prog Rows.equalUptoRow.origin Rows.equalUptoRow.targs:=of_decide_eq_true (by kernel_rfl)
theorem wrap:Tryz.f7.isWrapper Tryz.pinned.checked.prog Rows.equalUptoRow.wrapper Rows.equalUptoRow.mainSum:=by
 unfold Func.isWrapper; first | (rw [if_pos (by decide +kernel)]; kernel_rfl) | (rw [if_neg (by decide +kernel)]; exact ⟨rfl,rfl⟩)
set_option maxHeartbeats 8000000 in
set_option maxRecDepth 100000 in
theorem closed:joinedFacts Tryz.pinned.checked.prog 7 Tryz.f7 (Rows.OpenSpec.upto Rows.equalSpec).bare Rows.equalUptoRow=true:=by
 unfold joinedFacts
 repeat' with_reducible refine and_t ?_ ?_
 all_goals as_aux_lemma=>kernel_rfl
end Go.Proofs.YtiplgdkpnhamaaaGreatDoor.equal
