import Derived.Test.YtiplgdkpnhamaaaGreatDoorT00
import Derived.Test.YtiplgdkpnhamaaaGreatDoorRows
import Derived.ProofKit
set_option maxHeartbeats 8000000
set_option maxRecDepth 100000
namespace Go.Proofs.YtiplgdkpnhamaaaGreatDoor.holds
open Go.Proofs.Tryz
theorem Il {a b:Bool}(h:a=true)(k:b=true):(a&&b)=true:=by rw[h,k];rfl
theorem named:Tryz.pinned.checked.prog.funcNamed Rows.holdsUptoRow.func=some 5:=by kernel_rfl
theorem inst:f5.isInstance Tryz.pinned.checked.prog Rows.holdsUptoRow.origin Rows.holdsUptoRow.targs:=sM (by kernel_rfl)
theorem wrap:f5.isWrapper Tryz.pinned.checked.prog Rows.holdsUptoRow.wrapper Rows.holdsUptoRow.mainSum:=by
 unfold Func.isWrapper;first|(rw[if_pos (by decide+kernel)];kernel_rfl)|(rw[if_neg (by decide+kernel)];exact⟨rfl,rfl⟩)
theorem closed:joinedFacts Tryz.pinned.checked.prog 5 f5 (Rows.OpenSpec.upto Rows.holdsSpec).bare Rows.holdsUptoRow=true:=by
 unfold joinedFacts;repeat' with_reducible refine Il ?_ ?_
 all_goals as_aux_lemma=>kernel_rfl
end Go.Proofs.YtiplgdkpnhamaaaGreatDoor.holds
