import Derived.Test.YtiplgdkpnhamaaaGreatDoorT00
import Derived.Test.YtiplgdkpnhamaaaGreatDoorRows
import Derived.ProofKit
set_option maxHeartbeats 8000000
set_option maxRecDepth 100000
namespace Go.Proofs.YtiplgdkpnhamaaaGreatDoor.travels
open Go.Proofs.Tryz
theorem Il {a b:Bool}(h:a=true)(k:b=true):(a&&b)=true:=by rw[h,k];rfl
theorem named:Tryz.pinned.checked.prog.funcNamed Rows.travelsUptoRow.func=some 4:=by kernel_rfl
theorem inst:f4.isInstance Tryz.pinned.checked.prog Rows.travelsUptoRow.origin Rows.travelsUptoRow.targs:=sM (by kernel_rfl)
theorem wrap:f4.isWrapper Tryz.pinned.checked.prog Rows.travelsUptoRow.wrapper Rows.travelsUptoRow.mainSum:=by
 unfold Func.isWrapper;first|(rw[if_pos (by decide+kernel)];kernel_rfl)|(rw[if_neg (by decide+kernel)];exact⟨rfl,rfl⟩)
theorem closed:joinedFacts Tryz.pinned.checked.prog 4 f4 (Rows.OpenSpec.upto Rows.travelsSpec).bare Rows.travelsUptoRow=true:=by
 unfold joinedFacts;repeat' with_reducible refine Il ?_ ?_
 all_goals as_aux_lemma=>kernel_rfl
end Go.Proofs.YtiplgdkpnhamaaaGreatDoor.travels
