/- The texts K8, K5, K10, K9, K11, K12, joined. -/
import Derived.Test.YtiplgdkpnhamaaaGreatDoorE23
import Derived.Test.YtiplgdkpnhamaaaGreatDoorE05
import Derived.Test.YtiplgdkpnhamaaaGreatDoorE24
import Derived.Deep.RegionHeld3
namespace Go.Proofs.YtiplgdkpnhamaaaGreatDoor
open Go.RowKit
theorem Tryz.infoTrx:(Tryz.prog.info? 139).map (fun i=>(i.zero,i.size,i.bytes))=some (some (.agg #[.int .i64 0,.int .i64 0,.int .i64 0,.int .i64 0,.int .i64 0,.int .i64 0,.int .i64 0,.map none]),8,64):=by kernel_rfl
end Go.Proofs.YtiplgdkpnhamaaaGreatDoor
namespace Go.Proofs.YtiplgdkpnhamaaaGreatDoor
open Go.RowKit
theorem wr_amount {m:Place → Option Wr} {q:Place} (h:∀ x,m q=some x → x.kind=0):(wrAt m q).amount=amt (m q):=by
 unfold wrAt amt
 cases e:m q with
 | none=>rfl
 | some x=>simp [h x e]
end Go.Proofs.YtiplgdkpnhamaaaGreatDoor
namespace Go.Proofs.YtiplgdkpnhamaaaGreatDoor
open Go.RowKit
theorem wr_new (hs:List RTx) (t:RTx) (q:Place):(histOf (hs ++ [t])).wr hs.length q=ownOf t.ops q:=by
 show ownOf (txAt (hs ++ [t]) hs.length).ops q=_
 rw [txAt_eq (by simp)]
 simp
end Go.Proofs.YtiplgdkpnhamaaaGreatDoor
namespace Go.Proofs.YtiplgdkpnhamaaaGreatDoor
open Go.RowKit
end Go.Proofs.YtiplgdkpnhamaaaGreatDoor
namespace Go.Proofs.YtiplgdkpnhamaaaGreatDoor
open Go.RowKit
theorem repCells_setH {i n:Int} {sb:Nat} {hv kn op:List Value} (h1:hv.length=5) (r:Nat) (hr:r < 5) (x:Value):(repCells i n sb hv kn op).set (3 + r) x=repCells i n sb (hv.set r x) kn op:=by
 unfold repCells
 rw [List.set_append_left _ _ (by simp; omega),List.set_append_left _ _ (by simp; omega),List.set_append_right _ _ (by simp)]
 congr 3
 simp
end Go.Proofs.YtiplgdkpnhamaaaGreatDoor
namespace Go.Proofs.YtiplgdkpnhamaaaGreatDoor
open Go.RowKit
theorem idx5_0 (a b c d e:Int) (W:World):(Instr.index 104 (.agg #[.int .i64 a,.int .i64 b,.int .i64 c,.int .i64 d,.int .i64 e]) (.int .i64 0)).run Tryz.prog W=.ok (.int .i64 a) W:=by kernel_rfl
theorem idx5_1 (a b c d e:Int) (W:World):(Instr.index 104 (.agg #[.int .i64 a,.int .i64 b,.int .i64 c,.int .i64 d,.int .i64 e]) (.int .i64 1)).run Tryz.prog W=.ok (.int .i64 b) W:=by kernel_rfl
theorem idx5_2 (a b c d e:Int) (W:World):(Instr.index 104 (.agg #[.int .i64 a,.int .i64 b,.int .i64 c,.int .i64 d,.int .i64 e]) (.int .i64 2)).run Tryz.prog W=.ok (.int .i64 c) W:=by kernel_rfl
theorem idx5_3 (a b c d e:Int) (W:World):(Instr.index 104 (.agg #[.int .i64 a,.int .i64 b,.int .i64 c,.int .i64 d,.int .i64 e]) (.int .i64 3)).run Tryz.prog W=.ok (.int .i64 d) W:=by kernel_rfl
theorem idx5_4 (a b c d e:Int) (W:World):(Instr.index 104 (.agg #[.int .i64 a,.int .i64 b,.int .i64 c,.int .i64 d,.int .i64 e]) (.int .i64 4)).run Tryz.prog W=.ok (.int .i64 e) W:=by kernel_rfl
theorem idx5_at (v:Vec) (i:Nat) (hi:i < 5) (W:World):(Instr.index 104 (.agg #[.int .i64 v.a,.int .i64 v.b,.int .i64 v.c,.int .i64 v.d,.int .i64 v.e]) (.int .i64 i)).run Tryz.prog W=.ok (.int .i64 (v.get i)) W:=by
 have:i=0 ∨ i=1 ∨ i=2 ∨ i=3 ∨ i=4:=by omega
 rcases this with rfl | rfl | rfl | rfl | rfl
 ·exact idx5_0 v.a v.b v.c v.d v.e W
 ·exact idx5_1 v.a v.b v.c v.d v.e W
 ·exact idx5_2 v.a v.b v.c v.d v.e W
 ·exact idx5_3 v.a v.b v.c v.d v.e W
 ·exact idx5_4 v.a v.b v.c v.d v.e W
end Go.Proofs.YtiplgdkpnhamaaaGreatDoor
