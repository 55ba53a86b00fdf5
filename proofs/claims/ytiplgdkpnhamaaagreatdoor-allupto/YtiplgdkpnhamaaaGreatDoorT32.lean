import Derived.Test.YtiplgdkpnhamaaaGreatDoorT10
import Derived.Deep.OwnRows
import Derived.Deep.DeepCutAuto
import Derived.BigRegion
namespace Go.Proofs.YtiplgdkpnhamaaaGreatDoor
open Go.Proofs.Tryz List
open Go.RowKit
theorem Tryz.ala:(prog.info? 3).map (fun i=>(i.zero,i.size,i.bytes))=some (some (I 0),1,8):=by kernel_rfl
theorem Tryz.alc:(prog.info? 44).map (fun i=>(i.zero,i.size,i.bytes))=some (some (.slice none 0 0),1,24):=by kernel_rfl
theorem amt (n:Nat)(hn:n<=5)(v:World):(Instr.makeSlice 44 (I (n:Int)) (I (n:Int))).run prog v= .ok (bo (v.heap.size) n n) (v.alloc (.cells (madeCells #[I 0] n) 3)):=
 run_make_row' 44 3 (I 0) 8 underlying44 Tryz.ala rfl .i64 .i64 n (by omega) (by omega) v
theorem aaB (n:Nat):(madeCells #[I 0] n).toList=ints (replicate n 0):=by
 rw[toList_madeCells_one];simp[ints]
theorem TG (w:World)(n base:Nat)(hn:n<=5)(hb:base<=w.heap.size):(w.alloc (.cells (madeCells #[I 0] n) 3)).ownsRow base 3 1 (bo (w.heap.size) n n) n (ints (replicate n 0)):=by
 have aC:(madeCells #[I 0] n).size=n:=by
  have:=congrArg length (aaB n);simpa[ints]using this
 have a:=World.ownsRow_lit (base:=base) (e:=3) (size:=1) w (madeCells #[I 0] n) n hb (by unfold maxLen;omega) (by omega);rw[aaB n]at a;exact a
abbrev jN:Value:= .slice none 0 0
theorem Tryz.alf:(prog.info? 45).map (fun i=>(i.zero,i.size,i.bytes))=some (some (.pointer none),1,8):=by kernel_rfl
theorem Tryz.alg:(prog.info? 96).map (fun i=>(i.zero,i.size,i.bytes))=some (some (.pointer none),1,8):=by kernel_rfl
theorem W3 (n:Int):py (-1) n=false:=by simp[py]
theorem ahS {r n:Int}(h:¬(1<=n∧n<=5)):py r n=false:=by simp only[py,Fo];omega
theorem W4 (n:Nat):py n n=false:=by simp[py]
theorem W1 {k n:Nat}(h:k<n)(hn:n<=5):py k n=true:=by simp only[py,mo];omega
end Go.Proofs.YtiplgdkpnhamaaaGreatDoor
