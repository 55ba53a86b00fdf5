/- The texts R5, R11, R13, R14, joined. -/
import Derived.Test.YtiplgdkpnhamaaaGreatDoorE02
import Derived.Deep.RegionWith
import Derived.Laws.BytesArg
namespace Go.Proofs.YtiplgdkpnhamaaaGreatDoor
open Go.RowKit
end Go.Proofs.YtiplgdkpnhamaaaGreatDoor
namespace Go.Proofs.YtiplgdkpnhamaaaGreatDoor
open Go.RowKit
abbrev valAgg (sum:Int) (l:Value) (e:Int):Value:=.tuple #[.agg #[.int .i64 sum,l],.int .i64 e]
end Go.Proofs.YtiplgdkpnhamaaaGreatDoor
namespace Go.Proofs.YtiplgdkpnhamaaaGreatDoor
open Go.RowKit
def fitsB (r n:Int):Bool:=decide (1 ≤ n ∧ n ≤ 5 ∧ 0 ≤ r ∧ r < n)
def pickOf (c:Int) (n:Nat):Nat:=if c < 0 then ((-(c + 1)) % n).toNat else (c % n).toNat
theorem pickOf_lt (c:Int) (n:Nat) (h:0 < n):pickOf c n < n:=by
 have h1:=Int.emod_lt_of_pos (-(c + 1)) (show (0:Int) < n by omega)
 have h2:=Int.emod_lt_of_pos c (show (0:Int) < n by omega)
 have h3:=Int.emod_nonneg (-(c + 1)) (show (n:Int) ≠ 0 by omega)
 have h4:=Int.emod_nonneg c (show (n:Int) ≠ 0 by omega)
 unfold pickOf; split <;> omega
def sameB (a b:Int) (l m:List ByteArray):Bool:=decide (a=b ∧ l=m)
end Go.Proofs.YtiplgdkpnhamaaaGreatDoor
namespace Go.Proofs.YtiplgdkpnhamaaaGreatDoor
open Go.RowKit
def oneByte (c:Int):ByteArray:=strOfNums [c]
theorem conv_one (w:World) (c:Int):(convert 135 9 (.slice (some ⟨w.heap.size,0,none⟩) 1 1)).run Tryz.prog (w.alloc (.cells #[.int .u8 c] 5))=.ok (.string (oneByte c)) (w.alloc (.cells #[.int .u8 c] 5)):=by
 refine run_convert_bytes_arg (w:=w.alloc (.cells #[.int .u8 c] 5)) 135 5 Tryz.underlying135 Tryz.underlying5 w.heap.size 0 1 1 [c] rfl ?_ 9 Tryz.underlying9
 intro i hi
 have:i=0:=by omega
 subst this
 simp
end Go.Proofs.YtiplgdkpnhamaaaGreatDoor
