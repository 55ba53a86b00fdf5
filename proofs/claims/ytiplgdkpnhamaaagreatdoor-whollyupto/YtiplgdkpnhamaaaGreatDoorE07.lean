/- The texts R12, joined. -/
import Derived.Test.YtiplgdkpnhamaaaGreatDoorE03
import Derived.Test.YtiplgdkpnhamaaaGreatDoorE04
namespace Go.Proofs.YtiplgdkpnhamaaaGreatDoor
open Go.RowKit
def keepEl (key:ByteArray) (ops:List ROp) (acc:List ByteArray) (s:ByteArray):List ByteArray:=
 if (lastOf key s ops).isSome=false ∨ lastKind (lastOf key s ops)=3 then withOf acc s else acc
def insEl (key:ByteArray) (ops:List ROp) (acc:List ByteArray) (s:ByteArray):List ByteArray:=
 if lastKind (lastOf key s ops)=3 then withOf acc s else acc
def readSet (key:ByteArray) (ops:List ROp) (told:List ByteArray):List ByteArray:=(elemsOf key ops).foldl (insEl key ops) (told.foldl (keepEl key ops) [])
end Go.Proofs.YtiplgdkpnhamaaaGreatDoor
