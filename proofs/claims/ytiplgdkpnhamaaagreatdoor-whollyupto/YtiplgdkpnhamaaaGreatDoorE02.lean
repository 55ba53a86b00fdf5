/- The texts R3, R6, R1, R4, R2, P3, joined. -/
import Derived.Test.YtiplgdkpnhamaaaGreatDoorE01
import Derived.Test.YtiplgdkpnhamaaaGreatDoorProg
import Derived.Maps.AppendAt
namespace Go.Proofs.YtiplgdkpnhamaaaGreatDoor
open Go.RowKit
theorem Tryz.infoStr:(Tryz.prog.info? 9).map (fun i=>(i.zero,i.size,i.bytes))=some (some (.string ⟨#[]⟩),1,16):=by kernel_rfl
end Go.Proofs.YtiplgdkpnhamaaaGreatDoor
namespace Go.Proofs.YtiplgdkpnhamaaaGreatDoor
open Go.RowKit
theorem hide {p:Prop} (h:p):Hid p:=h
def strLt (a b:ByteArray):Bool:=Op.bytesLess a.toList b.toList
def insAt (L:List ByteArray) (s:ByteArray) (k:Nat):List ByteArray:=L.take k ++ s :: L.drop k
def place (L:List ByteArray) (s:ByteArray):Nat → Nat
 | 0=>0
 | k + 1=>if strLt s (L.getD k noEl) then place L s k else k + 1
def withOf (L:List ByteArray) (s:ByteArray):List ByteArray:=if L.any (fun a=>decide (a=s)) then L else insAt L s (place L s L.length)
theorem insAt_len (L:List ByteArray) (s:ByteArray) (k:Nat) (h:k ≤ L.length):(insAt L s k).length=L.length + 1:=by
 simp [insAt]; omega
theorem withOf_len (L:List ByteArray) (s:ByteArray):(withOf L s).length ≤ L.length + 1:=by
 have hp:∀ k,place L s k ≤ k:=by
  intro k
  induction k with
  | zero=>exact Nat.le_refl _
  | succ k ih=>unfold place; split <;> omega
 unfold withOf; split
 ·omega
 ·rw [insAt_len _ _ _ (hp _)]; exact Nat.le_refl _
end Go.Proofs.YtiplgdkpnhamaaaGreatDoor
namespace Go.Proofs.YtiplgdkpnhamaaaGreatDoor
open Go.RowKit
end Go.Proofs.YtiplgdkpnhamaaaGreatDoor
namespace Go.Proofs.YtiplgdkpnhamaaaGreatDoor
open Go.RowKit
end Go.Proofs.YtiplgdkpnhamaaaGreatDoor
namespace Go.Proofs.YtiplgdkpnhamaaaGreatDoor
open Go.RowKit
end Go.Proofs.YtiplgdkpnhamaaaGreatDoor
namespace Go.Proofs.YtiplgdkpnhamaaaGreatDoor
open Go.RowKit
def lastKind (o:Option ROp):Int:=(o.getD ROp.none).kind
def goneStep (v:List Int) (key el:ByteArray) (t:RTx) (acc:Bool) (u:RTx):Bool:=
 acc || (seesV v u.rep u.seq && seesV u.saw t.rep t.seq && (lastOf key el u.ops).isSome && decide (lastKind (lastOf key el u.ops)=4))
def goneOf (v:List Int) (key el:ByteArray) (t:RTx) (ts:List RTx):Bool:=ts.foldl (goneStep v key el t) false
def setEl (v:List Int) (key:ByteArray) (ts:List RTx) (t:RTx) (acc:List ByteArray) (el:ByteArray):List ByteArray:=
 if lastKind (lastOf key el t.ops)=3 then (if goneOf v key el t ts then acc else withOf acc el) else acc
def setTx (v:List Int) (key:ByteArray) (ts:List RTx) (acc:List ByteArray) (t:RTx):List ByteArray:=
 if seesV v t.rep t.seq then (elemsOf key t.ops).foldl (setEl v key ts t) acc else acc
def setOf (v:List Int) (key:ByteArray) (ts:List RTx):List ByteArray:=ts.foldl (setTx v key ts) []
theorem setEl_len (v:List Int) (key:ByteArray) (ts:List RTx) (t:RTx) (acc:List ByteArray) (el:ByteArray):(setEl v key ts t acc el).length ≤ acc.length + 1:=by
 unfold setEl
 split
 ·split
  ·omega
  ·exact withOf_len _ _
 ·omega
end Go.Proofs.YtiplgdkpnhamaaaGreatDoor
