/- The texts K0, joined. -/
import Derived.Test.YtiplgdkpnhamaaaGreatDoorE20
import Derived.Test.YtiplgdkpnhamaaaGreatDoorE06
import Derived.Test.YtiplgdkpnhamaaaGreatDoorE09
namespace Go.Proofs.YtiplgdkpnhamaaaGreatDoor
open Go.RowKit
theorem clone_any (s:ByteArray) (hs:s.size ≤ 1000) (w:World):Calls Tryz.prog 63 #[.string s] w fun e w'=>e=.returned (.string s) ∧ Below w.heap.size w w':=by
 have h:=fun W=>Any.stringslite_Clone (P:=Tryz.prog) (ρ:=Tryz.cloneStr_ren) Tryz.cloneStr s W (by omega)
 change ∀ W,Calls Tryz.prog 103 _ W _ at h
 have H:=hide h
 clear h
 go_enter Tryz.func63,Tryz.ntmps63
 go_wp2_with (go_at_call 103; refine (H.out _).mono ?_; rintro e w1 ⟨rfl,hB⟩)
 go_ret
 exact ⟨rfl,hB⟩
def repCells (i n:Int) (sb:Nat) (hv kn op:List Value):List Value:=[.int .i64 i,.int .i64 n,bptr sb] ++ hv ++ kn ++ op
theorem repCells_op {i n:Int} {sb:Nat} {hv kn op:List Value} (h1:hv.length=5) (h2:kn.length=25) (k:Nat):(repCells i n sb hv kn op)[33 + k]? = op[k]?:=by
 unfold repCells
 rw [List.getElem?_append_right (by simp; omega)]
 congr 1
 simp; omega
theorem repCells_hv {i n:Int} {sb:Nat} {hv kn op:List Value} (h1:hv.length=5) (k:Nat) (hk:k < 5):(repCells i n sb hv kn op)[3 + k]? = hv[k]?:=by
 unfold repCells
 rw [List.getElem?_append_left (by simp; omega),List.getElem?_append_left (by simp; omega),List.getElem?_append_right (by simp)]
 congr 1
 simp
set_option maxRecDepth 100000 in
theorem find_no (w:World) (b:Nat) (k:Int) (hk:k < 0 ∨ 6 ≤ k) :
  Calls Tryz.prog 60 #[bptr b,.int .i64 k] w fun e w'=>e=.returned (.pointer none) ∧ w'=w:=by
 by_cases h0:k < 0
 ·go_enter Tryz.func60,Tryz.ntmps60
  go_wp2_with fail
  go_ret
  exact ⟨rfl,rfl⟩
 ·have h6:6 ≤ k:=by omega
  clear hk
  go_enter Tryz.func60,Tryz.ntmps60
  go_wp2_with fail
  go_ret
  exact ⟨rfl,rfl⟩
set_option maxRecDepth 100000 in
theorem find_at (w:World) (b k:Nat) (v:Value) (hk:k < 6) (hc:w.cell? ⟨b,33 + k,none⟩=some v) :
  Calls Tryz.prog 60 #[bptr b,.int .i64 k] w fun e w'=>e=.returned v ∧ w'=w:=by
 have hl:=World.block_lt_of_cell? w _ hc
 have e1:¬ (k:Int) < 0:=by omega
 have e2:¬ (6:Int) ≤ (k:Int):=by omega
 go_enter Tryz.func60,Tryz.ntmps60
 go_wp2_with fail
 go_ret
 exact ⟨rfl,rfl⟩
end Go.Proofs.YtiplgdkpnhamaaaGreatDoor
