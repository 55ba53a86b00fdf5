/- The texts QV5, joined. -/
import Derived.Test.YtiplgdkpnhamaaaGreatDoorE28
import Derived.Test.YtiplgdkpnhamaaaGreatDoorRows
import Derived.LaidSub
import Derived.Lib.LaidTab
import Derived.MakeChecks
namespace Go.Proofs.YtiplgdkpnhamaaaGreatDoor
open Go.RowKit
def bruZ:List Int:=match (Rows.laid_math_bits_deBruijn64tab:DataW Unit) with
 | .agg l=>l.map fun | DataW.lit (.int _ z)=>z | _=>0
 | _=>[]
theorem bru_data:(Rows.laid_math_bits_deBruijn64tab:DataW Unit)=Lib.tabData .u8 bruZ:=by kernel_rfl
theorem pow_data:(Rows.laid_internal_strconv_uint64pow10:DataW Unit)=Lib.tabData .u64 Lib.pow10Tab:=by kernel_rfl
def allLaid:List (String × DataW Unit):=[("math/bits.deBruijn32tab",Rows.laid_math_bits_deBruijn32tab),("math/bits.deBruijn64tab",Rows.laid_math_bits_deBruijn64tab),("internal/strconv.uint64pow10",Rows.laid_internal_strconv_uint64pow10),("strconv.ErrRange",Rows.laid_strconv_ErrRange),("strconv.ErrSyntax",Rows.laid_strconv_ErrSyntax)]
theorem tabs_of_laid {W:World} (h:laidMetH Tryz.prog allLaid W):Tabs W:=by
 have h1:=h.filter (fun x=>x.1 == "internal/strconv.uint64pow10")
 have h2:=h.filter (fun x=>x.1 == "math/bits.deBruijn64tab")
 have e1:allLaid.filter (fun x=>x.1 == "internal/strconv.uint64pow10")=[("internal/strconv.uint64pow10",Lib.tabData .u64 Lib.pow10Tab)]:=by rw [← pow_data]; rfl
 have e2:allLaid.filter (fun x=>x.1 == "math/bits.deBruijn64tab")=[("math/bits.deBruijn64tab",Lib.tabData .u8 bruZ)]:=by rw [← bru_data]; rfl
 rw [e1,MakeChecks.laidMetH_plain _ _ _ (by kernel_rfl)] at h1
 rw [e2,MakeChecks.laidMetH_plain _ _ _ (by kernel_rfl)] at h2
 have t1:Lib.TabIs Tryz.prog W "internal/strconv.uint64pow10" .u64 Lib.pow10Tab:=Lib.tabIs_of_head (g:=0) (t:=346) (e:=286) (n:=20) (by kernel_rfl) (by kernel_rfl) (by kernel_rfl) (by kernel_rfl) (by kernel_rfl) (by kernel_rfl) h1
 have t2:Lib.TabIs Tryz.prog W "math/bits.deBruijn64tab" .u8 bruZ:=Lib.tabIs_of_head (g:=5) (t:=362) (e:=5) (n:=64) (by kernel_rfl) (by kernel_rfl) (by kernel_rfl) (by kernel_rfl) (by kernel_rfl) (by kernel_rfl) h2
 have c:=t2.cell (g:=5) (by kernel_rfl) 15 (by decide +kernel)
 have e3:bruZ.getD 15 0=4:=by kernel_rfl
 rw [e3] at c
 exact ⟨t1,c⟩
end Go.Proofs.YtiplgdkpnhamaaaGreatDoor
