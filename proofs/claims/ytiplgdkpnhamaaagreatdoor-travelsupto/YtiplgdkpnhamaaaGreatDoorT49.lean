import Derived.Test.YtiplgdkpnhamaaaGreatDoorT47
namespace Go.Proofs.YtiplgdkpnhamaaaGreatDoor.Tv
open Go.Proofs.Tryz
open Go.RowKit
theorem amf (w:World)(o:Nat->Tag)(s aj az n:Nat)(aI ak:List Nat)(K:Nat)(p:gw)(aw:rm p)(hk:p.kind<=13)
  (h:mz s aj az n aI ak K w o)(hn:0<n)(b2:n<=5)(cx:K<=1050000):
  Calls prog 18 #[ptr aj,p.agg] w fun e w'=>e= .returned (.bool true)∧∃o',mz s aj az n aI ak (K+1) w' o'∧dS (hq s) w o w' o':=
 TR (mz s aj az n aI ak) s aj K p (fun bE t h=>h.new bE t) (fun h=>h.more) (fun h1 w o h=>(aaz w o s aj az n aI ak K p aw.ok h1 h hn b2 cx).mono fun _ _=>ou.up)
  (fun mC w o h=>(aay w o s aj az n aI ak K p aw.ok (by omega) h hn b2 cx).mono fun _ _=>ou.up) (fun lH w o h=>aaA w o s aj az n aI ak K p aw lH.1 h hn b2 cx) w o h
end Go.Proofs.YtiplgdkpnhamaaaGreatDoor.Tv
