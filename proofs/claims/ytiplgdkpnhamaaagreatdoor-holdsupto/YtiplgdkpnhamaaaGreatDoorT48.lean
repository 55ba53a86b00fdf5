import Derived.Test.YtiplgdkpnhamaaaGreatDoorT47
import Derived.Test.YtiplgdkpnhamaaaGreatDoorT44
namespace Go.Proofs.YtiplgdkpnhamaaaGreatDoor.Tv
open Go.Proofs.Tryz
open Go.RowKit
theorem akc (w:World)(o:Nat->Tag)(s aj az n:Nat)(aI ak:List Nat)(K:Nat)(p:gw)(aw:p.Ok)(hk:p.kind=14∨p.kind=15)
  (h:mz s aj az n aI ak K w o)(hn:0<n)(b2:n<=5)(cx:K<=1050000):
  Calls prog 53 #[ptr aj,p.agg] w (bx (.bool true) fun w'=>∃o',mz s aj az n aI ak (K+1) w' o'∧dS (fN s) w o w' o'):=by
 obtain⟨aG,aK,aN,ah,ar,m,h,c0,c1,hm⟩:=h;refine(Xe w o s aj az n aI ak aG aK aN ah ar (oQ m) K p aw hk h hn b2 cx).mono ?_;rintro dI w' ⟨rfl,o',eg,M⟩;exact⟨rfl,o',⟨aG,aK,aN,ah,ar,m,eg,c0,by omega,by omega⟩,M⟩
theorem akB (w:World)(o:Nat->Tag)(s aj az n:Nat)(aI ak:List Nat)(K:Nat)(p:gw)(aw:rm p)
  (h:mz s aj az n aI ak K w o)(hn:0<n)(b2:n<=5)(cx:K<=1050000):
  Calls prog 18 #[ptr aj,p.agg] w fun e w'=>e= .returned (.bool true)∧∃o',mz s aj az n aI ak (K+1) w' o'∧dS (hq s) w o w' o':=
 TR (mz s aj az n aI ak) s aj K p (fun bE t h=>h.new bE t) (fun h=>h.more) (fun h1 w o h=>(aaz w o s aj az n aI ak K p aw.ok h1 h hn b2 cx).mono fun _ _=>ou.up)
  (fun mC w o h=>by
   rcases mC with mC|mC
   ·exact(aay w o s aj az n aI ak K p aw.ok mC h hn b2 cx).mono fun _ _=>ou.up
   ·exact(akc w o s aj az n aI ak K p aw.ok mC h hn b2 cx).mono fun _ _=>ou.up) (fun lH w o h=>aaA w o s aj az n aI ak K p aw lH.1 h hn b2 cx) w o h
end Go.Proofs.YtiplgdkpnhamaaaGreatDoor.Tv
