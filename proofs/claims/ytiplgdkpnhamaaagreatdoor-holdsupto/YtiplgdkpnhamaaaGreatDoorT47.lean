import Derived.Test.YtiplgdkpnhamaaaGreatDoorT27
import Derived.Test.YtiplgdkpnhamaaaGreatDoorT45
set_option maxHeartbeats 2000000
set_option maxRecDepth 100000
namespace Go.Proofs.YtiplgdkpnhamaaaGreatDoor.Tv
open Go.Proofs.Tryz
open Go.RowKit
def mz (s aj az n:Nat)(aI ak:List Nat)(K:Nat)(w:World)(o:Nat->Tag):Prop:=∃aG aK aN ah ar m,pr s aj az n aI ak aG aK aN ah ar (oQ m) K w o∧0<=ar∧ar<=2*(K:Int)∧m<=260*K
section
variable {s aj az n:Nat}{aI ak:List Nat}{K:Nat}{w w':World}{o o':Nat->Tag}{a6 a8 aG aK aN ah lx lo lp iC:Value}{ar kz:Int}{m m':iM}{a7:List aZ}{ts:List aT}{X:Nat->dD}{L:List fC}
theorem mz.new (h:mz s aj az n aI ak K w o)(bE:Obj)(t:Tag):mz s aj az n aI ak K (w.alloc bE) (ee o w.heap.size t):=by
 obtain⟨aG,aK,aN,ah,ar,m,h,aA⟩:=h;exact⟨aG,aK,aN,ah,ar,m,h.new bE t,aA⟩
theorem mz.more (h:mz s aj az n aI ak K w o):mz s aj az n aI ak (K+1) w o:=by
 obtain⟨aG,aK,aN,ah,ar,m,h,c0,c1,c2⟩:=h;exact⟨aG,aK,aN,ah,ar,m,h.more,c0,by omega,by omega⟩
end
theorem aaz (w:World)(o:Nat->Tag)(s aj az n:Nat)(aI ak:List Nat)(K:Nat)(p:gw)(aw:p.Ok)(hk:1<=p.kind∧p.kind<=8)
  (h:mz s aj az n aI ak K w o)(hn:0<n)(b2:n<=5)(cx:K<=1050000):
  Calls prog 52 #[ptr aj,p.agg] w (bx (.bool true) fun w'=>∃o',mz s aj az n aI ak (K+1) w' o'∧dS (fN s) w o w' o'):=by
 obtain⟨aG,aK,aN,ah,ar,m,h,c0,c1,hm⟩:=h;by_cases e:p.kind=6
 ·obtain⟨a6,a8,a7,ts,X,L,H⟩:=h
  refine(apT _ _ _ (pN X) w o s aj az n aI ak a6 a8 aG aK aN ah ar m a7 ts p aw e H.law hn b2 (H.room cx) (by omega) (by omega) (H.agree _ _) (H.short cx _ _) (H.ace cx _)).mono ?_;rintro dI w' ⟨rfl,o',lx,lo,eg,M⟩;exact⟨rfl,o',⟨lx,lo,aN,ah,_,_,H.told eg M,by omega,by omega,by omega⟩,M⟩
 ·refine(aan w o s aj az n aI ak aG aK aN ah ar (oQ m) K p aw ⟨hk.1,hk.2,e⟩ h hn b2 cx).mono ?_
  rintro dI w' ⟨rfl,o',eg,M⟩;exact⟨rfl,o',⟨aG,aK,aN,ah,ar,m,eg,c0,by omega,by omega⟩,M⟩
theorem aay (w:World)(o:Nat->Tag)(s aj az n:Nat)(aI ak:List Nat)(K:Nat)(p:gw)(aw:p.Ok)(hk:p.kind=9)
  (h:mz s aj az n aI ak K w o)(hn:0<n)(b2:n<=5)(cx:K<=1050000):
  Calls prog 53 #[ptr aj,p.agg] w (bx (.bool true) fun w'=>∃o',mz s aj az n aI ak (K+1) w' o'∧dS (fN s) w o w' o'):=by
 obtain⟨aG,aK,aN,ah,ar,m,⟨a6,a8,a7,ts,X,L,H⟩,c0,c1,hm⟩:=h;refine(apF _ _ _ (pN X) w o s aj az n aI ak a6 a8 aG aK aN ah ar m a7 ts p aw hk H.law hn b2 (H.room cx) (by omega) (by omega)).mono ?_;rintro dI w' ⟨rfl,o',lp,iC,eg,M⟩;exact⟨rfl,o',⟨aG,aK,lp,iC,_,_,H.told eg M,by omega,by omega,by omega⟩,M⟩
theorem aaA (w:World)(o:Nat->Tag)(s aj az n:Nat)(aI ak:List Nat)(K:Nat)(p:gw)(aw:rm p)(hk:10<=p.kind)
  (h:mz s aj az n aI ak K w o)(hn:0<n)(b2:n<=5)(cx:K<=1050000):
  Calls prog 54 #[ptr aj,p.agg] w (bx (.bool true) fun w'=>∃o',mz s aj az n aI ak (K+1) w' o'∧dS (hq s) w o w' o'):=by
 obtain⟨aG,aK,aN,ah,ar,m,h,c0,c1,hm⟩:=h;refine(Xo w o s aj az n aI ak aG aK aN ah ar (oQ m) K p aw hk h hn b2 cx).mono ?_;rintro dI w' ⟨rfl,o',eg,M⟩;exact⟨rfl,o',⟨aG,aK,aN,ah,ar,m,eg,c0,by omega,by omega⟩,M⟩
theorem abx (aX:World->(Nat->Tag)->Tag->Nat->Nat->Nat->aZ->Prop)(P:gH aX)(yG:Ib aX)(w:World)(n last:Int)(sv:Value)(hn:¬(1<=n∧n<=5)):
  Calls prog 14 #[I n,sv,I last] w (bx (.bool true) fun w'=>ax w w'):=by
 go_enter func14,ntmps14;go_wp2_with fail
 refine(LW aX P yG w).mono ?_;rintro e an ⟨rfl,aF⟩;have dF:=J aF;clear aF;go_wp2_with fail
 refine(VM aX yG an n 0 hn).mono ?_;rintro e w2 ⟨rfl,bP⟩;have dG:Hid (ax w w2):=dF.o.trans (bP.mono dF.o.size);clear bP dF;go_wp2_with fail
 refine wp_loop_rounds 1 ?_;rw[rounds_succ];go_wp2_with fail
 go_ret;exact⟨rfl,dG.o⟩
end Go.Proofs.YtiplgdkpnhamaaaGreatDoor.Tv
