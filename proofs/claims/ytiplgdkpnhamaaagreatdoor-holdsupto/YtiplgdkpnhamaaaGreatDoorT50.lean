import Derived.Test.YtiplgdkpnhamaaaGreatDoorT48
set_option maxHeartbeats 4000000
set_option maxRecDepth 100000
namespace Go.Proofs.YtiplgdkpnhamaaaGreatDoor.Tv
open Go.Proofs.Tryz
open Go.RowKit
theorem akk (w:World)(al:fI w)(n:Nat)(sv:Value)(ops:List gw)(hs:FM w sv ops)(hj:∀k (h:k<ops.length),rm (ops[k]))(hn:1<=n)(b2:n<=5):
  Calls prog 14 #[I n,sv,I 15] w (bx (.bool true) fun w'=>ax w w'):=by
 obtain⟨⟨cA,cap,rfl,et⟩,fK,sj⟩:=hs;have Fs:=J et;have zR:=J hj;have FE:=J al;clear et fK hj al;go_enter func14,ntmps14;go_wp2_with fail
 refine(LW _ (pN fun _=>rU) A3 w).mono ?_;rintro e an ⟨rfl,aF⟩;have dF:=J aF;clear aF;go_wp2_with fail
 refine(PW _ (pN fun _=>rU) A3 0 an n 0 hn b2).mono ?_;rintro e w2 ⟨aj,az,o,aI,ak,a6,k0,rfl,a1,kk,hF⟩;have gO:Hid (mz 0 aj az n aI ak 0 w2 o):=⟨jN,jN,jN,jN,0,0,TX a1 kk hF b2 (FE.o.later dF.o) _ fun _=>cv,by omega,by omega,by omega⟩;have fr:Hid (dS (hq 0) an (fun _=>(0,0,0)) w2 o):=a1.da.mono fun _=>x5
 clear a1;go_wp2_with fail
 go_loopw[9,10] (fun ok i wr=>∃(k:Nat) (o':Nat->Tag),k<=ops.length∧ok= .bool true∧i=I k∧Hid (mz 0 aj az n aI ak k wr o'∧dS (hq 0) an (fun _=>(0,0,0)) wr o')) (fun _ i _=>ops.length-(intOf i).toNat)
 case atStart=>exact⟨0,o,ch,rfl,rfl,gO.o,fr.o⟩
 case round=>
  clear gO fr;obtain⟨k,o',hk,rfl,rfl,a1⟩:=hrel;have k6:Hid (ax w wr):=dF.o.trans ((Below.aa_ a1.o.2).mono dF.o.size);by_cases br:k<ops.length
  ·obtain⟨aE,wS,rfl,CA,eb⟩:=Fs.o k br
   have c8:=eb 0 (by omega);have dr:=eb 1 (by omega);have en:=eb 2 (by omega);have d_:=eb 3 (by omega);have ev:=eb 4 (by omega);have gv:=eb 5 (by omega);simp only[gw.cells,jg,kK,j3]at c8 dr en d_ ev gv;have dm:=bZ k6.o c8;have dz:=bZ k6.o dr;have ei:=bZ k6.o en;have fG:=bZ k6.o d_;have ib:=bZ k6.o ev;have j2:=bZ k6.o gv;have o3:aE<wr.heap.size:=by have:=k6.o.size;omega
   have h4:=J (zR.o k br);obtain⟨p,aw⟩:∃p,ops[k]=p:=⟨_,rfl⟩;rw[aw]at dm dz ei fG ib j2 h4;clear c8 dr en d_ ev gv eb CA aw;by_cases mC:p.kind<=15
   ·go_wp2_with fail
    refine(akB wr o' 0 aj az n aI ak k p h4.o a1.o.1 (by omega) b2 (by omega)).mono ?_;rintro e bN ⟨rfl,iv,kB,bK⟩;have cp:Hid (mz 0 aj az n aI ak (k+1) bN iv∧dS (hq 0) an (fun _=>(0,0,0)) bN iv):=⟨kB,a1.o.2.trans bK⟩;clear kB bK a1 dm dz ei fG ib j2 k6;go_wp2_with fail
    exact⟨⟨k+1,iv,by omega,rfl,by go_num,cp.o⟩,by simp[intOf];omega⟩
   ·go_wp2_with fail
    exact⟨⟨k+1,o',by omega,rfl,by go_num,a1.o.1.more,a1.o.2⟩,by simp[intOf];omega⟩
  ·go_wp2_with fail
   go_ret;exact⟨rfl,k6.o⟩
theorem holds_true (w:World)(al:fI w)(n:Int)(sv:Value)(ops:List gw)(hs:FM w sv ops)(hj:∀k (h:k<ops.length),rm (ops[k])):
  Calls prog 5 #[I n,sv] w (bx (.bool true) fun w'=>ax w w'):=by
 have xl:Hid (Calls prog 14 #[I n,sv,I 15] w (bx (.bool true) fun w'=>ax w w')):=by
  by_cases h:1<=n∧n<=5
  ·obtain⟨k,rfl⟩:∃k:Nat,n=k:=⟨n.toNat,by omega⟩
   exact akk w al k sv ops hs hj (by omega) (by omega)
  ·exact abx _ (pN fun _=>rU) A3 w n 15 sv h
 clear hs hj;go_enter func5,ntmps5;go_wp2_with fail
 refine xl.o.mono ?_;rintro e an ⟨rfl,ao⟩;have bO:=J ao;clear ao;go_wp2_with fail
 go_ret;exact⟨rfl,bO.o⟩
end Go.Proofs.YtiplgdkpnhamaaaGreatDoor.Tv
