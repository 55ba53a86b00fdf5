import Derived.Test.YtiplgdkpnhamaaaGreatDoorT17
import Derived.BigQuiet
import Derived.Deep.RegionWith
import Derived.Shelf.Strconv.AtoiAll
import Derived.Test.YtiplgdkpnhamaaaGreatDoorProg
import Derived.Shelf.Strconv.Itoa3
import Derived.Shelf.Small.Strs
import Derived.Lib.IndexLaws
import Derived.Recover
import Derived.Defers
import Derived.Tactics2
import Derived.Laws.Pointers
set_option maxHeartbeats 8000000
set_option maxRecDepth 100000
namespace Go.Proofs.YtiplgdkpnhamaaaGreatDoor
open Go.Proofs.Tryz List
open Go.RowKit
variable {a n ak:Nat}{t:ByteArray}{w w':World}
abbrev fault:Ending:= .panicked [{v:= .iface 196 (.agg #[]),recovered:=false}]
theorem Al (w:World):Calls prog 159 #[.bool true] w (bx (.tuple #[]) fun w'=>w'=w):=by
 go_enter func159,ntmps159;go_wp2_with fail
 go_end0;exact⟨rfl,rfl⟩
theorem Mi (w:World):Calls prog 159 #[.bool false] w fun e w'=>e=fault∧w'=w:=by
 go_enter func159,ntmps159;go_wp2_with fail
 exact⟨rfl,rfl,rfl⟩
structure ga (w:World)(ak n:Nat)(t:ByteArray)(at_:Nat):Prop where
 U:aQ w ak [I n,ai t,I at_] 199
 le:at_<=t.size
 sm:t.size<=200000000000
 hi:6<=ak
theorem ga.ke (h:ga w ak n t a)(aD:fI w)(k:Touch (fun q=>q=ak) w w'):fI w':=
 aD.kept fun q ad=>k.block q (hV ad aD.room) (fun e=>by have:=h.hi;omega)
theorem ga.later (h:ga w ak n t a)(hb:ax w w'):ga w' ak n t a:=⟨h.U.below hb,h.le,h.sm,h.hi⟩
theorem acQ (w:World)(ak n:Nat)(t:ByteArray)(a k:Nat)(h:ga w ak n t a)(hk:t.size<a+k):
  Calls prog 160 #[bl ak,I k] w fun e w'=>e=fault∧ax w w':=by
 have c1:∀f:dO (aR w),f.w.cell? (aa ak 1)=some (ai t):=aR.cell (h.U.cell 1);have c2:∀f:dO (aR w),f.w.cell? (aa ak 2)=some (I a):=aR.cell (h.U.cell 2);have n_:=h.sm;have hle:=h.le;have aB:decide ((k:Int)<=(t.size:Int)-a)=false:=vG (by omega);clear h;go_enter func160,ntmps160;go_wp2_with fail
 refine kd (aR w) 12 (by kernel_rfl) (by kernel_rfl) (cE).drew ?_;simp only[jC,ju,j4,jR];repeat(go_big_quiet_step (fail))
 refine gG ?_;intro _ ds;obtain⟨fq,rfl⟩:=ds;have bO:Hid (ax w fq.w):=fq.ok;generalize fq.w=an at*;go_wp2_with(go_at_call 159;refine(Mi an).mono ?_;rintro e w2 ⟨rfl,rfl⟩)
 exact⟨rfl,rfl,bO.o⟩
theorem E1 (w:World)(ak n:Nat)(t:ByteArray)(a k:Nat)(h:ga w ak n t a)(hk:a+k<=t.size):
  Calls prog 160 #[bl ak,I k] w (bx (ai (t.extract a (a+k))) fun w'=>ga w' ak n t (a+k)∧Touch (fun q=>q=ak) w w'):=by
 have c1:∀f:dO (aR w),f.w.cell? (aa ak 1)=some (ai t):=aR.cell (h.U.cell 1);have c2:∀f:dO (aR w),f.w.cell? (aa ak 2)=some (I a):=aR.cell (h.U.cell 2);have n_:=h.sm;have hle:=h.le;have aB:decide ((k:Int)<=(t.size:Int)-a)=true:=yu (by omega);have aO:=J h;clear h;go_enter func160,ntmps160;go_wp2_with fail
 refine kd (aR w) 12 (by kernel_rfl) (by kernel_rfl) (cE).drew ?_;simp only[jC,ju,j4,jR];repeat(go_big_quiet_step (fail))
 refine gG ?_;intro _ ds;obtain⟨fq,rfl⟩:=ds;have bO:Hid (ax w fq.w):=fq.ok;generalize fq.w=an at*;clear c1 c2;have h1:=aO.o.later bO.o;have are:=J h1;have c1:=h1.U.c1;have c2:=h1.U.c2;have f2:=h1.U.frozen 2;have br:=h1.U.lt;clear h1 aB;go_wp2_with(go_at_call 159;refine(Al an).mono ?_;rintro e w2 ⟨rfl,rfl⟩)
 have g1:(a:Int)<=a+k:=by omega
 have g2:(a:Int)+k<=t.size:=by omega
 go_quiet(fail);go_wp2_with fail
 go_ret;have hb:ax w (w2.drewN nq):=ym bO.o nq;have ae:=aO.o.later hb;have e:((a:Int)+k)=((a+k:Nat):Int):=by omega
 rw[e];exact⟨rfl,⟨ae.U.set 2 _,hk,n_,ae.hi⟩,Touch.setCell (S:=fun q=>q=ak) (p:=(aa ak 2)) (Touch.dh hb) (Or.inl rfl) _⟩
end Go.Proofs.YtiplgdkpnhamaaaGreatDoor
namespace Go.Proofs
open Go.Shelf
def Tryz.afO:Go.Shelf.Ren:=⟨fun|172=>197|244=>219|245=>220|247=>242|279=>243|280=>244|281=>245|282=>246|287=>265|316=>103|171=>198|205=>266|321=>273|322=>274|243=>221|246=>247|283=>237|284=>238|285=>239|286=>240|129=>193|317=>261|318=>262|319=>263|320=>264|337=>271|338=>272|n=>n,fun|9=>9|3=>3|75=>291|76=>292|4=>4|5=>5|167=>329|37=>135|0=>0|85=>330|2=>2|168=>332|53=>286|175=>348|46=>247|210=>351|127=>229|145=>359|143=>357|21=>21|171=>325|173=>327|212=>346|51=>284|20=>20|213=>347|232=>361|233=>362|80=>71|n=>n,fun|15=>2|16=>3|17=>0|18=>4|19=>5|n=>n⟩
theorem Tryz.atoi:Go.Proofs.LaysC.n172 prog Tryz.afO:={
 mixed:=by kernel_rfl
 f129:=func193.trans (congrArg some (by kernel_rfl))
 f171:=func198.trans (congrArg some (by kernel_rfl))
 f172:=func197.trans (congrArg some (by kernel_rfl))
 f205:=func266.trans (congrArg some (by kernel_rfl))
 f243:=func221.trans (congrArg some (by kernel_rfl))
 f244:=func219.trans (congrArg some (by kernel_rfl))
 f245:=func220.trans (congrArg some (by kernel_rfl))
 f246:=func247.trans (congrArg some (by kernel_rfl))
 f247:=func242.trans (congrArg some (by kernel_rfl))
 f279:=func243.trans (congrArg some (by kernel_rfl))
 f280:=func244.trans (congrArg some (by kernel_rfl))
 f281:=func245.trans (congrArg some (by kernel_rfl))
 f282:=func246.trans (congrArg some (by kernel_rfl))
 f283:=func237.trans (congrArg some (by kernel_rfl))
 f284:=func238.trans (congrArg some (by kernel_rfl))
 f285:=func239.trans (congrArg some (by kernel_rfl))
 f286:=func240.trans (congrArg some (by kernel_rfl))
 f287:=func265.trans (congrArg some (by kernel_rfl))
 f316:=func103.trans (congrArg some (by kernel_rfl))
 f317:=func261.trans (congrArg some (by kernel_rfl))
 f318:=func262.trans (congrArg some (by kernel_rfl))
 f319:=func263.trans (congrArg some (by kernel_rfl))
 f320:=func264.trans (congrArg some (by kernel_rfl))
 f321:=func273.trans (congrArg some (by kernel_rfl))
 f322:=func274.trans (congrArg some (by kernel_rfl))
 f337:=func271.trans (congrArg some (by kernel_rfl))
 f338:=func272.trans (congrArg some (by kernel_rfl))
 t0:=underlying0
 a0:=Tryz.isAgg0
 z0:=Tryz.sizeOf0
 v0:=Tryz.zeroValue0
 t2:=underlying2
 a2:=Tryz.isAgg2
 z2:=Tryz.sizeOf2
 v2:=Tryz.zeroValue2
 t3:=underlying3
 a3:=Tryz.isAgg3
 z3:=Tryz.sizeOf3
 v3:=Tryz.zeroValue3
 t4:=underlying4
 a4:=Tryz.isAgg4
 z4:=Tryz.sizeOf4
 v4:=Tryz.zeroValue4
 t5:=underlying5
 a5:=Tryz.isAgg5
 z5:=Tryz.sizeOf5
 v5:=Tryz.zeroValue5
 t9:=underlying9
 a9:=Tryz.isAgg9
 z9:=Tryz.sizeOf9
 v9:=Tryz.zeroValue9
 t20:=underlying20
 a20:=Tryz.isAgg20
 z20:=Tryz.sizeOf20
 v20:=Tryz.zeroValue20
 t21:=underlying21
 a21:=Tryz.isAgg21
 z21:=Tryz.sizeOf21
 v21:=Tryz.zeroValue21
 t37:=underlying135
 a37:=Tryz.isAgg135
 z37:=Tryz.sizeOf135
 v37:=Tryz.zeroValue135
 t46:=underlying247
 a46:=Tryz.isAgg247
 z46:=Tryz.sizeOf247
 v46:=Tryz.zeroValue247
 t51:=underlying284
 a51:=Tryz.isAgg284
 z51:=Tryz.sizeOf284
 v51:=Tryz.zeroValue284
 t53:=underlying286
 a53:=Tryz.isAgg286
 z53:=Tryz.sizeOf286
 v53:=Tryz.zeroValue286
 t75:=underlying291
 a75:=Tryz.isAgg291
 z75:=Tryz.sizeOf291
 v75:=Tryz.zeroValue291
 t76:=underlying292
 a76:=Tryz.isAgg292
 z76:=Tryz.sizeOf292
 v76:=Tryz.zeroValue292
 t85:=underlying330
 a85:=Tryz.isAgg330
 z85:=Tryz.sizeOf330
 v85:=Tryz.zeroValue330
 t127:=underlying229
 a127:=Tryz.isAgg229
 z127:=Tryz.sizeOf229
 v127:=Tryz.zeroValue229
 t143:=underlying357
 a143:=Tryz.isAgg357
 z143:=Tryz.sizeOf357
 v143:=Tryz.zeroValue357
 t145:=underlying359
 a145:=Tryz.isAgg359
 z145:=Tryz.sizeOf359
 v145:=Tryz.zeroValue359
 t167:=underlying329
 a167:=Tryz.isAgg329
 z167:=Tryz.sizeOf329
 v167:=Tryz.zeroValue329
 t168:=underlying332
 a168:=Tryz.isAgg332
 z168:=Tryz.sizeOf332
 v168:=Tryz.zeroValue332
 t171:=underlying325
 a171:=Tryz.isAgg325
 z171:=Tryz.sizeOf325
 v171:=Tryz.zeroValue325
 t173:=underlying327
 a173:=Tryz.isAgg327
 z173:=Tryz.sizeOf327
 v173:=Tryz.zeroValue327
 t175:=underlying348
 a175:=Tryz.isAgg348
 z175:=Tryz.sizeOf348
 v175:=Tryz.zeroValue348
 t210:=underlying351
 a210:=Tryz.isAgg351
 z210:=Tryz.sizeOf351
 v210:=Tryz.zeroValue351
 t212:=underlying346
 a212:=Tryz.isAgg346
 z212:=Tryz.sizeOf346
 v212:=Tryz.zeroValue346
 t213:=underlying347
 a213:=Tryz.isAgg347
 z213:=Tryz.sizeOf347
 t232:=underlying361
 a232:=Tryz.isAgg361
 z232:=Tryz.sizeOf361
 v232:=Tryz.zeroValue361
 t233:=underlying362
 a233:=Tryz.isAgg362
 z233:=Tryz.sizeOf362
 v233:=Tryz.zeroValue362
 g15:=by kernel_rfl
 g16:=by kernel_rfl
 g17:=by kernel_rfl
 g18:=by kernel_rfl
 g19:=by kernel_rfl
 t80:=underlying71
 a80:=Tryz.isAgg71
 z80:=Tryz.sizeOf71
 v80:=Tryz.zeroValue71
 i0:=by kernel_rfl
 i2:=by kernel_rfl
 i3:=by kernel_rfl
 i4:=by kernel_rfl
 i5:=by kernel_rfl
 i9:=by kernel_rfl
 i20:=by kernel_rfl
 i21:=by kernel_rfl
 i37:=by kernel_rfl
 i46:=by kernel_rfl
 i51:=by kernel_rfl
 i53:=by kernel_rfl
 i75:=by kernel_rfl
 i76:=by kernel_rfl
 i80:=by kernel_rfl
 i85:=by kernel_rfl
 i127:=by kernel_rfl
 i143:=by kernel_rfl
 i145:=by kernel_rfl
 i167:=by kernel_rfl
 i168:=by kernel_rfl
 i171:=by kernel_rfl
 i173:=by kernel_rfl
 i175:=by kernel_rfl
 i210:=by kernel_rfl
 i212:=by kernel_rfl
 i232:=by kernel_rfl
 i233:=by kernel_rfl
 m15:=by kernel_rfl
 m16:=by kernel_rfl
 m17:=by kernel_rfl
 m18:=by kernel_rfl
 m19:=by kernel_rfl
 c0:=by kernel_rfl
 c2:=by kernel_rfl
 c3:=by kernel_rfl
 c4:=by kernel_rfl
 c5:=by kernel_rfl
 c9:=by kernel_rfl
 c20:=by kernel_rfl
 c21:=by kernel_rfl
 c37:=by kernel_rfl
 c46:=by kernel_rfl
 c51:=by kernel_rfl
 c53:=by kernel_rfl
 c75:=by kernel_rfl
 c76:=by kernel_rfl
 c80:=by kernel_rfl
 c85:=by kernel_rfl
 c127:=by kernel_rfl
 c143:=by kernel_rfl
 c145:=by kernel_rfl
 c167:=by kernel_rfl
 c168:=by kernel_rfl
 c171:=by kernel_rfl
 c173:=by kernel_rfl
 c175:=by kernel_rfl
 c210:=by kernel_rfl
 c212:=by kernel_rfl
 c213:=by kernel_rfl
 c232:=by kernel_rfl
 c233:=by kernel_rfl}
def Tryz.alB:Go.Shelf.Ren:=⟨fun|171=>198|243=>221|246=>247|283=>237|284=>238|285=>239|286=>240|129=>193|317=>261|318=>262|319=>263|320=>264|337=>271|338=>272|n=>n,fun|3=>3|9=>9|2=>2|4=>4|171=>325|0=>0|53=>286|37=>135|5=>5|173=>327|212=>346|51=>284|20=>20|213=>347|46=>247|232=>361|233=>362|n=>n,fun|17=>0|18=>4|19=>5|n=>n⟩
theorem Tryz.itoa:Go.Proofs.LaysM.n171 prog Tryz.alB:={
 mixed:=by kernel_rfl
 f129:=func193.trans (congrArg some (by kernel_rfl))
 f171:=func198.trans (congrArg some (by kernel_rfl))
 f243:=func221.trans (congrArg some (by kernel_rfl))
 f246:=func247.trans (congrArg some (by kernel_rfl))
 f283:=func237.trans (congrArg some (by kernel_rfl))
 f284:=func238.trans (congrArg some (by kernel_rfl))
 f285:=func239.trans (congrArg some (by kernel_rfl))
 f286:=func240.trans (congrArg some (by kernel_rfl))
 f317:=func261.trans (congrArg some (by kernel_rfl))
 f318:=func262.trans (congrArg some (by kernel_rfl))
 f319:=func263.trans (congrArg some (by kernel_rfl))
 f320:=func264.trans (congrArg some (by kernel_rfl))
 f337:=func271.trans (congrArg some (by kernel_rfl))
 f338:=func272.trans (congrArg some (by kernel_rfl))
 t0:=underlying0
 a0:=Tryz.isAgg0
 z0:=Tryz.sizeOf0
 v0:=Tryz.zeroValue0
 t2:=underlying2
 a2:=Tryz.isAgg2
 z2:=Tryz.sizeOf2
 v2:=Tryz.zeroValue2
 t3:=underlying3
 a3:=Tryz.isAgg3
 z3:=Tryz.sizeOf3
 v3:=Tryz.zeroValue3
 t4:=underlying4
 a4:=Tryz.isAgg4
 z4:=Tryz.sizeOf4
 v4:=Tryz.zeroValue4
 t5:=underlying5
 a5:=Tryz.isAgg5
 z5:=Tryz.sizeOf5
 v5:=Tryz.zeroValue5
 t9:=underlying9
 a9:=Tryz.isAgg9
 z9:=Tryz.sizeOf9
 v9:=Tryz.zeroValue9
 t20:=underlying20
 a20:=Tryz.isAgg20
 z20:=Tryz.sizeOf20
 v20:=Tryz.zeroValue20
 t37:=underlying135
 a37:=Tryz.isAgg135
 z37:=Tryz.sizeOf135
 v37:=Tryz.zeroValue135
 t46:=underlying247
 a46:=Tryz.isAgg247
 z46:=Tryz.sizeOf247
 v46:=Tryz.zeroValue247
 t51:=underlying284
 a51:=Tryz.isAgg284
 z51:=Tryz.sizeOf284
 v51:=Tryz.zeroValue284
 t53:=underlying286
 a53:=Tryz.isAgg286
 z53:=Tryz.sizeOf286
 v53:=Tryz.zeroValue286
 t171:=underlying325
 a171:=Tryz.isAgg325
 z171:=Tryz.sizeOf325
 v171:=Tryz.zeroValue325
 t173:=underlying327
 a173:=Tryz.isAgg327
 z173:=Tryz.sizeOf327
 v173:=Tryz.zeroValue327
 t212:=underlying346
 a212:=Tryz.isAgg346
 z212:=Tryz.sizeOf346
 v212:=Tryz.zeroValue346
 t213:=underlying347
 a213:=Tryz.isAgg347
 z213:=Tryz.sizeOf347
 t232:=underlying361
 a232:=Tryz.isAgg361
 z232:=Tryz.sizeOf361
 v232:=Tryz.zeroValue361
 t233:=underlying362
 a233:=Tryz.isAgg362
 z233:=Tryz.sizeOf362
 v233:=Tryz.zeroValue362
 g17:=by kernel_rfl
 g18:=by kernel_rfl
 g19:=by kernel_rfl
 i0:=by kernel_rfl
 i2:=by kernel_rfl
 i3:=by kernel_rfl
 i4:=by kernel_rfl
 i5:=by kernel_rfl
 i9:=by kernel_rfl
 i20:=by kernel_rfl
 i37:=by kernel_rfl
 i46:=by kernel_rfl
 i51:=by kernel_rfl
 i53:=by kernel_rfl
 i171:=by kernel_rfl
 i173:=by kernel_rfl
 i212:=by kernel_rfl
 i232:=by kernel_rfl
 i233:=by kernel_rfl
 m17:=by kernel_rfl
 m18:=by kernel_rfl
 m19:=by kernel_rfl}
def Tryz.ak9:Go.Shelf.Ren:=⟨fun|137=>196|217=>218|266=>241|n=>n,fun|9=>9|5=>5|3=>3|n=>n,fun|n=>n⟩
theorem Tryz.indexByte:Go.Proofs.Lays.n137 prog Tryz.ak9:={
 mixed:=by kernel_rfl
 f137:=func196.trans (congrArg some (by kernel_rfl))
 f217:=func218.trans (congrArg some (by kernel_rfl))
 f266:=func241.trans (congrArg some (by kernel_rfl))
 t3:=underlying3
 a3:=Tryz.isAgg3
 z3:=Tryz.sizeOf3
 v3:=Tryz.zeroValue3
 t5:=underlying5
 a5:=Tryz.isAgg5
 z5:=Tryz.sizeOf5
 v5:=Tryz.zeroValue5
 t9:=underlying9
 a9:=Tryz.isAgg9
 z9:=Tryz.sizeOf9
 v9:=Tryz.zeroValue9}
end Go.Proofs
namespace Go.Proofs.YtiplgdkpnhamaaaGreatDoor
open Go.Proofs.Tryz List
open Go.RowKit
variable {a b ak:Nat}{m:Bool}{rem s t u v:List UInt8}{w w2 wr:World}{c8 dr en d_ ev:Value}
theorem Se (s:ByteArray)(w:World):Calls prog 196 #[ai s,.int .u8 32] w fun e w'=>e= .returned (I (Lib.indexByte s.data.toList 32))∧w'=w:=
 Any.strings_IndexByte Tryz.indexByte s 32 w
theorem Z3 (n:Int)(aS: -9223372036854775808<=n)(h1:n<=9223372036854775807)(w:World)(h:fI w):Calls prog 198 #[I n] w (bx (ai ⟨(Lib.itoa n).toArray⟩) fun w'=>ax w w'):=by
 refine(Any.strconv_Itoa Tryz.itoa n aS h1 w h.pow).mono ?_;rintro e w' ⟨rfl,k,os,rfl⟩;exact⟨rfl,Lib.below_grow _ _ cv _ _⟩
theorem VD (s:ByteArray)(hs:s.size<=200000000000)(v:Int)(h:Lib.atoiAll s.data.toList= .ok v)(w:World):Calls prog 197 #[ai s] w (bx (.tuple #[I v,.nilIface]) fun w'=>ax w w'):=by
 refine(Any.strconv_Atoi_ok Tryz.atoi s (by omega) v h w).mono ?_;rintro e w' ⟨rfl,rfl|⟨t,rfl⟩⟩
 ·exact⟨rfl,cE⟩
 ·exact⟨rfl,Lib.bytesWorld_below w _ t⟩
theorem Sd:∀(u r:List UInt8),(∀c,c∈u->c≠32)->Lib.indexByte (u++32::r) 32=u.length
 |[],r,_=>by simp[Lib.indexByte]
 |b::u,r,h=>by
  have ih:=Sd u r fun c aA=>h c (by simp[aA])
  have hb:=h b (by simp);simp only[yo,Lib.indexByte,ih];rw[if_neg (by simpa using hb),if_neg (by simp)];simp
theorem ZT:∀(l:List UInt8),(∀c,c∈l->c≠32)->Lib.indexByte l 32= -1
 |[],_=>rfl
 |b::l,h=>by
  have ih:=ZT l fun c aA=>h c (by simp[aA])
  have hb:=h b (by simp);simp only[Lib.indexByte,ih];rw[if_neg (by simpa using hb),if_pos (by decide)]
theorem F6 (t:ByteArray)(a b:Nat):(t.extract a b).data.toList=(t.data.toList.drop a).take (b-a):=by
 simp[ByteArray.data_extract]
theorem F5 (t:ByteArray)(a b:Nat):t.extract a b=⟨((t.data.toList.drop a).take (b-a)).toArray⟩:=by
 apply ByteArray.ext;rw[<-F6]
theorem amQ (w:World)(ak n:Nat)(t:ByteArray)(a:Nat)(e_ aq:Int)(h:ga w ak n t a)(au:∀c,c∈t.data.toList.drop a->c≠32):
  Calls prog 161 #[bl ak,I e_,I aq] w fun e w'=>e=fault∧Touch (fun q=>q=ak) w w':=by
 have c1:∀f:dO (aR w),f.w.cell? (aa ak 1)=some (ai t):=aR.cell (h.U.cell 1);have c2:∀f:dO (aR w),f.w.cell? (aa ak 2)=some (I a):=aR.cell (h.U.cell 2);have hle:=h.le;have n_:=h.sm;have aP:Lib.indexByte (t.extract a t.size).data.toList 32= -1:=by
  rw[F6,lQ (by simp)];exact ZT _ au
 have bX:=J aP;clear aP au h;go_enter func161,ntmps161;go_wp2_with fail
 refine kd (aR w) 9 (by kernel_rfl) (by kernel_rfl) (cE).drew ?_;simp only[jC,ju,j4,jR];repeat(go_big_quiet_step (fail))
 refine gG ?_;intro _ ds;obtain⟨fq,rfl⟩:=ds;have bO:=cy fq.ok;generalize fq.w=an at*;clear c1 c2;have cw:=J (Se (t.extract a t.size) an);unfold Hid at cw bX;rw[bX]at cw;have aed:=J cw;clear cw bX;go_wp2_with(first|(go_at_call 196;refine aed.o.mono ?_;rintro e w2 ⟨rfl,rfl⟩)|(go_at_call 159;refine(Mi _).mono ?_;rintro e w2 ⟨rfl,rfl⟩))
 exact⟨rfl,rfl,Touch.dh bO.o⟩
theorem amR (w:World)(ak n:Nat)(t:ByteArray)(a:Nat)(e_ aq k:Int)(r:List UInt8)(h:ga w ak n t a)(au:t.data.toList.drop a=ec k++r)(aS: -9223372036854775808<=k)(h1:k<=9223372036854775807)(nY:e_<=k)(Ck:k<=aq)(al:fI w):
  Calls prog 161 #[bl ak,I e_,I aq] w (bx (I k) fun w'=>ga w' ak n t (a+(ec k).length)∧Touch (fun q=>q=ak) w w'):=by
 have c1:∀f:dO (aR w),f.w.cell? (aa ak 1)=some (ai t):=aR.cell (h.U.cell 1);have c2:∀f:dO (aR w),f.w.cell? (aa ak 2)=some (I a):=aR.cell (h.U.cell 2);have hle:=h.le;have n_:=h.sm;have hlen:(t.data.toList.drop a).length=t.size-a:=by simp
 have gV:(Lib.itoa k).length+1+r.length=t.size-a:=by
  rw[<-hlen,au];simp[ec];omega
 have aP:Lib.indexByte (t.extract a t.size).data.toList 32=(Lib.itoa k).length:=by
  rw[F6,lQ (by simp),au,ec,mN];exact Sd _ _ (Nu k)
 have ba:t.extract a (a+(Lib.itoa k).length)=⟨(Lib.itoa k).toArray⟩:=by
  rw[F5,au];simp[ec]
 obtain⟨L,cT⟩:∃L:Nat,(Lib.itoa k).length=L:=⟨_,rfl⟩;rw[cT]at aP ba gV;have bX:=J (⟨aP,ba,cT⟩:_∧_∧_);have aO:=J h;have dA:=J al;clear aP ba au h hlen cT al;go_enter func161,ntmps161;go_wp2_with fail
 refine kd (aR w) 9 (by kernel_rfl) (by kernel_rfl) (cE).drew ?_;simp only[jC,ju,j4,jR];repeat(go_big_quiet_step (fail))
 refine gG ?_;intro _ ds;obtain⟨fq,rfl⟩:=ds;have bO:=cy fq.ok;generalize fq.w=an at*;clear c1 c2;have aq:=Se (t.extract a t.size) an;rw[bX.o.1]at aq;have cw:=J aq;have H1:=J (aO.o.later bO.o);have cD:=J (E1 an ak n t a L H1.o (by omega));clear aq;go_wp2_with(first|(go_at_call 196;refine cw.o.mono ?_;rintro e w2 ⟨rfl,rfl⟩)|(go_at_call 159;refine(Al _).mono ?_;rintro e w2 ⟨rfl,rfl⟩)|(go_at_call 160;refine cD.o.mono ?_;rintro e bN ⟨rfl,aH,t3⟩;refine gE ?_))
 refine Lib.hid ?_;rw[bX.o.2.1];have lE:=cy ((Touch.dh bO.o).then t3);have HP:=J (E1 bN ak n t (a+L) 1 aH (by omega));have cF:(⟨(Lib.itoa k).toArray⟩:ByteArray).size=L:=by rw[<-bX.o.2.2];rfl
 have et:∀W:World,Calls prog 197 #[ai ⟨(Lib.itoa k).toArray⟩] W (bx (.tuple #[I k,.nilIface]) fun w'=>ax W w'):=fun W=>VD _ (by omega) k (by simpa using VC k aS h1) W
 have cM:=J et;clear aH t3 cw cD H1 bO et;go_wp2_with(first|(go_at_call 160;refine HP.o.mono ?_;rintro e cc ⟨rfl,bd,t4⟩;have cd:=J bd;have j7:=J t4;clear bd t4)|(go_at_call 197;refine(cM.o _).mono ?_;rintro e w5 ⟨rfl,ow⟩;have mP:=J ow;clear ow)|(go_at_call 198;refine gE ?_))
 refine Lib.hid ?_;have nk:=cy ((lE.o.then j7.o).then (Touch.dh mP.o));have cw:=J (Z3 k aS h1 w5 (aO.o.ke dA.o nk.o));have cR:=J (cd.o.later mP.o);refine cw.o.mono ?_;rintro e eS ⟨rfl,gm⟩;have DK:=cy (nk.o.then (Touch.dh gm));have dL:=J (cR.o.later gm);clear gm cw cR nk mP cd j7 lE cM HP;go_wp2_with(go_at_call 159;refine(Al _).mono ?_;rintro e qs ⟨rfl,rfl⟩)
 go_ret;exact⟨rfl,by have e:=bX.o.2.2;rw[show a+(ec k).length=a+L+1 by simp[ec,e];omega];exact dL.o,DK.o⟩
def fU (m:Bool)(rem u:List UInt8):Prop:=if m=true then∃r,rem=u++r else∃s,s≠[]∧rem++s=u
theorem Tu (h:fU m rem (v++u)):(∃EX,rem=v++EX∧fU m EX u)∨(m=false∧∃s,s≠[]∧rem++s=v):=by
 cases m with
 |true=>
  obtain⟨r,h⟩:∃r,rem=v++u++r:=by simpa[fU]using h
  exact Or.inl ⟨u++r,by rw[h,mN],by simp[fU]⟩
 |false=>
  obtain⟨s,hs,h⟩:∃s,s≠[]∧rem++s=v++u:=by simpa[fU]using h
  rcases append_eq_append_iff.1 h with⟨a,aP,ba⟩|⟨c,aP,ba⟩
  ·by_cases aU:a=[]
   ·subst aU
    refine Or.inl ⟨[],by simpa using aP.symm,?_⟩;simp only[fU];exact⟨s,hs,by simpa using ba⟩
   ·exact Or.inr ⟨rfl,a,aU,aP.symm⟩
  ·refine Or.inl ⟨c,aP,?_⟩
   simp only[fU];exact⟨s,hs,ba.symm⟩
theorem Qj (h:t.drop a=v++rem):t.drop (a+v.length)=rem:=by
 rw[<-drop_drop,h,drop_left]
theorem agY {k:Int}(hs:s≠[])(h:rem++s=ec k):∀c,c∈rem->c≠32:=by
 intro c aA;unfold ec at h;rcases append_eq_append_iff.1 h with⟨a,aP,ba⟩|⟨b,aP,ba⟩
 ·refine Nu k c ?_
  rw[aP];simp[aA]
 ·cases b with
  |nil=>refine Nu k c ?_;rw[qu]at aP;rw[<-aP];exact aA
  |cons x b=>
   rw[yo]at ba;injection ba with _ ba
   have:=(append_eq_nil_iff.1 ba.symm).2;exact absurd this hs
def Ends (w:World)(ak n:Nat)(t:ByteArray)(m:Bool)(cf:Nat)(u:List UInt8)(v:Value)(e:Ending)(w':World):Prop:=
 Touch (fun q=>q=ak) w w'∧((e= .returned v∧ga w' ak n t cf∧fU m (t.data.toList.drop cf) u)∨(m=false∧e=fault))
theorem GX (w:World)(ak n:Nat)(t:ByteArray)(a:Nat)(e_ aq k:Int)(m:Bool)(u:List UInt8)(h:ga w ak n t a)(au:fU m (t.data.toList.drop a) (ec k++u))(aS: -9223372036854775808<=k)(h1:k<=9223372036854775807)(nY:e_<=k)(Ck:k<=aq)(al:fI w):
  Calls prog 161 #[bl ak,I e_,I aq] w (Ends w ak n t m (a+(ec k).length) u (I k)):=by
 rcases Tu au with⟨EX,e,aJ⟩|⟨hm,s,hs,e⟩
 ·refine(amR w ak n t a e_ aq k EX h e aS h1 nY Ck al).mono ?_
  rintro dI w' ⟨rfl,q1,dy⟩;exact⟨dy,Or.inl ⟨rfl,q1,by rw[Qj e];exact aJ⟩⟩
 ·refine(amQ w ak n t a e_ aq h (agY hs e)).mono ?_
  rintro dI w' ⟨rfl,q⟩;exact⟨q,Or.inr ⟨hm,rfl⟩⟩
theorem TW (w:World)(ak n:Nat)(t:ByteArray)(a k:Nat)(v:List UInt8)(m:Bool)(u:List UInt8)(h:ga w ak n t a)(av:v.length=k)(au:fU m (t.data.toList.drop a) (v++u)):
  Calls prog 160 #[bl ak,I k] w (Ends w ak n t m (a+k) u (ai ⟨v.toArray⟩)):=by
 have hlen:(t.data.toList.drop a).length=t.size-a:=by simp
 rcases Tu au with⟨EX,e,aJ⟩|⟨hm,s,hs,e⟩
 ·have aC:a+k<=t.size:=by
   rw[e,eN,av]at hlen;have:=h.le;omega
  refine(E1 w ak n t a k h aC).mono ?_;rintro dI w' ⟨rfl,q1,dy⟩;refine⟨dy,Or.inl ⟨?_,q1,by rw[<-av,Qj e];exact aJ⟩⟩;rw[F5,e,show a+k-a=v.length by omega,take_left]
 ·refine(acQ w ak n t a k h ?_).mono ?_
  ·have:(t.data.toList.drop a).length+s.length=v.length:=by rw[<-e];simp
   have sw:=length_pos_iff.2 hs;have:=h.le;omega
  ·rintro dI w' ⟨rfl,q⟩
   exact⟨Touch.dh q,Or.inr ⟨hm,rfl⟩⟩
theorem aqb (l:List Int)(k:Nat)(hk:k<l.length):(eZ (l.take (k+1))).length=(eZ (l.take k)).length+(ec l[k]).length:=by
 rw[adh hk,eN]
theorem aqa (l:List Int)(k:Nat)(hk:k<l.length):eZ (l.drop k)=ec l[k]++eZ (l.drop (k+1)):=by
 unfold eZ;rw[drop_eq_getElem_cons hk,kf]
theorem ap_ (l:List Int)(k:Nat)(hk:k<l.length)(cS:k<5):(bJ (l.take k)).cells.set k (I l[k])=(bJ (l.take (k+1))).cells:=by
 have aM:∀j,j<k->(l.take (k+1)).getD j 0=(l.take k).getD j 0:=fun j af=>by
  simp[getD,show j<k+1 by omega,af]
 have e7:(l.take (k+1)).getD k 0=l[k]:=by simp[getD,hk]
 have cF:∀j,k<j->(l.take (k+1)).getD j 0=0:=fun j af=>yT (by simp;omega)
 have o6:∀j,k<j->(l.take k).getD j 0=0:=fun j af=>yT (by simp;omega)
 simp only[bJ];have:k=0∨k=1∨k=2∨k=3∨k=4:=by omega
 rcases this with rfl|rfl|rfl|rfl|rfl
 ·rw[e7,cF 1 (by omega),cF 2 (by omega),cF 3 (by omega),cF 4 (by omega),o6 1 (by omega),o6 2 (by omega),o6 3 (by omega),o6 4 (by omega)];rfl
 ·rw[e7,aM 0 (by omega),cF 2 (by omega),cF 3 (by omega),cF 4 (by omega),o6 2 (by omega),o6 3 (by omega),o6 4 (by omega)];rfl
 ·rw[e7,aM 0 (by omega),aM 1 (by omega),cF 3 (by omega),cF 4 (by omega),o6 3 (by omega),o6 4 (by omega)];rfl
 ·rw[e7,aM 0 (by omega),aM 1 (by omega),aM 2 (by omega),cF 4 (by omega),o6 4 (by omega)];rfl
 ·rw[e7,aM 0 (by omega),aM 1 (by omega),aM 2 (by omega),aM 3 (by omega)];rfl
structure FN (w:World)(ak:Nat)(t:ByteArray)(a:Nat)(l:List Int)(gy:aW)(m:Bool)(u:List UInt8)(k:Nat)(wr:World):Prop where
 rd:ga wr ak l.length t (a+(eZ (l.take k)).length)
 rem:fU m (t.data.toList.drop (a+(eZ (l.take k)).length)) (eZ (l.drop k)++u)
 e2:Touch (fun q=>q=ak) w wr
 dc:aQ wr w.heap.size gy.cells 104
 bT:aQ wr (w.heap.size+1) [I 0,I 0,I 0,I 0,I 0] 104
 c6:aQ wr (w.heap.size+1+1) (bJ (l.take k)).cells 104
theorem FN.step {w:World}{ak:Nat}{t:ByteArray}{a:Nat}{l:List Int}{gy:aW}{m:Bool}{u:List UInt8}{k:Nat}{wr w2:World}(h:FN w ak t a l gy m u k wr)(il:ak<w.heap.size)(hk:k<l.length)(cS:k<5)(T:Touch (fun q=>q=ak) wr w2)(b_:ga w2 ak l.length t (a+(eZ (l.take k)).length+(ec l[k]).length))(dy:fU m (t.data.toList.drop (a+(eZ (l.take k)).length+(ec l[k]).length)) (eZ (l.drop (k+1))++u)):
  FN w ak t a l gy m u (k+1) (w2.setCell (aa (w.heap.size+1+1) k) (I l[k])):=by
 have e:a+(eZ (l.take (k+1))).length=a+(eZ (l.take k)).length+(ec l[k]).length:=by rw[aqb l k hk];omega
 have c6:=h.c6.ay T (by omega);refine⟨?_,by rw[e];exact dy,(h.e2.then T).setCell (Or.inr (by show w.heap.size<=w.heap.size+1+1;omega)) _,(h.dc.ay T (by omega)).other (by show w.heap.size≠w.heap.size+1+1;omega) _,(h.bT.ay T (by omega)).other (by show w.heap.size+1≠w.heap.size+1+1;omega) _,by rw[<-ap_ l k hk cS];exact c6.set k _⟩;rw[e];exact⟨b_.U.other (by show ak≠w.heap.size+1+1;omega) _,b_.le,b_.sm,b_.hi⟩
abbrev ET (w:World)(b:Nat)(v:aW):World:=((((w.setCell ⟨b,0,none⟩ (.int .i64 v.a)).setCell ⟨b,1,none⟩ (.int .i64 v.b)).setCell ⟨b,2,none⟩ (.int .i64 v.c)).setCell ⟨b,3,none⟩ (.int .i64 v.d)).setCell ⟨b,4,none⟩ (.int .i64 v.e)
theorem Kt {t:TypeId}(v:aW)(h:aQ w b [c8,dr,en,d_,ev] t):aQ (ET w b v) b v.cells t:=
 ((((h.set 0 _).set 1 _).set 2 _).set 3 _).set 4 _
theorem Ku (w:World)(b:Nat)(v:aW):Touch (fun q=>q=b) w (ET w b v):=
 (((((Touch.refl (fun q=>q=b) w).setCell (p:=(aa b 0)) (Or.inl rfl) _).setCell (p:=(aa b 1)) (Or.inl rfl) _).setCell (p:=(aa b 2)) (Or.inl rfl) _).setCell (p:=(aa b 3)) (Or.inl rfl) _).setCell (p:=(aa b 4)) (Or.inl rfl) _
theorem aff {t:ByteArray}{l:List Int}{gy:aW}:FN w ak t a l gy m u l.length wr↔(ga wr ak l.length t (a+(eZ l).length)∧fU m (t.data.toList.drop (a+(eZ l).length)) u∧Touch (fun q=>q=ak) w wr∧aQ wr w.heap.size gy.cells 104∧aQ wr (w.heap.size+1) [I 0,I 0,I 0,I 0,I 0] 104∧aQ wr (w.heap.size+1+1) (bJ l).cells 104):=by
 constructor
 ·rintro ⟨h1,ae,aH,bd,cS,ep⟩
  rw[tI]at h1 ae ep;rw[drop_length]at ae;exact⟨h1,by simpa[eZ]using ae,aH,bd,cS,ep⟩
 ·rintro ⟨h1,ae,aH,bd,cS,ep⟩
  refine⟨by rw[tI];exact h1,?_,aH,bd,cS,by rw[tI];exact ep⟩;rw[tI,drop_length];simpa[eZ]using ae
theorem T9 (w:World)(ak n:Nat)(t:ByteArray)(a:Nat)(l:List Int)(gy:aW)(m:Bool)(u:List UInt8)(h:ga w ak n t a)(hn:n<=5)(aC:l.length=n)(au:fU m (t.data.toList.drop a) (eZ l++u))(qb:∀k (hk:k<l.length),0<=l[k]∧l[k]<=gy.list.getD k 0∧l[k]<=9223372036854775807)(al:fI w):
  Calls prog 162 #[bl ak,gy.val] w (Ends w ak n t m (a+(eZ l).length) u (bJ l).val):=by
 subst aC;generalize bj:((w.alloc (.cells #[I gy.a,I gy.b,I gy.c,I gy.d,I gy.e] 104)).alloc (.cells #[I 0,I 0,I 0,I 0,I 0] 104)).alloc (.cells #[I 0,I 0,I 0,I 0,I 0] 104)=W0;have bp:ax w W0:=by rw[<-bj];exact(((cj _ _)).alloc (by simp) _).alloc (by simp;omega) _
 have dc:aQ W0 w.heap.size gy.cells 104:=by
  rw[<-bj];exact(aQ.alloc (aQ.alloc (cC w _) _) _)
 have bT:aQ W0 (w.heap.size+1) [I 0,I 0,I 0,I 0,I 0] 104:=by
  rw[<-bj,show w.heap.size+1=(w.alloc (.cells #[I gy.a,I gy.b,I gy.c,I gy.d,I gy.e] 104)).heap.size by simp];exact aQ.alloc (cC _ _) _
 have c6:aQ W0 (w.heap.size+1+1) [I 0,I 0,I 0,I 0,I 0] 104:=by
  rw[<-bj,show w.heap.size+1+1=((w.alloc (.cells #[I gy.a,I gy.b,I gy.c,I gy.d,I gy.e] 104)).alloc (.cells #[I 0,I 0,I 0,I 0,I 0] 104)).heap.size by simp];exact cC _ _
 have aS:=h.later bp;have c0:=aS.U.c0;have il:=h.U.lt;have aO:=J h;have cm:=J au;have di:=J bj;have aL:=J (⟨bp,dc,bT,c6,aS⟩:_∧_∧_∧_∧_);clear h au bj bp dc bT c6 aS;go_enter func162,ntmps162;go_upto_region 2 with(fail);rw[di.o];clear di;have ff:Hid (FN w ak t a l gy m u 0 W0):=⟨by simpa[eZ]using aL.o.2.2.2.2,by simpa[eZ]using cm.o,Touch.dh aL.o.1,aL.o.2.1,aL.o.2.2.1,aL.o.2.2.2.1⟩;clear aL;go_wp2_with fail
 go_loopw[6,11] (fun _ i wr=>∃k:Nat,k<=l.length∧i=I k∧Hid (FN w ak t a l gy m u k wr)) (fun _ i _=>l.length-(intOf i).toNat)
 case atStart=>exact⟨0,ch,rfl,ff.o⟩
 case round=>
  clear ff c0;obtain⟨k,hk,rfl,aL⟩:=hrel;by_cases br:k<l.length
  ·have cS:k<5:=by omega
   have Rv:k<gy.list.length:=by simp[aW.list];omega
   have rI:=qb k br;have arz:wr.cell? (aa (w.heap.size) k)=some (I (gy.list.getD k 0)):=by
    rw[aL.o.dc.cell k];have:k=0∨k=1∨k=2∨k=3∨k=4:=by omega
    rcases this with rfl|rfl|rfl|rfl|rfl<;>rfl
   have aJ:=aL.o.rem;rw[aqa l k br,mN]at aJ;have cp:=J (GX wr ak l.length t _ 0 (gy.list.getD k 0) l[k] m _ aL.o.rd aJ (by omega) (by omega) rI.1 rI.2.1 (aO.o.ke al aL.o.e2));have er:=J (fun(w2:World)=>aL.o.step (w2:=w2) il br cS);clear aJ rI;generalize gy.list.getD k 0=mk at*;generalize l[k]=AY at*;go_wp2_with(go_at_call 161;refine cp.o.mono ?_;rintro e w2 ⟨eD,⟨rfl,ae,b_⟩|⟨hm,rfl⟩⟩<;>refine gE ?_)
   all_goals refine Lib.hid ?_
   ·have Lt:=J (er.o w2 eD ae b_)
    have c6:=aL.o.c6.ay eD (by omega);have f2:=c6.frozen k;have c2:∃x,w2.cell? (aa (w.heap.size+1+1) k)=some x:=by
     rw[c6.cell k];have:k=0∨k=1∨k=2∨k=3∨k=4:=by omega
     rcases this with rfl|rfl|rfl|rfl|rfl<;>exact⟨_,rfl⟩
    obtain⟨en,c2⟩:=c2;have g1:(k:Int)<5:=by omega
    clear c6 eD ae b_ cp er;go_wp2_with fail
    exact⟨⟨k+1,by omega,by go_num,Lt.o⟩,by simp[intOf];omega⟩
   ·exact⟨rfl,aL.o.e2.then eD,Or.inr ⟨hm,rfl⟩⟩
  ·have iA:k=l.length:=by omega
   subst iA;have dJ:=aL.o;rw[aff]at dJ;obtain⟨o2,y8,Zy,iQ,eA,e6⟩:=dJ;have d0:=e6.c0;have d1:=e6.c1;have d2:=e6.c2;have d3:=e6.c3;have d4:=e6.c4;have eE:=eA.c0;have cB:=eA.c1;have b_:=eA.c2;have dW:=eA.c3;have iw:=eA.c4;have eY:=eA.frozen 0;have q1:=eA.frozen 1;have dy:=eA.frozen 2;have fE:=eA.frozen 3;have hf:=eA.frozen 4;have cz:=J (⟨o2,y8,Zy,eA⟩:_∧_∧_∧_);clear o2 y8 Zy iQ eA e6 aL;go_wp2_with fail
   have cJ:=Kt (bJ l) cz.o.2.2.2;have eO:=Ku wr (w.heap.size+1) (bJ l);unfold ET at cJ eO;generalize World.setCell _ _ _=fY at*;have cY:=cJ.c0;have s1:=cJ.c1;have s2:=cJ.c2;have fX:=cJ.c3;have hI:=cJ.c4;refine iX (v:=(bJ l).val) (by simp[results,results162,go_sem,cY,s1,s2,fX,hI]) rfl ⟨cz.o.2.2.1.trans (eO.mono fun q _ e=>Or.inr (by omega)),Or.inl ⟨rfl,?_,cz.o.2.1⟩⟩;exact⟨cz.o.1.U.ay eO (by omega),cz.o.1.le,cz.o.1.sm,cz.o.1.hi⟩
abbrev lM:Int:=1844674407370955161
theorem Qe (w:World){b:Bool}(h:b=true):Calls prog 159 #[.bool b] w (bx (.tuple #[]) fun w'=>w'=w):=by subst h;exact Al w
def mostCells (k:Nat):List Value:=replicate k (I lM)++replicate (5-k) (I 0)
theorem aaJ {k:Nat}(hk:k<5):(mostCells k).set k (I lM)=mostCells (k+1)∧(mostCells k)[k]?=some (I 0):=by
 have:k=0∨k=1∨k=2∨k=3∨k=4:=by omega
 rcases this with rfl|rfl|rfl|rfl|rfl<;>exact⟨rfl,rfl⟩
abbrev A4 (w:World)(b:Nat)(i:Int)(v:aW):World:=(((((w.setCell ⟨b,0,none⟩ (.int .i64 i)).setCell ⟨b,1,none⟩ (.int .i64 v.a)).setCell ⟨b,2,none⟩ (.int .i64 v.b)).setCell ⟨b,3,none⟩ (.int .i64 v.c)).setCell ⟨b,4,none⟩ (.int .i64 v.d)).setCell ⟨b,5,none⟩ (.int .i64 v.e)
theorem N6 {gv:Value}{t:TypeId}(i:Int)(v:aW)(h:aQ w b [c8,dr,en,d_,ev,gv] t):aQ (A4 w b i v) b [I i,I v.a,I v.b,I v.c,I v.d,I v.e] t:=
 (((((h.set 0 _).set 1 _).set 2 _).set 3 _).set 4 _).set 5 _
theorem Kv (w:World)(b:Nat)(i:Int)(v:aW):Touch (fun q=>q=b) w (A4 w b i v):=
 ((((((Touch.refl (fun q=>q=b) w).setCell (p:=(aa b 0)) (Or.inl rfl) _).setCell (p:=(aa b 1)) (Or.inl rfl) _).setCell (p:=(aa b 2)) (Or.inl rfl) _).setCell (p:=(aa b 3)) (Or.inl rfl) _).setCell (p:=(aa b 4)) (Or.inl rfl) _).setCell (p:=(aa b 5)) (Or.inl rfl) _
structure yE (w:World)(ak n:Nat)(t:ByteArray)(m:Bool)(cf:Nat)(u:List UInt8)(wr:World):Prop where
 rd:ga wr ak n t cf
 rem:fU m (t.data.toList.drop cf) u
 e2:Touch (fun q=>q=ak) w wr
 dc:aQ wr w.heap.size [I 0,I 0,I 0,I 0,I 0,I 0] 144
theorem yE.step {w:World}{ak n:Nat}{t:ByteArray}{m:Bool}{cf a2:Nat}{u u2:List UInt8}{wr w2:World}(h:yE w ak n t m cf u wr)(il:ak<w.heap.size)(T:Touch (fun q=>q=ak) wr w2)(r:ga w2 ak n t a2)(q:fU m (t.data.toList.drop a2) u2):yE w ak n t m a2 u2 w2:=
 ⟨r,q,h.e2.then T,h.dc.ay T (by omega)⟩
theorem yE.later {n:Nat}{t:ByteArray}{cf:Nat}(h:yE w ak n t m cf u wr)(hb:ax wr w2):yE w ak n t m cf u w2:=
 ⟨h.rd.later hb,h.rem,h.e2.then (Touch.dh hb),h.dc.below hb⟩
theorem Ym (w:World)(ak n:Nat)(t:ByteArray)(a i:Nat)(c:UInt8)(l:List Int)(m:Bool)(u:List UInt8)(h:ga w ak n t a)(hn:n<=5)(aq:i<n)(aC:l.length=n)(au:fU m (t.data.toList.drop a) (iH c n i l++u))(qb:∀k (hk:k<l.length),0<=l[k]∧l[k]<=lM)(al:fI w):
  Calls prog 116 #[bl ak,.int .u8 c.toNat] w (Ends w ak n t m (a+(iH c n i l).length) u (lJ i (bJ l))):=by
 subst aC;generalize bj:w.alloc (.cells #[I 0,I 0,I 0,I 0,I 0,I 0] 144)=W0;have bp:ax w W0:=by rw[<-bj];exact cj _ _
 have il:=h.U.lt;have aS:yE w ak l.length t m a ([c]++(ec l.length++(ec i++(eZ l++u)))) W0:=⟨h.later bp,by simpa[iH]using au,Touch.dh bp,by rw[<-bj];exact cC w _⟩;have cD:=J (TW W0 ak l.length t a 1 [c] m _ aS.rd rfl aS.rem);have aO:=J h;have fk:=J aS;have di:=J bj;clear h au bj bp aS;go_enter func116,ntmps116;go_wp2_with(go_at_call 160;rw[di.o];refine cD.o.mono ?_;rintro e w2 ⟨eD,⟨rfl,ae,b_⟩|⟨hm,rfl⟩⟩<;>refine gE ?_)
 all_goals refine Lib.hid ?_
 rotate_left
 ·exact⟨rfl,fk.o.e2.then eD,Or.inr ⟨by first|exact hm|rfl,rfl⟩⟩
 have bu:=J (fk.o.step il eD ae b_);clear eD ae b_ cD di fk;go_wp2_with(go_at_call 159;refine(Qe _ (by show((c.toNat:Int)==(c.toNat:Int))=true;simp)).mono ?_;rintro e w2 ⟨rfl,rfl⟩)
 have xA:∀f:dO (aR w2),f.w.cell? (aa ak 0)=some (I l.length):=aR.cell (bu.o.rd.U.cell 0);refine kd (aR w2) 9 (by kernel_rfl) (by kernel_rfl) (cE).drew ?_;simp only[jC,ju,j4,jR];repeat(go_big_quiet_step (fail))
 refine gG ?_;intro _ ds;obtain⟨fq,rfl⟩:=ds;have Fq:=J (bu.o.later fq.ok);generalize fq.w=adr at*;have cp:=J (GX adr ak l.length t _ l.length l.length l.length m _ Fq.o.rd Fq.o.rem (by omega) (by omega) (re _) (re _) (aO.o.ke al Fq.o.e2));clear xA bu;go_wp2_with(go_at_call 161;refine cp.o.mono ?_;rintro e bN ⟨lE,⟨rfl,aH,dW⟩|⟨hm,rfl⟩⟩<;>refine gE ?_)
 all_goals refine Lib.hid ?_
 rotate_left
 ·exact⟨rfl,Fq.o.e2.then lE,Or.inr ⟨by first|exact hm|rfl,rfl⟩⟩
 have ck:=J (Fq.o.step il lE aH dW);clear lE aH dW cp Fq;have c3:=ck.o.rd.U.c0;have cp:=J (GX bN ak l.length t _ 0 (l.length-1) i m _ ck.o.rd ck.o.rem (by omega) (by omega) (by omega) (by omega) (aO.o.ke al ck.o.e2));go_wp2_with(go_at_call 161;refine cp.o.mono ?_;rintro e cc ⟨j7,⟨rfl,bd,iw⟩|⟨hm,rfl⟩⟩<;>refine gE ?_)
 all_goals refine Lib.hid ?_
 rotate_left
 ·exact⟨rfl,ck.o.e2.then j7,Or.inr ⟨by first|exact hm|rfl,rfl⟩⟩
 have cd:=J (ck.o.step il j7 bd iw);clear j7 bd iw cp ck c3;go_wp2_with fail
 have vn:=cd.o.e2.size;have ate:=cd.o.dc.lt;have asY:=cd.o.rd.U.lt;generalize tb:cc.alloc (.cells #[I 0,I 0,I 0,I 0,I 0] 104)=fY;have c7:ax cc fY:=by rw[<-tb];exact cj _ _
 have cR:Hid (yE w ak l.length t m (a+1+(ec l.length).length+(ec i).length) (eZ l++u) fY∧aQ fY cc.heap.size (mostCells 0) 104):=⟨cd.o.later c7,by rw[<-tb];exact cC cc _⟩;clear tb c7 cd;go_loopw[7,31] (fun _ ii wr=>∃k:Nat,k<=5∧ii=I k∧Hid (yE w ak l.length t m (a+1+(ec l.length).length+(ec i).length) (eZ l++u) wr∧aQ wr cc.heap.size (mostCells k) 104)) (fun _ ii _=>5-(intOf ii).toNat)
 case atStart=>exact⟨0,ch,rfl,cR.o⟩
 case round=>
  clear cR;obtain⟨k,hk,rfl,aL⟩:=hrel;by_cases br:k<5
  ·have c5:wr.cell? (aa (cc.heap.size) k)=some (I 0):=by rw[aL.o.2.cell k];exact(aaJ br).2
   have f5:=aL.o.2.frozen k;have g1:(k:Int)<5:=by omega
   have cp:Hid (yE w ak l.length t m (a+1+(ec l.length).length+(ec i).length) (eZ l++u) (wr.setCell (aa (cc.heap.size) k) (I lM))∧aQ (wr.setCell (aa (cc.heap.size) k) (I lM)) cc.heap.size (mostCells (k+1)) 104):=by
    obtain⟨⟨q1,dy,fE,hf⟩,nG⟩:=aL.o;refine⟨⟨⟨q1.U.other (by show ak≠cc.heap.size;omega) _,q1.le,q1.sm,q1.hi⟩,dy,fE.setCell (Or.inr (by show w.heap.size<=cc.heap.size;omega)) _,hf.other (by show w.heap.size≠cc.heap.size;omega) _⟩,?_⟩;rw[<-(aaJ br).1];exact nG.set k _
   go_wp2_with fail
   exact⟨⟨k+1,by omega,by go_num,cp.o⟩,by simp[intOf];omega⟩
  ·have kT:k=5:=by omega
   subst kT;have d0:=aL.o.2.c0;have d1:=aL.o.2.c1;have d2:=aL.o.2.c2;have d3:=aL.o.2.c3;have d4:=aL.o.2.c4;have ff:=J (T9 wr ak l.length t _ l ⟨lM,lM,lM,lM,lM⟩ m u aL.o.1.rd hn rfl aL.o.1.rem (fun k hk=>by
    have h1:=qb k hk;have:k=0∨k=1∨k=2∨k=3∨k=4:=by omega
    refine⟨h1.1,?_,vC h1.2 (by decide)⟩;rcases this with rfl|rfl|rfl|rfl|rfl<;>exact h1.2) (aO.o.ke al aL.o.1.e2))
   go_wp2_with(go_at_call 162;refine ff.o.mono ?_;rintro e eS ⟨DK,⟨rfl,ep,EW⟩|⟨hm,rfl⟩⟩<;>refine gE ?_)
   all_goals refine Lib.hid ?_
   rotate_left
   ·exact⟨rfl,aL.o.1.e2.then DK,Or.inr ⟨by first|exact hm|rfl,rfl⟩⟩
   have dL:=J (aL.o.1.step il DK ep EW);clear DK ep EW ff aL d0 d1 d2 d3 d4;have eE:=dL.o.dc.c0;have cB:=dL.o.dc.c1;have b_:=dL.o.dc.c2;have dW:=dL.o.dc.c3;have iw:=dL.o.dc.c4;have ql:=dL.o.dc.c5;have eY:=dL.o.dc.frozen 0;have q1:=dL.o.dc.frozen 1;have dy:=dL.o.dc.frozen 2;have fE:=dL.o.dc.frozen 3;have hf:=dL.o.dc.frozen 4;have nG:=dL.o.dc.frozen 5;go_wp2_with fail
   have cJ:=N6 i (bJ l) dL.o.dc;have eO:=Kv eS w.heap.size i (bJ l);unfold A4 at cJ eO;generalize World.setCell _ _ _=jT at*;have cY:=cJ.c0;have s1:=cJ.c1;have s2:=cJ.c2;have fX:=cJ.c3;have hI:=cJ.c4;have sG:=cJ.c5;have aU:a+(iH c l.length i l).length=a+1+(ec l.length).length+(ec i).length+(eZ l).length:=by
    simp only[iH,lP,eN];omega
   refine iX (v:=lJ i (bJ l)) (by simp[results,results116,go_sem,cY,s1,s2,fX,hI,sG]) rfl ⟨dL.o.e2.trans (eO.mono fun q _ e=>Or.inr (by omega)),Or.inl ⟨rfl,?_,by rw[aU];exact dL.o.rem⟩⟩;rw[aU];exact⟨dL.o.rd.U.ay eO (by omega),dL.o.rd.le,dL.o.rd.sm,dL.o.rd.hi⟩
theorem ahG (t:ByteArray)(a:Nat)(s:List UInt8):((t.extract a t.size).toList==s)=decide (t.data.toList.drop a=s):=by
 rw[Bool.eq_iff_iff,beq_iff_eq,mo,Fh,F6,lQ (by simp)]
theorem abL (w:World)(ak n:Nat)(t:ByteArray)(a:Nat)(h:ga w ak n t a)(al:fI w):
  Calls prog 117 #[bl ak] w fun e w'=>ax w w'∧((t.data.toList.drop a=q4 (t.data.toList.take a)∧e= .returned (.tuple #[]))∨(¬t.data.toList.drop a=q4 (t.data.toList.take a)∧e=fault)):=by
 have c1:∀f:dO (aR w),f.w.cell? (aa ak 1)=some (ai t):=aR.cell (h.U.cell 1);have c2:∀f:dO (aR w),f.w.cell? (aa ak 2)=some (I a):=aR.cell (h.U.cell 2);have hle:=h.le;have n_:=h.sm;have hs:∀f:dO (aR w),Calls prog 158 #[ai (t.extract 0 a)] f.w fun e fv=>e= .returned (ai ⟨(q4 (t.data.toList.take a)).toArray⟩)∧∃g:dO (aR w),fv=g.w:=fun f=>aR.call f (by
  have e:(t.extract 0 a).data.toList=t.data.toList.take a:=by rw[F6];simp
  have:=acf f.w (t.extract 0 a) (by
   have:(t.extract 0 a).size=(t.data.toList.take a).length:=by rw[<-e];simp
   rw[this,ng];omega) (al.later f.ok).FX
  rwa [e]at this)
 have dj:=J hs;clear hs h al;go_enter func117,ntmps117;go_wp2_with fail
 refine kd (aR w) 20 (by kernel_rfl) (by kernel_rfl) (cE).drew ?_;simp only[jC,ju,j4,jR];repeat(go_big_quiet_step (first|(go_at_call 158;exact dj.o _)))
 refine gG ?_;intro _ ds;obtain⟨fq,rfl⟩:=ds;have bO:=cy fq.ok;generalize fq.w=an at*;clear c1 c2;have ME:=ahG t a (q4 (t.data.toList.take a));generalize ((t.extract a t.size).toList==q4 (t.data.toList.take a))=LY at*;by_cases aB:t.data.toList.drop a=q4 (t.data.toList.take a)
 ·rw[yu aB]at ME
  have bn:=J aB;clear aB;subst ME;go_wp2_with(go_at_call 159;refine(Al _).mono ?_;rintro e w2 ⟨rfl,rfl⟩)
  go_end0;exact⟨bO.o,Or.inl ⟨bn.o,rfl⟩⟩
 ·rw[vG aB]at ME
  have bn:=J aB;clear aB;subst ME;go_wp2_with(go_at_call 159;refine(Mi _).mono ?_;rintro e w2 ⟨rfl,rfl⟩)
  exact⟨rfl,bO.o,Or.inr ⟨bn.o,rfl⟩⟩
theorem qH {B:Nat}{bR:World}(h:Below B w bR)(T:Touch (fun q=>q=ak) bR w2)(ao:B<=ak)(hs:B<=bR.heap.size):Below B w w2:=
 ⟨T.os.trans h.os,T.tape.trans h.tape,T.output.trans h.output,fx h.size T.size,fun k hk=>(T.block k (by omega) (by omega)).trans (h.block k hk)⟩
theorem ab0 (h:fU m t v)(aC:v.length<=t.length):∃r,t=v++r:=by
 cases m with
 |true=>simpa[fU]using h
 |false=>
  obtain⟨s,hs,e⟩:∃s,s≠[]∧t++s=v:=by simpa[fU]using h
  have:=congrArg length e;have ae:=length_pos_iff.2 hs;rw[eN]at this;omega
theorem Tt (h:fU false t v):¬t=v++s:=by
 obtain⟨r,aJ,e⟩:∃r,r≠[]∧t++r=v:=by simpa[fU]using h
 intro ba;have h1:=congrArg length e;have ae:=congrArg length ba;have aH:=length_pos_iff.2 aJ;rw[eN]at h1 ae;omega
theorem an6 (w:World)(n i:Nat)(t:ByteArray)(l:List Int)(m:Bool)(hn:n<=5)(aq:i<n)(aC:l.length=n)(hs:t.size<=200000000000)(au:fU m t.data.toList (iH 115 n i l))(qb:∀k (hk:k<l.length),0<=l[k]∧l[k]<=lM)(al:fI w):
  Calls prog 75 #[ai t,I n] w fun e w'=>ax w w'∧((t.data.toList=nK n i l∧e= .returned (lJ i (bJ l)))∨(¬t.data.toList=nK n i l∧e=fault)):=by
 generalize dE:(w.alloc (.cells #[I 0,I 0,I 0,I 0,I 0,I 0] 144)).alloc (.cells #[I n,ai t,I 0] 199)=bR;have aF:ax w bR:=by rw[<-dE];exact((cj _ _)).alloc (by simp) _
 have dc:aQ bR w.heap.size [I 0,I 0,I 0,I 0,I 0,I 0] 144:=by
  rw[<-dE];exact aQ.alloc (cC w _) _
 have aJ:ga bR (w.heap.size+1) n t 0:=by
  refine⟨?_,ch,hs,by have:=al.room;omega⟩;rw[<-dE,show w.heap.size+1=(w.alloc (.cells #[I 0,I 0,I 0,I 0,I 0,I 0] 144)).heap.size by simp];exact cC _ _
 have dQ:=Ym bR (w.heap.size+1) n t 0 i 115 l m [] aJ hn aq aC (by simpa using au) qb (al.later aF);rw[show((115:UInt8).toNat:Int)=115 from rfl,vF]at dQ;have cD:=J dQ;have aL:=J (⟨aF,dc,aJ⟩:_∧_∧_);have ic:=J dE;have cm:=J au;have dA:=J al;have fb:t.data.toList.length=t.size:=by simp
 clear dE aF dc aJ dQ au al qb;go_enter func75,ntmps75;go_wp2_with(go_at_call 116;rw[ic.o];refine cD.o.mono ?_;rintro e w2 ⟨eD,⟨rfl,ae,b_⟩|⟨hm,rfl⟩⟩<;>refine gE ?_)
 all_goals refine Lib.hid ?_
 rotate_left
 ·refine⟨rfl,qH aL.o.1 eD (by omega) aL.o.1.size,Or.inr ⟨?_,rfl⟩⟩
  have au:=cm.o;rw[hm]at au;exact Tt au
 obtain⟨r,aJ⟩:=ab0 cm.o (by rw[fb];exact ae.le);have bP:=qH aL.o.1 eD (by omega) aL.o.1.size;have rK:t.data.toList.take (iH 115 n i l).length=iH 115 n i l:=by rw[aJ,take_left]
 have uk:t.data.toList.drop (iH 115 n i l).length=r:=by rw[aJ,drop_left]
 generalize fg:w2.alloc (.cells #[I i,I (bJ l).a,I (bJ l).b,I (bJ l).c,I (bJ l).d,I (bJ l).e] 144)=W2;have se:ax w2 W2:=by rw[<-fg];exact cj _ _
 have Y3:=(aL.o.2.1.ay eD (by omega)).lt;have vU:aQ W2 w2.heap.size [I i,I (bJ l).a,I (bJ l).b,I (bJ l).c,I (bJ l).d,I (bJ l).e] 144:=by rw[<-fg];exact cC w2 _
 have b0:=bP.trans (se.mono (Dd Y3));have he:=abL W2 (w.heap.size+1) n t _ (ae.later se) (dA.o.later b0);rw[rK,uk]at he;have bX:=J he;have bc:=J aJ;have dG:=J b0;have c6:=(aL.o.2.1.ay eD (by omega)).below se;have UC:=J c6;have UB:=J vU;have pZ:=J fg;clear ae b_ eD cD ic cm rK uk he aJ bP c6 se b0 fg vU;go_wp2_with(go_at_call 117;rw[pZ.o];refine bX.o.mono ?_;rintro e bN ⟨e0,⟨aB,rfl⟩|⟨aB,rfl⟩⟩<;>refine gE ?_)
 all_goals refine Lib.hid ?_
 rotate_left
 ·refine⟨rfl,dG.o.trans (e0.mono dG.o.size),Or.inr ⟨fun e=>aB ?_,rfl⟩⟩
  have ba:=bc.o;rw[e]at ba;exact(append_cancel_left ba).symm
 have bn:=J aB;have tW:=UC.o.below e0;have jG:Hid (ax w bN∧aQ bN w.heap.size [I 0,I 0,I 0,I 0,I 0,I 0] 144):=⟨dG.o.trans (e0.mono dG.o.size),tW⟩;have eE:=tW.c0;have cB:=tW.c1;have b_:=tW.c2;have dW:=tW.c3;have iw:=tW.c4;have ql:=tW.c5;have eY:=tW.frozen 0;have q1:=tW.frozen 1;have dy:=tW.frozen 2;have fE:=tW.frozen 3;have hf:=tW.frozen 4;have nG:=tW.frozen 5;have DN:=UB.o.below e0;have d0:=DN.c0;have d1:=DN.c1;have d2:=DN.c2;have d3:=DN.c3;have d4:=DN.c4;have d5:=DN.c5;clear aB e0 tW bX UC dG pZ DN UB;go_wp2_with fail
 have cJ:=N6 i (bJ l) jG.o.2;have eO:=Kv bN w.heap.size i (bJ l);unfold A4 at cJ eO;generalize World.setCell _ _ _=jT at*;have cY:=cJ.c0;have s1:=cJ.c1;have s2:=cJ.c2;have fX:=cJ.c3;have hI:=cJ.c4;have sG:=cJ.c5;refine iX (v:=lJ i (bJ l)) (by simp[results,results75,go_sem,cY,s1,s2,fX,hI,sG]) rfl ⟨qH jG.o.1 eO cv jG.o.1.size,Or.inl ⟨?_,rfl⟩⟩;rw[bc.o,bn.o];rfl
theorem VA (W:World):(Instr.typeAssert (.iface 196 (.agg #[])) 20 196 true).run prog W= .ok (.tuple #[.agg #[],.bool true]) W:=by kernel_rfl
theorem agp (b6:Nat)(x:Int)(w:World)(aA:eh w b6 0 (I x))(cF:w.frozen? (aa b6 0)=false):
  CallsD prog 115 #[bl b6] (.panicking ({v:= .iface 196 (.agg #[]),recovered:=false}::[])) w fun e gD w'=>
   e= .returned (.tuple #[])∧gD= .panicking ({v:= .iface 196 (.agg #[]),recovered:=true}::[])∧w'=(w.alloc (.cells #[] 196)).setCell (aa b6 0) (I 6):=by
 refine callsD_of_wpS func115 rfl fun DS cs hu=>?_
 apply wpS_seq;apply wpS_region;simp[wpOpsS,go_sem,recoverD,hu,ntmps115,Exit.thenS];refine wpS_of_wp ?_;change Code.wp _ _ _ {tmps:= #[bl b6,undef,undef,undef,.iface 196 (.agg #[]),undef,undef,undef,undef,undef],defers:=[]} _;have aU:=VA;have br:=hU w _ aA;go_wp2_with fail
 cases DS;simp_all [bodyPostS,results,results115]
theorem agr (b6:Nat)(w:World):
  CallsD prog 115 #[bl b6] .returning w fun e gD w'=>e= .returned (.tuple #[])∧gD= .returning∧w'=w:=by
 refine callsD_of_wpS func115 rfl fun DS cs hu=>?_
 apply wpS_seq;apply wpS_region;simp[wpOpsS,go_sem,recoverD,hu,ntmps115,Exit.thenS];refine wpS_of_wp ?_;change Code.wp _ _ _ {tmps:= #[bl b6,undef,undef,undef,.nilIface,undef,undef,undef,undef,undef],defers:=[]} _;go_wp2_with fail
 cases DS;simp_all [bodyPostS,results,results115]
theorem abR (w:World)(n i:Nat)(t:ByteArray)(v:aW)(P:Prop)(u6:∀W,ax w W->Calls prog 75 #[ai t,I n] W fun e w'=>ax W w'∧((P∧e= .returned (lJ i v))∨(¬P∧e=fault))):
  Calls prog 74 #[.func (.func 75) #[] #[],ai t,I n] w fun e w'=>ax w w'∧((P∧e= .returned (.tuple #[lJ i v,I 0]))∨(¬P∧e= .returned (.tuple #[lJ 0 ⟨0,0,0,0,0⟩,I 6]))):=by
 have Rw:∀(fn:Fn) (first cap:Array Value) (w:World),(Instr.makeFunc fn first cap).run prog w= .ok (.func fn first cap) w:=fun _ _ _ _=>rfl
 generalize dE:(w.alloc (.cells #[I 0,I 0,I 0,I 0,I 0,I 0] 144)).alloc (.cells #[I 0] 54)=bR;have aF:ax w bR:=by rw[<-dE];exact((cj _ _)).alloc (by simp) _
 have dc:aQ bR w.heap.size [I 0,I 0,I 0,I 0,I 0,I 0] 144:=by
  rw[<-dE];exact aQ.alloc (cC w _) _
 have bT:aQ bR (w.heap.size+1) [I 0] 54:=by
  rw[<-dE,show w.heap.size+1=(w.alloc (.cells #[I 0,I 0,I 0,I 0,I 0,I 0] 144)).heap.size by simp];exact cC _ _
 have dj:=J (u6 bR aF);have aL:=J (⟨aF,dc,bT⟩:_∧_∧_);have ic:=J dE;clear u6 dE aF dc bT;go_enter_defers func74,ntmps74
 go_wp2_with(go_at_call 75;rw[ic.o];refine dj.o.mono ?_;rintro e w2 ⟨e6,⟨aB,rfl⟩|⟨aB,rfl⟩⟩<;>refine gE ?_)
 all_goals refine Lib.hid ?_
 ·have bn:=J aB
  have dG:Hid (ax w w2∧aQ w2 w.heap.size [I 0,I 0,I 0,I 0,I 0,I 0] 144∧aQ w2 (w.heap.size+1) [I 0] 54):=⟨aL.o.1.trans (e6.mono aL.o.1.size),aL.o.2.1.below e6,aL.o.2.2.below e6⟩;clear aB e6 dj ic aL;have eE:=dG.o.2.1.c0;have cB:=dG.o.2.1.c1;have b_:=dG.o.2.1.c2;have dW:=dG.o.2.1.c3;have iw:=dG.o.2.1.c4;have ql:=dG.o.2.1.c5;have eY:=dG.o.2.1.frozen 0;have q1:=dG.o.2.1.frozen 1;have dy:=dG.o.2.1.frozen 2;have fE:=dG.o.2.1.frozen 3;have hf:=dG.o.2.1.frozen 4;have nG:=dG.o.2.1.frozen 5;have cY:=dG.o.2.2.c0;have qk:=dG.o.2.2.frozen 0;go_wp2_with fail
  have eO:=Kv w2 w.heap.size i v;have cJ:=(N6 i v dG.o.2.1).other (p:=(aa (w.heap.size+1) 0)) (by show w.heap.size≠w.heap.size+1;omega) (I 0);have qR:=(dG.o.2.2.ay eO (by omega)).set 0 (I 0);have c7:=(qH dG.o.1 eO cv dG.o.1.size).setCell (p:=(aa (w.heap.size+1) 0)) (pU _) (I 0);unfold A4 at cJ qR c7;generalize World.setCell _ _ _=jT at*;have t0:=cJ.c0;have t1:=cJ.c1;have t2:=cJ.c2;have t3:=cJ.c3;have t4:=cJ.c4;have t5:=cJ.c5;have t6:=qR.c0;refine leaves_cons (f:=115) (args:= #[bl (w.heap.size+1)]) (by simp) (by simp[go_sem]) ?_;refine(agr (w.heap.size+1) jT).mono ?_;rintro e gD fv ⟨rfl,rfl,rfl⟩;have l8:ax w fv∧((P∧(Ending.returned (.tuple #[lJ i v,I 0]):Ending)= .returned (.tuple #[lJ i v,I 0]))∨(¬P∧(Ending.returned (.tuple #[lJ i v,I 0]):Ending)= .returned (.tuple #[lJ 0 ⟨0,0,0,0,0⟩,I 6]))):=⟨c7,Or.inl ⟨bn.o,rfl⟩⟩;clear c7 cJ qR eO dG bn;simp only[Leaves,settle];refine⟨_,?_,l8⟩;simp[results,results74,go_sem,t0,t1,t2,t3,t4,t5,t6]
 ·have bn:=J aB
  have dG:Hid (ax w w2∧aQ w2 w.heap.size [I 0,I 0,I 0,I 0,I 0,I 0] 144∧aQ w2 (w.heap.size+1) [I 0] 54):=⟨aL.o.1.trans (e6.mono aL.o.1.size),aL.o.2.1.below e6,aL.o.2.2.below e6⟩;clear aB e6 dj ic aL;refine leaves_cons (f:=115) (args:= #[bl (w.heap.size+1)]) (by simp) (by simp[go_sem]) ?_;refine(agp (w.heap.size+1) 0 w2 (dG.o.2.2.cell 0) (dG.o.2.2.frozen 0)).mono ?_;rintro e gD fv ⟨rfl,rfl,hw⟩;have br:=dG.o.2.2.lt;have cJ:=(dG.o.2.1.alloc (.cells #[] 196)).other (p:=(aa (w.heap.size+1) 0)) (by show w.heap.size≠w.heap.size+1;omega) (I 6);have qR:=(dG.o.2.2.alloc (.cells #[] 196)).set 0 (I 6);have c7:=(dG.o.1.alloc dG.o.1.size (.cells #[] 196)).setCell (p:=(aa (w.heap.size+1) 0)) (pU _) (I 6);rw[<-hw]at cJ qR c7;have t0:=cJ.c0;have t1:=cJ.c1;have t2:=cJ.c2;have t3:=cJ.c3;have t4:=cJ.c4;have t5:=cJ.c5;have t6:=qR.c0;have l8:ax w fv∧((P∧(Ending.returned (.tuple #[lJ 0 ⟨0,0,0,0,0⟩,I 6]):Ending)= .returned (.tuple #[lJ i v,I 0]))∨(¬P∧(Ending.returned (.tuple #[lJ 0 ⟨0,0,0,0,0⟩,I 6]):Ending)= .returned (.tuple #[lJ 0 ⟨0,0,0,0,0⟩,I 6]))):=⟨c7,Or.inr ⟨bn.o,rfl⟩⟩;clear c7 cJ qR dG bn hw br;simp only[settle];refine⟨_,?_,l8⟩;simp[results,results74,go_sem,t0,t1,t2,t3,t4,t5,t6]
theorem abS (w:World)(n i:Nat)(t:ByteArray)(l:List Int)(m:Bool)(hn:n<=5)(aq:i<n)(aC:l.length=n)(hs:t.size<=200000000000)(au:fU m t.data.toList (iH 115 n i l))(qb:∀k (hk:k<l.length),0<=l[k]∧l[k]<=lM)(al:fI w):
  Calls prog 74 #[.func (.func 75) #[] #[],ai t,I n] w fun e w'=>ax w w'∧((t.data.toList=nK n i l∧e= .returned (.tuple #[lJ i (bJ l),I 0]))∨(¬t.data.toList=nK n i l∧e= .returned (.tuple #[lJ 0 ⟨0,0,0,0,0⟩,I 6]))):=
 abR w n i t (bJ l) _ fun W ao=>an6 W n i t l m hn aq aC hs au qb (al.later ao)
end Go.Proofs.YtiplgdkpnhamaaaGreatDoor
