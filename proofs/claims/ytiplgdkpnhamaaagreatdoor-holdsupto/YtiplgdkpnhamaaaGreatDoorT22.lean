import Derived.Test.YtiplgdkpnhamaaaGreatDoorT18
import Derived.Test.YtiplgdkpnhamaaaGreatDoorT19
import Derived.Deep.RegionHeld3
set_option maxHeartbeats 8000000
set_option maxRecDepth 100000
namespace Go.Proofs.YtiplgdkpnhamaaaGreatDoor
open Go.Proofs.Tryz
open Go.RowKit
variable {k:Nat}
theorem akP (a b c d e:Int)(W:World):(Instr.index 104 (.agg #[I a,I b,I c,I d,I e]) (I 0)).run prog W= .ok (I a) W:=by kernel_rfl
theorem akQ (a b c d e:Int)(W:World):(Instr.index 104 (.agg #[I a,I b,I c,I d,I e]) (I 1)).run prog W= .ok (I b) W:=by kernel_rfl
theorem akR (a b c d e:Int)(W:World):(Instr.index 104 (.agg #[I a,I b,I c,I d,I e]) (I 2)).run prog W= .ok (I c) W:=by kernel_rfl
theorem akS (a b c d e:Int)(W:World):(Instr.index 104 (.agg #[I a,I b,I c,I d,I e]) (I 3)).run prog W= .ok (I d) W:=by kernel_rfl
theorem akT (a b c d e:Int)(W:World):(Instr.index 104 (.agg #[I a,I b,I c,I d,I e]) (I 4)).run prog W= .ok (I e) W:=by kernel_rfl
theorem EF (v:aW)(i:Nat)(aq:i<5)(W:World):(Instr.index 104 (.agg #[I v.a,I v.b,I v.c,I v.d,I v.e]) (I i)).run prog W= .ok (I (v.get i)) W:=by
 have:i=0∨i=1∨i=2∨i=3∨i=4:=by omega
 rcases this with rfl|rfl|rfl|rfl|rfl
 ·exact akP v.a v.b v.c v.d v.e W
 ·exact akQ v.a v.b v.c v.d v.e W
 ·exact akR v.a v.b v.c v.d v.e W
 ·exact akS v.a v.b v.c v.d v.e W
 ·exact akT v.a v.b v.c v.d v.e W
def aW.join (v o:aW):aW:=⟨max v.a o.a,max v.b o.b,max v.c o.c,max v.d o.d,max v.e o.e⟩
def aW.GM (v o:aW)(k:Nat):aW:=⟨if 0<k then max v.a o.a else v.a,if 1<k then max v.b o.b else v.b,if 2<k then max v.c o.c else v.c,if 3<k then max v.d o.d else v.d,if 4<k then max v.e o.e else v.e⟩
theorem Z5 (v o:aW)(hk:k<5):(v.GM o k).cells[k]?=some (I (v.get k))∧(v.GM o k).cells.set k (I (max (v.get k) (o.get k)))=(v.GM o (k+1)).cells:=by
 have:k=0∨k=1∨k=2∨k=3∨k=4:=by omega
 rcases this with rfl|rfl|rfl|rfl|rfl<;>exact⟨rfl,rfl⟩
theorem Sh (w:World)(v o:aW):Calls prog 118 #[v.val,o.val] w fun e w'=>e= .returned (v.join o).val∧ax w w':=by
 generalize bj:((w.alloc (.cells #[I v.a,I v.b,I v.c,I v.d,I v.e] 104)).alloc (.cells #[I o.a,I o.b,I o.c,I o.d,I o.e] 104)).alloc (.cells #[I 0,I 0,I 0,I 0,I 0] 104)=W0;have bp:ax w W0:=by rw[<-bj];exact(((cj _ _)).alloc (by simp) _).alloc (by simp;omega) _
 have dc:aQ W0 w.heap.size (v.GM o 0).cells 104:=by
  rw[<-bj];exact(aQ.alloc (aQ.alloc (cC w _) _) _)
 have c6:aQ W0 (w.heap.size+1+1) [I 0,I 0,I 0,I 0,I 0] 104:=by
  rw[<-bj,show w.heap.size+1+1=((w.alloc (.cells #[I v.a,I v.b,I v.c,I v.d,I v.e] 104)).alloc (.cells #[I o.a,I o.b,I o.c,I o.d,I o.e] 104)).heap.size by simp];exact cC _ _
 have aL:=J (⟨bp,dc,c6⟩:_∧_∧_);have di:=J bj;clear bj bp dc c6;go_enter func118,ntmps118;go_wp2_with fail
 rw[di.o];clear di;go_loopw[5,6,8] (fun _ _ ii wr=>∃k:Nat,k<=5∧ii=I k∧Hid (ax w wr∧aQ wr w.heap.size (v.GM o k).cells 104∧aQ wr (w.heap.size+1+1) [I 0,I 0,I 0,I 0,I 0] 104)) (fun _ _ ii _=>5-(intOf ii).toNat)
 case atStart=>exact⟨0,ch,rfl,aL.o⟩
 case round=>
  clear aL;obtain⟨k,hk,rfl,bc⟩:=hrel;by_cases br:k<5
  ·have au:=EF o k br
   have c0:wr.cell? (aa (w.heap.size) k)=some (I (v.get k)):=by rw[bc.o.2.1.cell k];exact(Z5 v o br).1
   have f0:=bc.o.2.1.frozen k;have g1:(k:Int)<5:=by omega
   have cp:Hid (ax w (wr.setCell (aa (w.heap.size) k) (I (max (v.get k) (o.get k))))∧aQ (wr.setCell (aa (w.heap.size) k) (I (max (v.get k) (o.get k)))) w.heap.size (v.GM o (k+1)).cells 104∧aQ (wr.setCell (aa (w.heap.size) k) (I (max (v.get k) (o.get k)))) (w.heap.size+1+1) [I 0,I 0,I 0,I 0,I 0] 104):=
    ⟨bc.o.1.setCell (p:=(aa (w.heap.size) k)) cv _,by rw[<-(Z5 v o br).2];exact bc.o.2.1.set k _,bc.o.2.2.other (by show w.heap.size+1+1≠w.heap.size;omega) _⟩
   generalize v.get k=E7 at*;generalize o.get k=ok at*;go_wp2_with fail
   exact⟨⟨k+1,by omega,by go_num,cp.o⟩,by simp[intOf];omega⟩
  ·have kT:k=5:=by omega
   subst kT;have d0:eh wr (w.heap.size) 0 (I (max v.a o.a)):=bc.o.2.1.cell 0;have d1:eh wr (w.heap.size) 1 (I (max v.b o.b)):=bc.o.2.1.cell 1;have d2:eh wr (w.heap.size) 2 (I (max v.c o.c)):=bc.o.2.1.cell 2;have d3:eh wr (w.heap.size) 3 (I (max v.d o.d)):=bc.o.2.1.cell 3;have d4:eh wr (w.heap.size) 4 (I (max v.e o.e)):=bc.o.2.1.cell 4;have eE:eh wr (w.heap.size+1+1) 0 (I 0):=bc.o.2.2.cell 0;have cB:eh wr (w.heap.size+1+1) 1 (I 0):=bc.o.2.2.cell 1;have b_:eh wr (w.heap.size+1+1) 2 (I 0):=bc.o.2.2.cell 2;have dW:eh wr (w.heap.size+1+1) 3 (I 0):=bc.o.2.2.cell 3;have iw:eh wr (w.heap.size+1+1) 4 (I 0):=bc.o.2.2.cell 4;have eY:wr.frozen? (aa (w.heap.size+1+1) 0)=false:=bc.o.2.2.frozen 0;have q1:wr.frozen? (aa (w.heap.size+1+1) 1)=false:=bc.o.2.2.frozen 1;have dy:wr.frozen? (aa (w.heap.size+1+1) 2)=false:=bc.o.2.2.frozen 2;have fE:wr.frozen? (aa (w.heap.size+1+1) 3)=false:=bc.o.2.2.frozen 3;have hf:wr.frozen? (aa (w.heap.size+1+1) 4)=false:=bc.o.2.2.frozen 4;go_wp2_with fail
   have cJ:=Kt (v.join o) bc.o.2.2;have eO:=Ku wr (w.heap.size+1+1) (v.join o);unfold ET at cJ eO;simp only[aW.join]at cJ eO;generalize World.setCell _ _ _=fY at*;have cY:eh fY (w.heap.size+1+1) 0 (I (max v.a o.a)):=cJ.cell 0;have s1:eh fY (w.heap.size+1+1) 1 (I (max v.b o.b)):=cJ.cell 1;have s2:eh fY (w.heap.size+1+1) 2 (I (max v.c o.c)):=cJ.cell 2;have fX:eh fY (w.heap.size+1+1) 3 (I (max v.d o.d)):=cJ.cell 3;have hI:eh fY (w.heap.size+1+1) 4 (I (max v.e o.e)):=cJ.cell 4;exact iX (v:=(v.join o).val) (by simp[results,results118,go_sem,cY,s1,s2,fX,hI,aW.join]) rfl ⟨rfl,qH bc.o.1 eO (by omega) bc.o.1.size⟩
def aW.zf (v o:aW):Bool:=decide (o.a<=v.a∧o.b<=v.b∧o.c<=v.c∧o.d<=v.d∧o.e<=v.e)
theorem J5 (v o:aW):v.zf o=true↔∀k:Nat,k<5->o.get k<=v.get k:=by
 unfold aW.zf;rw[mo];constructor
 ·rintro ⟨aS,h1,ae,aH,bd⟩ k hk
  have:k=0∨k=1∨k=2∨k=3∨k=4:=by omega
  rcases this with rfl|rfl|rfl|rfl|rfl
  ·exact aS
  ·exact h1
  ·exact ae
  ·exact aH
  ·exact bd
 ·intro h
  exact⟨h 0 (by omega),h 1 (by omega),h 2 (by omega),h 3 (by omega),h 4 (by omega)⟩
theorem C6 (v:aW)(hk:k<5):v.cells[k]?=some (I (v.get k)):=by
 have:k=0∨k=1∨k=2∨k=3∨k=4:=by omega
 rcases this with rfl|rfl|rfl|rfl|rfl<;>rfl
theorem ZU (w:World)(v o:aW):Calls prog 130 #[v.val,o.val] w (bx (.bool (v.zf o)) fun w'=>ax w w'):=by
 generalize bj:(w.alloc (.cells #[I v.a,I v.b,I v.c,I v.d,I v.e] 104)).alloc (.cells #[I o.a,I o.b,I o.c,I o.d,I o.e] 104)=W0;have bO:Hid (ax w W0):=by rw[<-bj];exact((cj _ _)).alloc (by simp) _
 have dc:aQ W0 w.heap.size v.cells 104:=by rw[<-bj];exact(aQ.alloc (cC w _) _)
 have cD:=J dc;have di:=J bj;clear bj dc;go_enter func130,ntmps130;go_wp2_with fail
 rw[di.o];clear di;go_loopw[5,6,8] (fun _ _ ii wr=>∃k:Nat,k<=5∧ii=I k∧wr=W0∧Hid (∀j:Nat,j<k->o.get j<=v.get j)) (fun _ _ ii _=>5-(intOf ii).toNat)
 case atStart=>exact⟨0,ch,rfl,rfl,fun j af=>by omega⟩
 case round=>
  obtain⟨k,hk,rfl,rfl,bc⟩:=hrel;by_cases br:k<5
  ·have au:=EF o k br
   have c0:wr.cell? (aa (w.heap.size) k)=some (I (v.get k)):=by rw[cD.o.cell k];exact C6 v br
   have g1:(k:Int)<5:=by omega
   by_cases aA:o.get k<=v.get k
   ·have cp:Hid (∀j:Nat,j<k+1->o.get j<=v.get j):=fun j af=>by
     by_cases e:j=k
     ·subst e;exact aA
     ·exact bc.o j (by omega)
    have g2:¬v.get k<o.get k:=by omega
    clear aA;generalize v.get k=E7 at*;generalize o.get k=ok at*;go_wp2_with fail
    exact⟨⟨k+1,by omega,by go_num,trivial,cp.o⟩,by simp[intOf];omega⟩
   ·have cp:Hid (v.zf o=false):=by
     show v.zf o=false
     rw[Bool.eq_false_iff];intro e;exact aA ((J5 v o).1 e k br)
    have g2:v.get k<o.get k:=by omega
    clear aA;generalize v.get k=E7 at*;generalize o.get k=ok at*;go_wp2_with fail
    go_ret;exact⟨by rw[cp.o];rfl,bO.o⟩
  ·have kT:k=5:=by omega
   subst kT;have cp:Hid (v.zf o=true):=(J5 v o).2 bc.o;go_wp2_with fail
   go_ret;exact⟨by rw[cp.o];rfl,bO.o⟩
def aW.count (v:aW):Int:=v.a+v.b+v.c+v.d+v.e
def aW.small (v:aW):Prop:=∀k:Nat,k<5->0<=v.get k∧v.get k<=lM
def aW.yQ (v:aW):Nat->Int
 |0=>0
 |k+1=>v.yQ k+v.get k
theorem Wb {v:aW}(h:v.small):∀k:Nat,k<=5->0<=v.yQ k∧v.yQ k<=k*1844674407370955161
 |0,_=>by simp[aW.yQ]
 |k+1,hk=>by
  have h1:=Wb h k (by omega);have ae:=h k (by omega);have aH:v.get k<=1844674407370955161:=ae.2;simp only[aW.yQ];omega
theorem agQ (v:aW):v.yQ 5=v.count:=by
 simp only[aW.yQ,aW.count,aW.get,aW.list,kL];simp
theorem Qa (w:World)(v:aW)(av:v.small):Calls prog 127 #[v.val] w (bx (I v.count) fun w'=>ax w w'):=by
 go_enter func127,ntmps127;go_wp2_with fail
 generalize bj:w.alloc (.cells #[I v.a,I v.b,I v.c,I v.d,I v.e] 104)=W0;have bO:Hid (ax w W0):=by rw[<-bj];exact cj _ _
 clear bj;go_loopw[3,5,7] (fun ss _ ii wr=>∃(k:Nat) (a:Int),k<=5∧ii=I k∧ss=I a∧wr=W0∧Hid (a=v.yQ k)) (fun _ _ ii _=>5-(intOf ii).toNat)
 case atStart=>exact⟨0,0,ch,rfl,rfl,rfl,rfl⟩
 case round=>
  obtain⟨k,a,hk,rfl,rfl,rfl,bc⟩:=hrel;by_cases br:k<5
  ·have au:=EF v k br
   have kW:=Wb av k hk;have sA:=av k br;have cp:Hid (a+v.get k=v.yQ (k+1)):=by
    show a+v.get k=v.yQ (k+1)
    rw[bc.o];rfl
   have g1:0<=a+v.get k:=by rw[bc.o];omega
   have g2:a+v.get k<=9223372036854775807:=by
    have aH:v.get k<=1844674407370955161:=sA.2;rw[bc.o];omega
   clear kW sA;generalize v.get k=E7 at*;go_wp2_with fail
   exact⟨⟨k+1,_,by omega,by go_num,rfl,trivial,cp.o⟩,by simp[intOf];omega⟩
  ·have kT:k=5:=by omega
   subst kT;have cp:Hid (a=v.count):=by
    show a=v.count
    rw[bc.o,agQ]
   go_wp2_with fail
   go_ret;exact⟨by rw[cp.o];rfl,bO.o⟩
abbrev OE (rep seq:Int)(saw:aW)(aK:Value):Value:= .agg #[I rep,I seq,I saw.a,I saw.b,I saw.c,I saw.d,I saw.e,aK]
def vW (rep:Nat)(seq:Int)(saw ag:aW):Bool:=decide (seq=ag.get rep+1)&&ag.zf saw
theorem agm (w:World)(rep:Nat)(seq:Int)(saw ag:aW)(aK:Value)(aJ:rep<5)(av:ag.get rep+1<=9223372036854775807)(RY:0<=ag.get rep):
  Calls prog 82 #[OE rep seq saw aK,ag.val] w (bx (.bool (vW rep seq saw ag)) fun w'=>ax w w'):=by
 generalize bj:(w.alloc (.cells #[I rep,I seq,I saw.a,I saw.b,I saw.c,I saw.d,I saw.e,aK] 139)).alloc (.cells #[I ag.a,I ag.b,I ag.c,I ag.d,I ag.e] 104)=W0;have bO:Hid (ax w W0):=by rw[<-bj];exact((cj _ _)).alloc (by simp) _
 have dc:aQ W0 w.heap.size [I rep,I seq,I saw.a,I saw.b,I saw.c,I saw.d,I saw.e,aK] 139:=by rw[<-bj];exact(aQ.alloc (cC w _) _)
 have bT:aQ W0 (w.heap.size+1) ag.cells 104:=by
  rw[<-bj,show w.heap.size+1=(w.alloc (.cells #[I rep,I seq,I saw.a,I saw.b,I saw.c,I saw.d,I saw.e,aK] 139)).heap.size by simp];exact cC _ _
 have c0:∀f:dO (aR W0),f.w.cell? (aa (w.heap.size) 0)=some (I rep):=aR.cell (dc.cell 0);have c1:∀f:dO (aR W0),f.w.cell? (aa (w.heap.size) 1)=some (I seq):=aR.cell (dc.cell 1);have c2:∀f:dO (aR W0),f.w.cell? (aa (w.heap.size) 2)=some (I saw.a):=aR.cell (dc.cell 2);have c3:∀f:dO (aR W0),f.w.cell? (aa (w.heap.size) 3)=some (I saw.b):=aR.cell (dc.cell 3);have c4:∀f:dO (aR W0),f.w.cell? (aa (w.heap.size) 4)=some (I saw.c):=aR.cell (dc.cell 4);have c5:∀f:dO (aR W0),f.w.cell? (aa (w.heap.size) 5)=some (I saw.d):=aR.cell (dc.cell 5);have iG:∀f:dO (aR W0),f.w.cell? (aa (w.heap.size) 6)=some (I saw.e):=aR.cell (dc.cell 6);have d0:∀f:dO (aR W0),f.w.cell? (aa (w.heap.size+1) 0)=some (I ag.a):=aR.cell (bT.cell 0);have d1:∀f:dO (aR W0),f.w.cell? (aa (w.heap.size+1) 1)=some (I ag.b):=aR.cell (bT.cell 1);have d2:∀f:dO (aR W0),f.w.cell? (aa (w.heap.size+1) 2)=some (I ag.c):=aR.cell (bT.cell 2);have d3:∀f:dO (aR W0),f.w.cell? (aa (w.heap.size+1) 3)=some (I ag.d):=aR.cell (bT.cell 3);have d4:∀f:dO (aR W0),f.w.cell? (aa (w.heap.size+1) 4)=some (I ag.e):=aR.cell (bT.cell 4);have b1:∀f:dO (aR W0),f.w.cell? (aa (w.heap.size+1) rep)=some (I (ag.get rep)):=aR.cell (by rw[bT.cell rep];exact C6 ag aJ);have YO:∀f:dO (aR W0),Calls prog 130 #[ag.val,saw.val] f.w fun e fv=>e= .returned (.bool (ag.zf saw))∧∃g:dO (aR W0),fv=g.w:=fun f=>aR.call f (ZU f.w ag saw)
 have dj:=J YO;have di:=J bj;have g1:(rep:Int)<5:=by omega
 clear bj dc bT YO;by_cases he:seq=ag.get rep+1
 ·have aB:(seq==ag.get rep+1)=true:=by simpa using he
  have cz:Hid (vW rep seq saw ag=ag.zf saw):=by show vW rep seq saw ag=_;simp[vW,he]
  clear he;generalize ag.get rep=yj at*;generalize ag.zf saw=LY at*;go_enter func82,ntmps82;go_wp2_with fail
  rw[di.o];refine qm (aR W0) (by kernel_rfl) (by kernel_rfl) (cE).drew ?_;repeat(go_big_quiet_step (first|(go_at_call 130;exact dj.o _)))
  refine gG ?_;intro _ ds;obtain⟨fq,rfl⟩:=ds;have dG:=cy (bO.o.trans (fq.ok.mono bO.o.size));generalize fq.w=an at*;go_wp2_with fail
  go_ret;exact⟨by rw[cz.o];rfl,dG.o⟩
 ·have aB:(seq==ag.get rep+1)=false:=by simpa using he
  have cz:Hid (vW rep seq saw ag=false):=by show vW rep seq saw ag=_;simp[vW,he]
  clear he;generalize ag.get rep=yj at*;go_enter func82,ntmps82;go_wp2_with fail
  rw[di.o];refine qm (aR W0) (by kernel_rfl) (by kernel_rfl) (cE).drew ?_;repeat(go_big_quiet_step (fail))
  refine gG ?_;intro _ ds;obtain⟨fq,rfl⟩:=ds;have dG:=cy (bO.o.trans (fq.ok.mono bO.o.size));generalize fq.w=an at*;go_wp2_with fail
  go_ret;exact⟨by rw[cz.o];rfl,dG.o⟩
def qt (p:Place)(x:cG):List UInt8:=gx p.key++(if x.kind=0 then ec x.cH else if x.kind=1 then gx x.value else if x.kind=2 then gx p.el++[43]else gx p.el++[45])
theorem VX {s:ByteArray}(h:s.size<=1000):(gx s).length<=1022:=by
 have h1:=qi (k:=s.size) (by omega) (by omega);have ae:s.data.toList.length=s.size:=by simp
 simp only[gx,eN];omega
theorem rv.later {B:Nat}{cr w w':World}{aj n:Nat}{xs:List UInt8}(h:rv B cr aj n xs w)(hb:ax w w'):rv B cr aj n xs w':=
 ⟨h.wr.later hb,h.cZ.trans (hb.mono (by have:=h.wr.ao;omega)),fun k o a b c=>by
  have h1:=h.AV k o a b c;rw[hb.block k (w6.1 h1).1];exact h1⟩
theorem aqy (B:Nat)(w:World)(aj n:Nat)(xs:List UInt8)(p:Place)(x:cG)(h:j8 B w aj n xs)(aC:xs.length<=80000000000)(fj:x.kind=0∨x.kind=1∨x.kind=2∨x.kind=3)(hk:p.key.size<=1000)(he:p.el.size<=1000)(av:x.value.size<=1000)(aS: -9223372036854775808<=x.cH)(h1:x.cH<=9223372036854775807)(oI:DI B w):
  Calls prog 166 #[bl aj,p.val,x.val] w (bx (.tuple #[]) fun w'=>j8 B w' aj n (xs++qt p x)∧Below B w w'∧nO aj w w'):=by
 obtain⟨hG,am,js⟩:=x;simp only at fj av aS h1;unfold Place.val cG.val;have J2:=h.ao;generalize bj:(w.alloc (.cells #[ai p.key,ai p.el] 129)).alloc (.cells #[I hG,I am,ai js] 132)=W0;have dc:aQ W0 w.heap.size [ai p.key,ai p.el] 129:=by rw[<-bj];exact(aQ.alloc (cC w _) _)
 have bT:aQ W0 (w.heap.size+1) [I hG,I am,ai js] 132:=by
  rw[<-bj,show w.heap.size+1=(w.alloc (.cells #[ai p.key,ai p.el] 129)).heap.size by simp];exact cC _ _
 have fk:Hid (rv B w aj n xs W0):=by rw[<-bj];exact(rv.start h _).later ((cj _ _))
 have Rx:w.heap.size≠aj:=by omega
 have oZ:w.heap.size+1≠aj:=by omega
 have c0:=dc.c0;have cF:=dc.lt;have AY:=VX hk;have cp:=J (OP B W0 aj n xs p.key fk.o.wr (by omega) (by omega) (oI.on fk.o.cZ));have cD:=J (⟨dc,bT⟩:_∧_);have di:=J bj;clear h bj dc bT;go_enter func166,ntmps166;go_upto_region 1 with(fail);rw[di.o];clear di;go_wp2_with(go_at_call 204;refine cp.o.mono ?_;rintro e w2 ⟨rfl,aw⟩;refine gE ?_)
 refine Lib.hid ?_;have bu:=J (fk.o.step aw);have dc:=aw.2.2.U cD.o.1 Rx (by decide);have bT:=aw.2.2.U cD.o.2 oZ (by decide);have arf:=J (⟨dc,bT⟩:_∧_);have eo:=dc.c1;have d0:=bT.c0;have d1:=bT.c1;have d2:=bT.c2;have kC:(xs++gx p.key).length<=85000000000:=by rw[eN];omega
 clear aw cp fk cD c0 dc bT;have le:=VX he;rcases fj with rfl|rfl|rfl|rfl
 ·have cp:=J (Hr B w2 aj n _ am bu.o.wr (by omega) aS h1 (oI.on bu.o.cZ))
  go_wp2_with(go_at_call 157;refine cp.o.mono ?_;rintro e bN ⟨rfl,aw⟩;have ck:=J (bu.o.step aw);clear aw)
  go_end0;exact⟨rfl,by simpa[qt]using ck.o.wr,ck.o.cZ,ck.o.AV⟩
 ·have cp:=J (OP B w2 aj n _ js bu.o.wr (by omega) (by omega) (oI.on bu.o.cZ))
  go_wp2_with(go_at_call 204;refine cp.o.mono ?_;rintro e bN ⟨rfl,aw⟩;have ck:=J (bu.o.step aw);clear aw)
  go_end0;exact⟨rfl,by simpa[qt]using ck.o.wr,ck.o.cZ,ck.o.AV⟩
 ·have cp:=J (OP B w2 aj n _ p.el bu.o.wr (by omega) (by omega) (oI.on bu.o.cZ))
  go_wp2_with(go_at_call 204;refine cp.o.mono ?_;rintro e bN ⟨rfl,aw⟩;refine gE ?_)
  refine Lib.hid ?_;have ck:=J (bu.o.step aw);have br:=Uj B bN aj n _ 43 ck.o.wr (by simp only[eN]at kC⊢;omega);rw[show((43:UInt8).toNat:Int)=43 from rfl]at br;have dn:=J br;clear aw cp bu br;go_wp2_with(go_at_call 156;refine dn.o.mono ?_;rintro e cc ⟨rfl,aw⟩;have cd:=J (ck.o.step aw);clear aw)
  go_end0;exact⟨rfl,by simpa[qt]using cd.o.wr,cd.o.cZ,cd.o.AV⟩
 ·have cp:=J (OP B w2 aj n _ p.el bu.o.wr (by omega) (by omega) (oI.on bu.o.cZ))
  go_wp2_with(go_at_call 204;refine cp.o.mono ?_;rintro e bN ⟨rfl,aw⟩;refine gE ?_)
  refine Lib.hid ?_;have ck:=J (bu.o.step aw);have br:=Uj B bN aj n _ 45 ck.o.wr (by simp only[eN]at kC⊢;omega);rw[show((45:UInt8).toNat:Int)=45 from rfl]at br;have dn:=J br;clear aw cp bu br;go_wp2_with(go_at_call 156;refine dn.o.mono ?_;rintro e cc ⟨rfl,aw⟩;have cd:=J (ck.o.step aw);clear aw)
  go_end0;exact⟨rfl,by simpa[qt]using cd.o.wr,cd.o.cZ,cd.o.AV⟩
end Go.Proofs.YtiplgdkpnhamaaaGreatDoor
