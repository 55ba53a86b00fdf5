import Derived.Test.YtiplgdkpnhamaaaGreatDoorT00
import Derived.WalkKit
import Derived.WalkSpells
import Derived.WalkLawsBesides
import Derived.Deep.QuietTactic
import Derived.BigQuiet
import Derived.Test.YtiplgdkpnhamaaaGreatDoorProg
import Derived.Maps.AppendAt
set_option maxHeartbeats 1000000
set_option maxRecDepth 100000
namespace Go.Proofs.YtiplgdkpnhamaaaGreatDoor
open Go.Proofs.Tryz List
open Go.RowKit
variable {P:Program}{W a c w w':World}{args:Array Value}{de v:Value}{b:Bool}{cap g az k n size:Nat}{d1 d2 el key s:ByteArray}{d3 hG:Int}{e t:TypeId}{xs:List Value}
structure Touch (S:Nat->Prop)(w w':World):Prop where
 os:w'.os=w.os
 tape:w'.tape=w.tape
 output:w'.output=w.output
 size:w.heap.size<=w'.heap.size
 block:∀k,k<w.heap.size->¬S k->w'.heap[k]?=w.heap[k]?
theorem Touch.refl (S:Nat->Prop)(w:World):Touch S w w:=⟨rfl,rfl,rfl,cv,fun _ _ _=>rfl⟩
theorem Touch.mono {S T:Nat->Prop}(h:Touch S w w')(hs:∀k,k<w.heap.size->S k->T k):Touch T w w':=
 ⟨h.os,h.tape,h.output,h.size,fun k hk hn=>h.block k hk (fun s=>hn (hs k hk s))⟩
theorem Touch.trans {S:Nat->Prop}{b:World}(h:Touch S a b)(k:Touch (fun i=>S i∨a.heap.size<=i) b c):Touch S a c:=
 ⟨k.os.trans h.os,k.tape.trans h.tape,k.output.trans h.output,fx h.size k.size,
  fun i aq hn=>(k.block i (hV aq h.size) (fun s=>s.elim hn (fun s=>by omega))).trans (h.block i aq hn)⟩
theorem Touch.then {S:Nat->Prop}{b:World}(h:Touch S a b)(k:Touch S b c):Touch S a c:=
 h.trans (k.mono fun _ _ s=>Or.inl s)
theorem Touch.drew {S:Nat->Prop}(h:Touch S a w):Touch S a w.drew:=⟨h.os,h.tape,h.output,h.size,h.block⟩
theorem Touch.dh {S:Nat->Prop}(h:ax w w'):Touch S w w':=
 ⟨h.os,h.tape,h.output,h.size,fun k hk _=>h.block k hk⟩
theorem Touch.below (h:Touch (fun _=>False) w w'):ax w w':=
 ⟨h.os,h.tape,h.output,h.size,fun k hk=>h.block k hk id⟩
theorem Touch.oi {row:Option Nat}(h:w.grownBy w' row):Touch (fun k=>some k=row) w w':=
 ⟨h.os,h.tape,h.output,h.size,fun k hk hn=>h.block k hk hn⟩
theorem Touch.alloc {S:Nat->Prop}(h:Touch S a w)(o:Obj):Touch S a (w.alloc o):=
 h.then ⟨rfl,rfl,rfl,by simp,fun k hk _=>iW _ _ _ hk⟩
theorem Touch.setCell {S:Nat->Prop}(h:Touch S a w){p:Addr}(aw:S p.block∨a.heap.size<=p.block)(u:Value):Touch S a (w.setCell p u):=
 h.trans ⟨rfl,rfl,rfl,by simp[World.setCell],fun k _ hn=>rb _ _ _ _ (fun e=>hn (e▸aw))⟩
theorem Touch.grown {S:Nat->Prop}{row:Option Nat}(h:Touch S a w)(aM:w.grownBy w' row)(aJ:∀k,row=some k->S k∨a.heap.size<=k):Touch S a w':=
 h.trans ((Touch.oi aM).mono fun k _ e=>aJ k e.symm)
theorem Touch.cell {S:Nat->Prop}(h:Touch S w w'){p:Addr}(aw:p.block<w.heap.size)(hs:¬S p.block):w'.cell? p=w.cell? p:=
 xc (w:=w) (h.block p.block aw hs)
abbrev Row (w:World)(e:TypeId)(size:Nat)(v:Value)(n:Nat)(xs:List Value):Prop:=w.ownsRow 0 e size v n xs
theorem Row.move (h:Row w e size v n xs)
  (hb:∀k,v.ownBlock=some k->w'.heap[k]?=w.heap[k]?):Row w' e size v n xs:=by
 refine⟨h.1,?_⟩;rcases h.2 with hn|⟨g,cap,cur,rfl,aS,aM,rest⟩
 ·exact .inl hn
 ·exact .inr ⟨g,cap,cur,rfl,aS,by rw[hb g rfl];exact aM,rest⟩
theorem Row.lt (h:Row w e size v n xs)(hk:v.ownBlock=some k):k<w.heap.size:=
 (World.ownsRow.lt h k hk).2
theorem Row.ay {S:Nat->Prop}(h:Row w e size v n xs)(t:Touch S w w')
  (hs:∀k,v.ownBlock=some k->¬S k):Row w' e size v n xs:=
 h.move fun k hk=>t.block k (h.lt hk) (hs k hk)
theorem Row.below (h:Row w e size v n xs)(t:ax w w'):Row w' e size v n xs:=
 h.move fun k hk=>t.block k (h.lt hk)
theorem Row.shape (h:Row w e size v n xs):
  ∃cA cap,v= .slice cA n cap∧n<=cap∧cap<=maxLen∧∀j,j<n*size->∃g,cA=some (aa g 0)∧w.cell? (aa g j)=xs[j]?:=by
 rcases h.2 with⟨rfl,rfl⟩|⟨g,cap,cur,rfl,aS,aM,aA,hm,hs,al⟩
 ·exact⟨none,0,rfl,cv,by simp[maxLen],fun j af=>by simp at af⟩
 ·refine⟨some (aa g 0),cap,rfl,aA,hm,fun j af=>⟨g,rfl,Fe h j af⟩⟩
theorem Row.pos (h:Row w e size v n xs)(hn:0<n):
  ∃g cap,v=bo g n cap∧n<=cap∧cap<=maxLen∧g<w.heap.size∧(∀j,j<n*size->w.cell? (aa g j)=xs[j]?)∧∀j,w.frozen? (aa g j)=false:=by
 rcases h.2 with⟨rfl,rfl⟩|⟨g,cap,cur,rfl,aS,aM,aA,hm,hs,al⟩
 ·omega
 ·exact⟨g,cap,rfl,aA,hm,(w6.1 aM).1,fun j af=>Fe h j af,fun j=>World.ownsRow.frozenAt h j⟩
theorem hC {α:Type}(f:α->List Value)(s:Nat)(bm:∀a,(f a).length=s):∀(l:List α) (i j:Nat) (aq:i<l.length),j<s->(l.flatMap f)[i*s+j]?=(f l[i])[j]?
 |[],i,_,aq,_=>by simp at aq
 |a::l,0,j,_,af=>by
  rw[kf,w7 (by rw[bm];omega)];simp
 |a::l,i+1,j,aq,af=>by
  have:=hC f s bm l i j (by simpa using aq) af;rw[kf,yq (by rw[bm,w4];omega)];simpa[bm,w4,Nat.add_right_comm _ s j]using this
theorem Ap {α:Type}(f:α->List Value)(s:Nat)(bm:∀a,(f a).length=s)(l:List α):(l.flatMap f).length=l.length*s:=by
 induction l with
 |nil=>simp
 |cons a l ih=>simp[flatMap_cons,bm,ih,Nat.add_mul,Nat.add_comm]
theorem W_ (w:World)(c:Array Value)(t:TypeId)(j:Nat):(w.alloc (.cells c t)).frozen? (aa (w.heap.size) j)=false:=by
 unfold World.frozen?;rw[cC];simp
theorem yb {a b:ByteArray}:(a.toList==b.toList)=true↔a=b:=by
 rw[beq_iff_eq,Fh,Fh];constructor
 ·intro h;cases a;cases b;simp at h;simpa using h
 ·rintro rfl;rfl
theorem A8 {a b:ByteArray}:(a.toList==b.toList)=false↔¬a=b:=by
 rw[<-yb];simp
theorem om {k:IntKind}{a b:Int}(h:a=b):Ending.returned (.int k a)= .returned (.int k b):=by rw[h]
theorem q2 {a:Bool}(h:a=b):Ending.returned (.bool a)= .returned (.bool b):=by rw[h]
def ints (l:List Int):List Value:=l.map (I)
theorem alx (l:List Int):(ints l).length=l.length:=by simp[ints]
theorem o9 (l:List Int)(j:Nat)(h:j<l.length):(ints l)[j]?=some (I l[j]):=by simp[ints,h]
def strs (l:List ByteArray):List Value:=l.map Value.string
theorem Hf (l:List ByteArray)(j:Nat)(h:j<l.length):(strs l)[j]?=some (ai l[j]):=by simp[strs,h]
theorem Hg (l:List ByteArray)(s:ByteArray):strs (l++[s])=strs l++[ai s]:=by simp[strs]
theorem e3 {b hz:Nat}(h:w.ownsRow b e size v n xs)(hb:hz<=b):w.ownsRow hz e size v n xs:=by
 refine⟨h.1,?_⟩;rcases h.2 with hn|⟨g,cap,cur,rfl,aS,rest⟩
 ·exact .inl hn
 ·exact .inr ⟨g,cap,cur,rfl,fx hb aS,rest⟩
theorem jZ {b:Nat}(h:w.ownsRow b e size v n xs)(hb:ax w w'):w'.ownsRow b e size v n xs:=by
 refine⟨h.1,?_⟩;rcases h.2 with hn|⟨g,cap,cur,rfl,aS,aM,rest⟩
 ·exact .inl hn
 ·exact .inr ⟨g,cap,cur,rfl,aS,by rw[hb.block g (w6.1 aM).1];exact aM,rest⟩
structure db where
 kind:Int
 key:ByteArray
 value:ByteArray
 cH:Int
def db.cells (o:db):List Value:=[.int .i64 o.kind,.string o.key,.string o.value,.int .i64 o.cH]
theorem db.k_ (o:db):o.cells.length=4:=rfl
def db.none:db:=⟨0,⟨#[]⟩,⟨#[]⟩,0⟩
def db.agg (o:db):Value:= .agg #[I o.kind,ai o.key,ai o.value,I o.cH]
def kindOf (s:ByteArray):Int:=
 if h:1<=s.size∧s.size<=8 then
  if s[0]=99∨s[0]=114∨s[0]=115 then(s[0].toNat:Int)else 0
 else 0
theorem J_ (h:¬(1<=s.size∧s.size<=8)):kindOf s=0:=by unfold kindOf;rw[dif_neg h]
theorem T5 (c:UInt8)(n:Nat)(h:n<256):(c=UInt8.ofNat n)↔((c.toNat:Int)=n):=by
 constructor
 ·rintro rfl;simp;omega
 ·intro e;apply UInt8.toNat_inj.1;simp;omega
theorem Sm (h:1<=s.size∧s.size<=8):kindOf s=if(s[0].toNat:Int)=99∨(s[0].toNat:Int)=114∨(s[0].toNat:Int)=115 then(s[0].toNat:Int)else 0:=by
 unfold kindOf;rw[dif_pos h];have a:=T5 s[0] 99 (by omega);have b:=T5 s[0] 114 (by omega);have c:=T5 s[0] 115 (by omega);simp only[show(UInt8.ofNat 99)=99 from rfl,show(UInt8.ofNat 114)=114 from rfl,show(UInt8.ofNat 115)=115 from rfl]at a b c;simp only[a,b,c];rfl
def sumOf (key:ByteArray)(ops:List db):Int:=ops.foldl (fun n o=>if o.kind=1∧o.key=key then wrap64 (n+o.cH)else n) 0
theorem acM (key:ByteArray)(ops:List db)(o:db):sumOf key (ops++[o])=if o.kind=1∧o.key=key then wrap64 (sumOf key ops+o.cH)else sumOf key ops:=by
 simp[sumOf]
def l7 (key el:ByteArray)(o:db):Bool:=decide (o.key=key∧(o.kind=2∨o.value=el))
def dR (key el:ByteArray)(ops:List db):Option db:=ops.reverse.find? (l7 key el)
theorem aaj {ops:List db}(hk:k<ops.length)(h:l7 key el ops[k]=true)(hn:∀j (af:j<ops.length),k<j->l7 key el ops[j]=false):
  dR key el ops=some ops[k]:=by
 have e:ops=ops.take k++ops[k]::ops.drop (k+1):=by
  rw[getElem_cons_drop,take_append_drop]
 have d:(ops.drop (k+1)).reverse.find? (l7 key el)=none:=by
  rw[find?_eq_none];intro x au;rw[mem_reverse,mem_drop_iff_getElem]at au;obtain⟨i,aq,rfl⟩:=au;rw[hn _ _ (by omega)];simp
 generalize ops[k]=o at*;rw[dR,e];simp only[reverse_append,reverse_cons,mN,find?_append,d];simp[h]
theorem al2 {ops:List db}(hn:∀j (af:j<ops.length),l7 key el ops[j]=false):dR key el ops=none:=by
 rw[dR,find?_eq_none];intro x au;rw[mem_reverse,fQ]at au;obtain⟨i,aq,rfl⟩:=au;rw[hn _ aq];simp
def EJ (o:Option db):Value:= .tuple #[(o.getD db.none).agg,.bool o.isSome]
def lG (key:ByteArray)(ops:List db):List ByteArray:=(ops.filter fun o=>decide (o.key=key)).map db.value
theorem WD (key:ByteArray)(ops:List db)(o:db):lG key (ops++[o])=lG key ops++(if o.key=key then[o.value]else[]):=by
 by_cases h:o.key=key<;>simp[lG,h]
theorem IG (key:ByteArray)(ops:List db):(lG key ops).length<=ops.length:=by
 simp only[lG,mO];exact Ff _ _
structure cq where
 fA:Bool
 rep:Int
 seq:Int
 sv:Value
 bU:Value
def cq.cells (x:cq):List Value:=[.bool x.fA,.int .i64 x.rep,.int .i64 x.seq,x.sv,x.bU]
theorem cq.k_ (x:cq):x.cells.length=5:=rfl
def kE (xs:List cq)(tx:Int):Bool:=if h:0<=tx∧tx<xs.length then(xs[tx.toNat]'(by omega)).fA else false
def fc (vec:List Int)(r s:Int):Bool:=decide (s<=vec.getD r.toNat 0)
structure aT where
 rep:Int
 seq:Int
 saw:List Int
 ops:List db
structure uR (w:World)(x:cq)(t:aT):Prop where
 rep:x.rep=t.rep
 seq:x.seq=t.seq
 saw:Row w 3 1 x.sv t.saw.length (ints t.saw)
 ops:Row w 171 4 x.bU t.ops.length (t.ops.flatMap db.cells)
 ea:t.ops.length<=16
theorem uR.move {x:cq}{t:aT}(h:uR w x t)(hs:∀k,x.sv.ownBlock=some k->w'.heap[k]?=w.heap[k]?)(cu:∀k,x.bU.ownBlock=some k->w'.heap[k]?=w.heap[k]?):uR w' x t:=
 ⟨h.rep,h.seq,Row.move h.saw hs,Row.move h.ops cu,h.ea⟩
theorem uR.below {x:cq}{t:aT}(h:uR w x t)(hb:ax w w'):uR w' x t:=
 h.move (fun k hk=>hb.block k (Row.lt h.saw hk)) (fun k hk=>hb.block k (Row.lt h.ops hk))
structure qz (w:World)(az n:Nat)(de:Value)(xs:List cq)(ts:List aT):Prop where
 hn:w.cell? (aa az 0)=some (I n)
 aU:w.cell? (aa az 2)=some de
 row:Row w 217 5 de xs.length (xs.flatMap cq.cells)
 len:xs.length=ts.length
 tx:∀i (h:i<ts.length),uR w (xs[i]'(by omega)) ts[i]
 rep:∀i (h:i<ts.length),0<=ts[i].rep∧ts[i].rep<n
 saw:∀i (h:i<ts.length),ts[i].saw.length=n
 Iq:ts.length<=2000000
theorem qz.below {xs:List cq}{ts:List aT}(h:qz w az n de xs ts)(hb:ax w w'):qz w' az n de xs ts:=
 ⟨bZ hb h.hn,bZ hb h.aU,Row.below h.row hb,h.len,fun i aq=>(h.tx i aq).below hb,h.rep,h.saw,h.Iq⟩
theorem qz.shape {xs:List cq}{ts:List aT}(h:qz w az n de xs ts):∃cA cap,de= .slice cA ts.length cap∧ts.length<=cap∧az<w.heap.size:=by
 obtain⟨cA,cap,rfl,aA,_,_⟩:=Row.shape h.row;exact⟨cA,cap,by rw[h.len],by rw[<-h.len];exact aA,hU w _ h.hn⟩
theorem qz.at {cA:Option Addr}{xs:List cq}{ts:List aT}(h:qz w az n (.slice cA ts.length cap) xs ts)(k:Nat)(hk:k<ts.length):
  ∃hD,cA=some (aa hD 0)∧hD<w.heap.size∧w.cell? (aa hD (k*5+1))=some (I ts[k].rep)∧w.cell? (aa hD (k*5+2))=some (I ts[k].seq)∧
   w.cell? (aa hD (k*5+3))=some (xs[k]'(by have:=h.len;omega)).sv∧w.cell? (aa hD (k*5+4))=some (xs[k]'(by have:=h.len;omega)).bU:=by
 have aC:=h.len;have ajN:k<xs.length:=by omega
 obtain⟨g,F0,e,aA,hm,aM,eb,_⟩:=Row.pos h.row (by omega);obtain⟨rfl,-,rfl⟩:=sN e;have au:=h.tx k hk;have f:∀j,j<5->w.cell? (aa g (k*5+j))=(xs[k]).cells[j]?:=fun j af=>by
  rw[eb _ (by omega),hC _ 5 cq.k_ _ _ _ ajN af]
 refine⟨g,rfl,aM,?_,?_,?_,?_⟩
 ·rw[f 1 (by omega),<-au.rep];rfl
 ·rw[f 2 (by omega),<-au.seq];rfl
 ·rw[f 3 (by omega)];rfl
 ·rw[f 4 (by omega)];rfl
theorem qz.pick {cA:Option Addr}{xs:List cq}{ts:List aT}(h:qz w az n (.slice cA ts.length cap) xs ts)(k:Nat)(hk:k<ts.length):
  ∃(hD:Nat) (x:cq),cA=some (aa hD 0)∧hD<w.heap.size∧w.cell? (aa hD (k*5+1))=some (I ts[k].rep)∧w.cell? (aa hD (k*5+2))=some (I ts[k].seq)∧
   w.cell? (aa hD (k*5+3))=some x.sv∧w.cell? (aa hD (k*5+4))=some x.bU∧uR w x ts[k]∧(0<=ts[k].rep∧ts[k].rep<n)∧ts[k].saw.length=n:=by
 obtain⟨hD,e,aM,h1,ae,aH,bd⟩:=h.at k hk;exact⟨hD,_,e,aM,h1,ae,aH,bd,h.tx k hk,h.rep k hk,h.saw k hk⟩
def nV (v:List Int)(key:ByteArray)(ts:List aT):Int:=ts.foldl (fun n t=>if fc v t.rep t.seq then wrap64 (n+sumOf key t.ops)else n) 0
theorem Wd (v:List Int)(key:ByteArray)(ts:List aT)(t:aT):nV v key (ts++[t])=if fc v t.rep t.seq then wrap64 (nV v key ts+sumOf key t.ops)else nV v key ts:=by
 simp[nV]
def kY (r s:Int)(t:aT):Bool:=decide (t.rep=r∧t.seq=s)
abbrev cK:ByteArray:=⟨#[]⟩
def Ko (v:List Int)(key:ByteArray)(t:aT)(acc:Bool)(u:aT):Bool:=acc||(fc v u.rep u.seq&&fc u.saw t.rep t.seq&&(dR key cK u.ops).isSome)
def sD (v:List Int)(key:ByteArray)(t:aT)(ts:List aT):Bool:=ts.foldl (Ko v key t) false
theorem am8 (v:List Int)(key:ByteArray)(t:aT)(ts:List aT)(u:aT):sD v key t (ts++[u])=Ko v key t (sD v key t ts) u:=by simp[sD]
def tA (v:List Int)(key:ByteArray)(ts:List aT)(t:aT):List ByteArray:=
 match dR key cK t.ops with
 | .none=>[]
 |some o=>if sD v key t ts then[]else[o.value]
def u4 (ts:List aT)(r s:Int):aT:=(ts.find? (kY r s)).getD ⟨0,0,[],[]⟩
def pQ (v:List Int)(key:ByteArray)(ts:List aT)(r m:Nat):List ByteArray:=(List.range m).flatMap fun(s:Nat)=>tA v key ts (u4 ts r ((s:Int)+1))
theorem Ob (v:List Int)(key:ByteArray)(ts:List aT)(r m:Nat):pQ v key ts r (m+1)=pQ v key ts r m++tA v key ts (u4 ts r ((m:Int)+1)):=by
 simp[pQ,range_succ]
def lr (v:List Int)(key:ByteArray)(ts:List aT)(n:Nat):List ByteArray:=(List.range n).flatMap fun r=>pQ v key ts r (v.getD r 0).toNat
theorem Oc (v:List Int)(key:ByteArray)(ts:List aT)(n:Nat):lr v key ts (n+1)=lr v key ts n++pQ v key ts n (v.getD n 0).toNat:=by
 simp[lr,range_succ]
theorem aok (v:List Int)(key:ByteArray)(ts:List aT)(t:aT):(tA v key ts t).length<=1:=by
 unfold tA;split
 ·simp
 ·split<;>simp
theorem Ts (v:List Int)(key:ByteArray)(ts:List aT)(r m:Nat):(pQ v key ts r m).length<=m:=by
 induction m with
 |zero=>simp[pQ]
 |succ m ih=>rw[Ob,eN];have:=aok v key ts (u4 ts r ((m:Int)+1));omega
theorem Qr {ts:List aT}{r s:Int}(h:∃t,t∈ts∧kY r s t=true):∃i,∃aq:i<ts.length,kY r s ts[i]=true∧(∀j (af:j<i),kY r s (ts[j]'(by omega))=false)∧u4 ts r s=ts[i]:=by
 induction ts with
 |nil=>obtain⟨t,al,_⟩:=h;simp at al
 |cons a ts ih=>
  cases aU:kY r s a
  ·obtain⟨t,al,aB⟩:=h
   have ma:t∈ts:=by
    rcases h3.1 al with e|e
    ·subst e;rw[aU]at aB;cases aB
    ·exact e
   obtain⟨i,aq,h1,ae,aH⟩:=ih ⟨t,ma,aB⟩;refine⟨i+1,by simpa using aq,by simpa using h1,fun j af=>?_,?_⟩
   ·cases j with
    |zero=>simpa using aU
    |succ j=>simpa using ae j (by omega)
   ·simp only[u4,find?_cons,aU]at aH⊢;simpa using aH
  ·exact⟨0,by simp,by simpa using aU,fun j af=>by omega,by simp[u4,aU]⟩
def kF (kind:Int):Int:=if kind=1 then 99 else if kind=2 then 114 else 115
structure dO (mQ:World->Prop)where
 w:World
 ok:mQ w
theorem qm (mQ:World->Prop){id:Nat}{Q:Exit->Act->World->Prop}{a:Act}{l:List Oper}(hm:P.follows .mixedOrders=true)(ao:Region.lexB .any l.toArray=true)(u6:mQ w.drew)
  (h:wpQuiet P l.toArray (fun W=>∃f:dO mQ,W=f.w) (fun cf=>∀W,(∃f:dO mQ,W=f.w)->Q .normal cf W) l a):(Code.region id l.toArray true).wp P Q a w:=
 wp_region_quiet (C:=fun W=>∃f:dO mQ,W=f.w) hm ao ⟨⟨w.drew,u6⟩,rfl⟩ (by simpa using h)
theorem Calls.ahI {mQ:World->Prop}{g:FuncId}(h:Calls P g args W (bx v fun w'=>mQ w')):Calls P g args W fun e fv=>e= .returned v∧∃f:dO mQ,fv=f.w:=
 h.mono fun _ fv ⟨he,aq⟩=>⟨he,⟨fv,aq⟩,rfl⟩
abbrev aR (w:World):World->Prop:=fun W=>ax w W
instance (w:World):Nonempty (dO (aR w)):=⟨⟨w,cE⟩⟩
theorem aR.cell {p:Addr}(h:w.cell? p=some v)(f:dO (aR w)):f.w.cell? p=some v:=bZ f.ok h
theorem aR.call {g:FuncId}(f:dO (aR w))(h:Calls P g args f.w (bx v fun w'=>Below f.w.heap.size f.w w')):Calls P g args f.w fun e fv=>e= .returned v∧∃g:dO (aR w),fv=g.w:=
 Calls.ahI (h.mono fun _ _ ⟨he,aq⟩=>⟨he,f.ok.trans (aq.mono f.ok.size)⟩)
def sW (L:Nat->Int->Prop)(saw:Nat->Int->Nat->Int)(v:Nat->Int)(r:Nat):Prop:=L r (v r+1)∧∀k,saw r (v r+1) k<=v k
def bump (v:Nat->Int)(r:Nat):Nat->Int:=fun k=>if k=r then v k+1 else v k
inductive Reach (L:Nat->Int->Prop) (saw:Nat->Int->Nat->Int) (v0:Nat->Int):(Nat->Int)->Prop
 |refl:Reach L saw v0 v0
 |step {v:Nat->Int} {r:Nat}:Reach L saw v0 v->sW L saw v r->Reach L saw v0 (bump v r)
theorem Reach.low {L:Nat->Int->Prop}{saw:Nat->Int->Nat->Int}{v0 v:Nat->Int}(h:Reach L saw v0 v):∀k,v0 k<=v k:=by
 induction h with
 |refl=>exact fun k=>re _
 |step _ _ ih=>intro k;have:=ih k;unfold bump;split<;>omega
theorem Reach.le {L:Nat->Int->Prop}{saw:Nat->Int->Nat->Int}{v0 v w:Nat->Int}(h:Reach L saw v0 v)(hw:∀k,v0 k<=w k)(hs:∀r,¬sW L saw w r):∀k,v k<=w k:=by
 induction h with
 |refl=>exact hw
 | @step v r _ aC ih=>
  intro k;unfold bump;split
  ·rename_i c
   subst c;have a:=ih k;by_cases e:v k=w k
   ·exfalso
    apply hs k;unfold sW at*;rw[<-e];exact⟨aC.1,fun q=>vC (aC.2 q) (ih q)⟩
   ·omega
  ·exact ih k
theorem Reach.same {L:Nat->Int->Prop}{saw:Nat->Int->Nat->Int}{v0 v w:Nat->Int}(h:Reach L saw v0 v)(av:∀r,¬sW L saw v r)(k:Reach L saw v0 w)(hw:∀r,¬sW L saw w r):v=w:=
 funext fun q=>Int.le_antisymm (h.le k.low hw q) (k.le h.low av q)
inductive qD (saw:Nat->Int->Nat->Int):(Nat->Int)->List (Nat×Int)->(Nat->Int)->Prop
 |nil {v:Nat->Int}:qD saw v [] v
 |yes {v v':Nat->Int} {r:Nat} {s:Int} {l:List (Nat×Int)}:v r+1=s->(∀k,saw r s k<=v k)->qD saw (bump v r) l v'->qD saw v ((r,s)::l) v'
 |no {v v':Nat->Int} {r:Nat} {s:Int} {l:List (Nat×Int)}:¬(v r+1=s∧∀k,saw r s k<=v k)->qD saw v l v'->qD saw v ((r,s)::l) v'
def Vu (saw:Nat->Int->Nat->Int)(a b:Nat×Int):Prop:=(b.1=a.1∧b.2<a.2)∨b.2<=saw a.1 a.2 b.1
theorem agf (v:Nat->Int)(r k:Nat):v k<=bump v r k:=by unfold bump;split<;>omega
theorem qD.low {saw:Nat->Int->Nat->Int}{v v':Nat->Int}{l:List (Nat×Int)}(h:qD saw v l v'):∀k,v k<=v' k:=by
 induction h with
 |nil=>exact fun k=>re _
 |yes _ _ _ ih=>exact fun k=>vC (agf _ _ k) (ih k)
 |no _ _ ih=>exact ih
theorem qD.first {saw:Nat->Int->Nat->Int}{v v':Nat->Int}{l:List (Nat×Int)}(h:qD saw v l v'):∀k,v k<v' k->(k,v k+1)∈l:=by
 induction h with
 |nil=>intro k hk;omega
 | @yes v v' r s l h1 _ _ ih=>
  intro k hk;by_cases c:k=r
  ·subst c;rw[h1];simp
  ·have e:bump v r k=v k:=by unfold bump;rw[if_neg c]
   have:=ih k (by rw[e];exact hk);rw[e]at this;exact Da _ this
 |no _ _ ih=>intro k hk;exact Da _ (ih k hk)
theorem qD.reach {L:Nat->Int->Prop}{saw:Nat->Int->Nat->Int}{v0 v v':Nat->Int}{l:List (Nat×Int)}(h:qD saw v l v')(cT:∀a,a∈l->L a.1 a.2)(aS:Reach L saw v0 v):Reach L saw v0 v':=by
 induction h with
 |nil=>exact aS
 | @yes v v' r s l h1 ae _ ih=>exact ih (fun a aU=>cT a (Da _ aU)) (aS.step ⟨by rw[h1];exact cT (r,s) (by simp),by rw[h1];exact ae⟩)
 |no _ _ ih=>exact ih (fun a aU=>cT a (Da _ aU)) aS
theorem qD.stuck {saw:Nat->Int->Nat->Int}{v v':Nat->Int}{l:List (Nat×Int)}(h:qD saw v l v')(aw:l.Pairwise fun a b=>¬Vu saw a b):∀a,a∈l->¬(v' a.1+1=a.2∧∀k,saw a.1 a.2 k<=v' k):=by
 induction h with
 |nil=>intro a aU;simp at aU
 | @yes v v' r s l h1 ae aH ih=>
  rw[xa]at aw;intro a aU;rcases h3.1 aU with rfl|aU
  ·intro⟨e,_⟩
   have:=aH.low r;unfold bump at this;rw[if_pos rfl]at this;dsimp only at e
   omega
  ·exact ih aw.2 a aU
 | @no v v' r s l h1 aH ih=>
  rw[xa]at aw;intro a aU;rcases h3.1 aU with rfl|aU
  ·intro⟨e,ae⟩
   dsimp only at e ae
   apply h1;have aJ:v' r=v r:=by
    have cO:=aH.low r;by_cases c:v r<v' r
    ·exact absurd (Or.inl ⟨rfl,by show v r+1<s;omega⟩) (aw.1 _ (aH.first r c))
    ·omega
   refine⟨by omega,fun k=>?_⟩;by_cases c:v k<v' k
   ·have:=aw.1 _ (aH.first k c)
    unfold Vu at this;have a2:¬(v k+1<=saw r s k):=fun x=>this (Or.inr x)
    omega
   ·have:=aH.low k
    have:=ae k;omega
  ·exact ih aw.2 a aU
theorem EH (s:ByteArray)(w:World)(hs:s.size<=maxLen):
  Calls prog 134 #[ai s] w (bx (.int .u8 (kindOf s)) fun w'=>w'=w):=by
 unfold maxLen at hs;go_enter func134,ntmps134;go_wp2;all_goals go_ret
 all_goals refine⟨om ?_,rfl⟩
 all_goals first|(rw[J_ (by omega)];done)|rw[Sm (by omega)]
 all_goals try simp only[bne_iff_ne,ne_eq,bne_eq_false_iff_eq]at*
 all_goals(split<;>omega)
theorem acN (key:ByteArray)(w:World)(b off:Nat)(v:Value)(ops:List db)(hn:ops.length<=1000000)
  (av:w.cell? (aa b (off+4))=some v) (bf:Row w 171 4 v ops.length (ops.flatMap db.cells)):
  Calls prog 136 #[.pointer (some (aa b off)),ai key] w (bx (I (sumOf key ops)) fun w'=>w'=w):=by
 obtain⟨cA,cap,rfl,gg,hm,aA⟩:=bf.shape;have bc:=bf;clear bf;have bc:=cy bc;go_enter func136,ntmps136;go_wp2;go_loop [5,6] (fun s i=>∃k:Nat,k<=ops.length∧i=I k∧s=I (sumOf key (ops.take k))) (fun _ i=>ops.length-(intOf i).toNat)
 case atStart=>exact⟨0,ch,rfl,rfl⟩
 case round=>
  obtain⟨k,hk,rfl,rfl⟩:=hrel;by_cases br:k<ops.length
  ·obtain⟨g,rfl,aS⟩:=aA (k*4+0) (by omega)
   obtain⟨_,aP,h1⟩:=aA (k*4+1) (by omega);obtain⟨_,ba,ae⟩:=aA (k*4+3) (by omega);cases aP;cases ba;rw[hC _ 4 db.k_ _ _ _ br (by omega)]at aS h1 ae;simp only[db.cells,jg,kK,j3]at aS h1 ae;have aL:Hid (sumOf key (ops.take (k+1))=if ops[k].kind=1∧ops[k].key=key then wrap64 (sumOf key (ops.take k)+ops[k].cH)else sumOf key (ops.take k)):=by
    rw[kr br];exact acM _ _ _
   clear aA;go_wp2
   ·exact⟨⟨k+1,by omega,by go_num,by rw[aL.o,if_pos ⟨‹_›,yb.1 ‹_›⟩]⟩,by simp[intOf];omega⟩
   ·exact⟨⟨k+1,by omega,by go_num,by rw[aL.o,if_neg (fun h=>A8.1 ‹_› h.2)]⟩,by simp[intOf];omega⟩
   ·exact⟨⟨k+1,by omega,by go_num,by rw[aL.o,if_neg (fun h=>absurd h.1 ‹_›)]⟩,by simp[intOf];omega⟩
  ·go_wp2
   go_ret;exact⟨om (by rw[lQ (by omega)]),rfl⟩
theorem Tryz.CL:(prog.info? 9).map (fun i=>(i.zero,i.size,i.bytes))=some (some (ai ⟨#[]⟩),1,16):=by kernel_rfl
theorem Tryz.GL:(prog.info? 3).map (fun i=>(i.zero,i.size,i.bytes))=some (some (I 0),1,8):=by kernel_rfl
theorem Ha (w:World)(v:Value)(vec:List Int)(r s:Int)(aS:0<=r)(h1:r<vec.length)(bf:Row w 3 1 v vec.length (ints vec)):
  Calls prog 174 #[v,.agg #[I r,I s]] w (bx (.bool (fc vec r s)) fun w'=>ax w w'):=by
 obtain⟨g,cap,rfl,gg,hm,aM,aA,bm⟩:=bf.pos (by omega);obtain⟨k,rfl⟩:=Int.eq_ofNat_of_zero_le aS;have hk:k<vec.length:=by omega
 have ae:=aA k (by omega);rw[o9 _ _ hk]at ae;have aL:Hid (fc vec (k:Int) s=decide (s<=vec[k])):=by simp[Hid,fc,hk]
 clear aA bm;have bc:=cy bf;clear bf;generalize vec[k]=x at*;go_enter func174,ntmps174;go_wp2;go_quiet(fail);go_wp2;go_ret;exact⟨q2 (by rw[aL.o]),ym ((cj _ _)) _⟩
theorem uw (w:World)(b:Nat)(v:Value)(xs:List cq)(tx:Int)(hn:xs.length<=1000000)
  (av:eh w b 2 v)(bf:Row w 217 5 v xs.length (xs.flatMap cq.cells)):
  Calls prog 133 #[.pointer (some (aa b 0)),I tx] w (bx (.bool (kE xs tx)) fun w'=>w'=w):=by
 by_cases al:0<=tx∧tx<xs.length
 ·obtain⟨g,cap,rfl,gg,hm,aM,aA,bm⟩:=bf.pos (by omega)
  obtain⟨k,rfl⟩:=Int.eq_ofNat_of_zero_le al.1;have hk:k<xs.length:=by omega
  have ae:=aA (k*5+0) (by omega);rw[hC _ 5 cq.k_ _ _ _ hk (by omega)]at ae;simp only[cq.cells,jg,j3]at ae;have aL:Hid (kE xs (k:Int)=xs[k].fA):=by simp[Hid,kE,hk]
  clear aA bm;have bc:=cy bf;clear bf al;generalize xs[k]=x at*;go_enter func133,ntmps133;go_wp2;go_ret;exact⟨q2 (by rw[aL.o]),rfl⟩
 ·have aL:Hid (kE xs tx=false):=by simp only[Hid,kE];rw[dif_neg al]
  obtain⟨cA,cap,rfl,gg,hm,aA⟩:=bf.shape;clear aA;have bc:=cy bf;clear bf;have ma:tx<0∨(xs.length:Int)<=tx:=by omega
  clear al;rcases ma with al|al
  ·go_enter func133,ntmps133
   go_wp2;go_ret;exact⟨q2 (by rw[aL.o]),rfl⟩
  ·have aS:0<=tx:=by omega
   go_enter func133,ntmps133;go_wp2;go_ret;exact⟨q2 (by rw[aL.o]),rfl⟩
theorem L8 (w:World)(v:Value)(l:List Int)(aS:0<l.length)(h1:l.length<=1000000)(bf:Row w 3 1 v l.length (ints l)):
  Calls prog 132 #[v] w fun e w'=>∃v',e= .returned v'∧w'.ownsRow w.heap.size 3 1 v' l.length (ints l)∧ax w w':=by
 obtain⟨g,cap,rfl,gg,hm,aM,aA,bm⟩:=bf.pos aS;clear bm;have bc:=cy bf;clear bf;obtain⟨i0,aq,dC,dM,dK⟩:=iV Tryz.GL;go_enter func132,ntmps132;go_wp2_with(at_builtin;refine yw _ rfl _ _ 44 rfl w.heap.size 3 i0 (I 0) 1 8 underlying44 aq dC dM dK rfl (by decide) _ _ _ rfl (jD _ _ _ _) (aa g 0) l.length cap (ints l) rfl (by simp[ints]) ?hn ?h1 ?hm ?hb (by omega) ?_)
 case hn=>
  intro j u hu;have af:j<l.length:=by
   have:=(w8.1 hu).1;simpa[ints]using this
  rw[Bj,vF,aA j (by omega),hu]
 case h1=>intro u hu;simp only[ints,gF]at hu;obtain⟨a,_,rfl⟩:=hu;rfl
 case hm=>unfold maxLen;omega
 case hb=>omega
 intro v1 an dd ka wy;go_wp2;go_ret;refine⟨_,rfl,by simpa using dd,(cE).grown ka cv (fun k h=>by simp[Value.ownBlock]at h)⟩
theorem WC (key:ByteArray)(w:World)(b off:Nat)(v:Value)(ops:List db)(hn:ops.length<=1000000)(hb:b<w.heap.size)
  (av:w.cell? (aa b (off+4))=some v) (bf:Row w 171 4 v ops.length (ops.flatMap db.cells)):
  Calls prog 141 #[.pointer (some (aa b off)),ai key] w fun e w'=>∃v',e= .returned v'∧w'.ownsRow w.heap.size 9 1 v' (lG key ops).length (strs (lG key ops))∧ax w w':=by
 obtain⟨cA,cap,rfl,gg,hm,aA⟩:=bf.shape;have br:=fun k hk=>bf.lt (k:=k) hk
 have bc:=cy bf;clear bf;obtain⟨i0,aq,dC,dM,dK⟩:=iV Tryz.CL;go_enter func141,ntmps141;go_wp2;go_loopw[5,6] (fun l i wr=>∃k:Nat,k<=ops.length∧i=I k∧wr.ownsRow w.heap.size 9 1 l (lG key (ops.take k)).length (strs (lG key (ops.take k)))∧ax w wr) (fun _ i _=>ops.length-(intOf i).toNat)
 case atStart=>exact⟨0,ch,rfl,by simpa[lG,strs]using jD _ _ _ _,cE⟩
 case round=>
  obtain⟨k,hk,rfl,dd,ao⟩:=hrel;have fb:=ao.size;have iq:wr.cell? (aa b (off+4))=some (.slice cA ops.length cap):=by rw[ao.cell (p:=(aa b (off+4))) hb];exact av
  have D_:b<wr.heap.size:=by omega
  clear av;by_cases cW:k<ops.length
  ·obtain⟨g,rfl,h1⟩:=aA (k*4+1) (by omega)
   obtain⟨_,ba,ae⟩:=aA (k*4+2) (by omega);cases ba;have aM:=br g rfl;rw[hC _ 4 db.k_ _ _ _ (by omega) (by omega),<-ao.cell (p:=(aa g _)) aM]at h1 ae;simp only[db.cells,jg,kK]at h1 ae;have aL:Hid (lG key (ops.take (k+1))=lG key (ops.take k)++(if ops[k].key=key then[ops[k].value]else[])):=by
    rw[kr cW];exact WD _ _ _
   have hle:=IG key (ops.take k);rw[ng]at hle;clear aA br;have vh:g<wr.heap.size:=by omega
   generalize ops[k]=o at*;generalize lG key (ops.take k)=es at*;by_cases AM:o.key=key
   ·have e7:=yb.2 AM
    rw[if_pos AM]at aL;clear AM;go_wp2_with(at_builtin;refine yw _ rfl _ _ 41 rfl w.heap.size 9 i0 (ai ⟨#[]⟩) 1 16 underlying41 aq dC dM dK rfl (by decide) _ _ _ rfl (dd.alloc _) (aa (wr.heap.size) 0) 1 1 [ai o.value] rfl rfl (qw _ _ _) (by intro u hu;simp at hu;subst hu;rfl) (by unfold maxLen;omega) (by omega) (by simp;omega) ?_;intro v1 an hc iI qT)
    go_roundw
    case rel=>
     refine⟨k+1,by omega,by go_num,?_,(ao.alloc (by omega) _).grown iI (by simp;omega) (fun j af=>(dd.lt j af).1)⟩;rw[aL.o,Hg];simpa using hc
    case measure=>simp[intOf];omega
   ·have e7:=A8.2 AM
    rw[if_neg AM,qu]at aL;clear AM;go_wp2;go_roundw
    case rel=>exact⟨k+1,by omega,by go_num,by rw[aL.o];exact dd,ao⟩
    case measure=>simp[intOf];omega
  ·go_wp2
   go_ret;refine⟨_,rfl,?_,ao⟩;rw[lQ (by omega)]at dd;exact dd
theorem agR (w:World)(az n:Nat)(de v:Value)(xs:List cq)(ts:List aT)(vec:List Int)(key:ByteArray)(G:qz w az n de xs ts)(jY:vec.length=n)
  (bf:Row w 3 1 v vec.length (ints vec)):
  Calls prog 135 #[.pointer (some (aa az 0)),v,ai key] w (bx (I (nV vec key ts)) fun w'=>ax w w'):=by
 obtain⟨cA,cap,rfl,gg,um⟩:=G.shape;have MD:=G.Iq;have aU:=G.aU;have gO:=cy G;have bc:=cy bf;have dn:=cy jY;clear G bf jY;go_enter func135,ntmps135;go_wp2;go_loopw[7,8] (fun m i wr=>∃k:Nat,k<=ts.length∧i=I k∧m=I (nV vec key (ts.take k))∧ax w wr) (fun _ i _=>ts.length-(intOf i).toNat)
 case atStart=>exact⟨0,ch,rfl,rfl,cE⟩
 case round=>
  obtain⟨k,hk,rfl,rfl,ao⟩:=hrel;have xf:=gO.o.below ao;have Gi:=xf.aU;clear aU;by_cases cW:k<ts.length
  ·obtain⟨hD,x,rfl,Rc,h1,ae,aH,bd,al,aJ,o3⟩:=xf.pick k cW
   have aL:Hid (nV vec key (ts.take (k+1))=if fc vec ts[k].rep ts[k].seq then wrap64 (nV vec key (ts.take k)+sumOf key ts[k].ops)else nV vec key (ts.take k)):=by
    rw[kr cW];exact Wd _ _ _ _
   clear xf o3;have dA:=cy al;clear al;generalize ts[k]=t at*;have RM:=cy (Row.below bc.o ao);go_wp2_with fail
   refine(Ha _ _ vec _ _ (by omega) (by have:=dn.o;omega) RM.o).mono ?_;rintro e an ⟨rfl,aF⟩;have QW:=bZ aF Gi;have QA:=bZ aF bd;clear Gi h1 ae aH bd;cases wE:fc vec t.rep t.seq
   ·go_wp2_with fail
    exact⟨⟨k+1,by omega,by go_num,by rw[aL.o,wE];rfl,ao.trans (aF.mono ao.size)⟩,by simp[intOf];omega⟩
   ·go_wp2_with fail
    refine(acN key _ hD (k*5) _ t.ops (by have:=dA.o.ea;omega) (by assumption) (dA.o.below aF).ops).mono ?_;rintro e w2 ⟨rfl,rfl⟩;go_wp2_with fail
    exact⟨⟨k+1,by omega,by go_num,by rw[aL.o,wE];rfl,ao.trans (aF.mono ao.size)⟩,by simp[intOf];omega⟩
  ·go_wp2
   go_ret;exact⟨om (by rw[lQ (by omega)]),ao⟩
theorem WW (w:World)(az n hD cap:Nat)(xs:List cq)(ts:List aT)(r s:Int)(G:qz w az n (.slice (some ⟨hD,0,none⟩) ts.length cap) xs ts)
  (i:Nat)(aq:i<ts.length)(y1:kY r s ts[i]=true)(eV:∀j (af:j<i),kY r s (ts[j]'(by omega))=false):
  Calls prog 143 #[.pointer (some ⟨az,0,none⟩),.agg #[.int .i64 r,.int .i64 s]] w fun e w'=>e= .returned (.pointer (some ⟨hD,i*5,none⟩))∧Below w.heap.size w w':=by
 obtain⟨_,_,_,gg,um⟩:=G.shape;have MD:=G.Iq;have aU:=G.aU;have gO:Hid _:=G;have cp:Hid _:=eV;have cw:Hid _:=y1;clear G eV y1;go_enter func143,ntmps143;go_wp2;go_loopw[5] (fun j wr=>∃k:Nat,k<=i∧j= .int .i64 k∧Below (w.heap.size+1) (w.alloc (.cells #[.int .i64 r,.int .i64 s] 62)) wr) (fun j _=>ts.length-(intOf j).toNat)
 case atStart=>exact⟨0,Nat.zero_le _,rfl,Below.refl _ _⟩
 case round=>
  obtain⟨k,hk,rfl,ki⟩:=hrel;have ao:Below w.heap.size w wr:=((Below.refl _ _).alloc (Nat.le_refl _) _).trans (ki.mono (by omega));have AE:wr.cell? ⟨w.heap.size,0,none⟩=some (.int .i64 r):=by rw[ki.cell (p:=⟨w.heap.size,0,none⟩) (by simp)];simp
  have Eh:wr.cell? ⟨w.heap.size,1,none⟩=some (.int .i64 s):=by rw[ki.cell (p:=⟨w.heap.size,1,none⟩) (by simp)];simp
  have xf:=gO.o.below ao;have Gi:=xf.aU;have cW:k<ts.length:=by omega
  obtain⟨_,x,e,Rc,h1,ae,aH,bd,al,aJ,o3⟩:=xf.pick k cW;cases e;clear xf o3 al aH bd aU;have dA:Hid (kY r s ts[k]=decide (ts[k].rep=r∧ts[k].seq=s)):=rfl;by_cases tk:k=i
  ·subst tk
   have dQ:=of_decide_eq_true cw.o;have Gt:(ts[k].rep==r)=true:=by rw[dQ.1];simp
   have YL:(ts[k].seq==s)=true:=by rw[dQ.2];simp
   clear cw dA cp dQ;generalize ts[k]=t at*;go_wp2;go_quiet(fail);go_wp2;go_ret;exact⟨rfl,below_drewN ao _⟩
  ·have dQ:=cp.o k (by omega)
   have wu:¬(ts[k].rep=r∧ts[k].seq=s):=of_decide_eq_false dQ;clear cw dA cp dQ;generalize ts[k]=t at*;by_cases Gt:t.rep=r
   ·have YL:(t.rep==r)=true:=by rw[Gt];simp
    have asD:(t.seq==s)=false:=by simp;exact fun h=>wu ⟨Gt,h⟩
    clear Gt wu;go_wp2;go_quiet(fail);go_wp2;exact⟨⟨k+1,by omega,by go_num,below_drewN ki _⟩,by simp[intOf];omega⟩
   ·have YL:(t.rep==r)=false:=by simp;exact Gt
    clear Gt wu;go_wp2;go_quiet(fail);go_wp2;exact⟨⟨k+1,by omega,by go_num,below_drewN ki _⟩,by simp[intOf];omega⟩
theorem Kd (key el:ByteArray)(w:World)(b off:Nat)(v:Value)(ops:List db)(hn:ops.length<=1000000)(hb:b<w.heap.size)
  (av:w.cell? (aa b (off+4))=some v) (bf:Row w 171 4 v ops.length (ops.flatMap db.cells)):
  Calls prog 137 #[.pointer (some (aa b off)),ai key,ai el] w (bx (EJ (dR key el ops)) fun w'=>ax w w'):=by
 obtain⟨cA,cap,rfl,gg,hm,aA⟩:=bf.shape;have br:=fun k hk=>bf.lt (k:=k) hk
 have bc:=cy bf;clear bf;go_enter func137,ntmps137;go_wp2;go_loopw[8] (fun i wr=>∃k:Nat,k<=ops.length∧i=I ((k:Int)-1)∧(∀j (af:j<ops.length),k<=j->l7 key el ops[j]=false)∧Below (w.heap.size+1) (w.alloc (.cells #[I 0,ai ⟨#[]⟩,ai ⟨#[]⟩,I 0] 171)) wr) (fun i _=>(intOf i+1).toNat)
 case atStart=>exact⟨ops.length,cv,rfl,fun j af h=>by omega,cE⟩
 case round=>
  obtain⟨k,hk,rfl,eV,ki⟩:=hrel;have ao:ax w wr:=((cj _ _)).trans (ki.mono (by omega));have fb:w.heap.size+1<=wr.heap.size:=by have:=ki.size;simpa using this
  have iq:wr.cell? (aa b (off+4))=some (.slice cA ops.length cap):=by rw[ao.cell (p:=(aa b (off+4))) hb];exact av
  have bm:∀j,wr.frozen? (aa (w.heap.size) j)=false:=fun j=>by rw[ki.frozen (p:=(aa (w.heap.size) j)) (by simp)];exact W_ _ _ _ _
  have ur:wr.cell? (aa (w.heap.size) 0)=some (I 0):=by rw[ki.cell (p:=(aa (w.heap.size) 0)) (by simp)];simp
  have o0:wr.cell? (aa (w.heap.size) 1)=some (ai ⟨#[]⟩):=by rw[ki.cell (p:=(aa (w.heap.size) 1)) (by simp)];simp
  have uu:wr.cell? (aa (w.heap.size) 2)=some (ai ⟨#[]⟩):=by rw[ki.cell (p:=(aa (w.heap.size) 2)) (by simp)];simp
  have RI:wr.cell? (aa (w.heap.size) 3)=some (I 0):=by rw[ki.cell (p:=(aa (w.heap.size) 3)) (by simp)];simp
  have D_:b<wr.heap.size:=by omega
  have o6:w.heap.size<wr.heap.size:=by omega
  clear av;cases k with
  |zero=>
   have cp:=cy (al2 fun j af=>eV j af (by omega));clear eV aA;go_wp2;refine iX (v:=EJ none) (by simp[results,results137,go_sem,EJ,db.none,db.agg,ur,o0,uu,RI]) rfl ⟨by rw[cp.o],?_⟩;exact((((ao.setCell (by simp) _).setCell (by simp) _).setCell (by simp) _).setCell (by simp) _)
  |succ m=>
   obtain⟨g,rfl,aS⟩:=aA (m*4+0) (by omega);obtain⟨_,aP,h1⟩:=aA (m*4+1) (by omega);obtain⟨_,ba,ae⟩:=aA (m*4+2) (by omega);obtain⟨_,ey,aH⟩:=aA (m*4+3) (by omega);cases aP;cases ba;cases ey;have aM:=br g rfl;rw[hC _ 4 db.k_ _ _ _ (by omega) (by omega),<-ao.cell (p:=(aa g _)) aM]at aS h1 ae aH;simp only[db.cells,jg,kK,j3]at aS h1 ae aH;clear aA br;have vh:g<wr.heap.size:=by omega
   have e:((m+1:Nat):Int)-1=m:=by omega
   rw[e];clear e;by_cases dQ:l7 key el ops[m]=true
   ·have cp:=cy (aaj (by omega) dQ fun j af h=>eV j af (by omega))
    have wu:=sM dQ;have e7:=yb.2 wu.1;have IZ:=wu.2.imp id yb.2;clear eV dQ wu;generalize ops[m]=o at*;rcases IZ with IZ|IZ
    ·have tj:(o.kind==2)=true:=by simp[IZ]
     clear IZ;go_wp2;refine iX (v:=EJ (some o)) (by simp[results,results137,go_sem,EJ,db.agg,ur,o0,uu,RI,o6];try omega) rfl ⟨by rw[cp.o],?_⟩;exact(((((ao.setCell (by simp) _).setCell (by simp) _).setCell (by simp) _).setCell (by simp) _).alloc (by simp;omega) _)
    ·go_wp2
     all_goals
      refine iX (v:=EJ (some o)) (by simp[results,results137,go_sem,EJ,db.agg,ur,o0,uu,RI,o6];try omega) rfl ⟨by rw[cp.o],?_⟩;exact(((((ao.setCell (by simp) _).setCell (by simp) _).setCell (by simp) _).setCell (by simp) _).alloc (by simp;omega) _)
   ·have Zd:Hid (∀j (af:j<ops.length),m<=j->l7 key el ops[j]=false):=fun j af h=>by
     by_cases e:j=m
     ·subst e;simpa using dQ
     ·exact eV j af (by omega)
    have wu:¬(ops[m].key=key∧(ops[m].kind=2∨ops[m].value=el)):=fun h=>dQ (yu h)
    clear eV dQ;by_cases e7:ops[m].key=key
    ·have tj:¬ops[m].kind=2:=fun h=>wu ⟨e7,.inl h⟩
     have rH:=A8.2 fun h=>wu ⟨e7,.inr h⟩
     have ajI:=yb.2 e7;clear wu e7;go_wp2;all_goals exact⟨⟨m,by omega,rfl,Zd.o,ki.alloc (by omega) _⟩,by simp[intOf]⟩
    ·have ajI:=A8.2 e7
     clear wu e7;go_wp2;all_goals exact⟨⟨m,by omega,rfl,Zd.o,ki.alloc (by omega) _⟩,by simp[intOf]⟩
theorem J {p:Prop}(h:p):Hid p:=h
def strLt (a b:ByteArray):Bool:=Op.bytesLess a.toList b.toList
def o8 (L:List ByteArray)(s:ByteArray)(k:Nat):List ByteArray:=L.take k++s::L.drop k
def place (L:List ByteArray)(s:ByteArray):Nat->Nat
 |0=>0
 |k+1=>if strLt s (L.getD k cK)then place L s k else k+1
def ph (L:List ByteArray)(s:ByteArray):List ByteArray:=if L.any (fun a=>decide (a=s))then L else o8 L s (place L s L.length)
theorem Ns (L:List ByteArray)(s:ByteArray)(k:Nat)(h:k<=L.length):(o8 L s k).length=L.length+1:=by
 simp[o8];omega
theorem als (L:List ByteArray)(s:ByteArray):o8 L s L.length=L++[s]:=by simp[o8]
theorem Z0 (L:List ByteArray)(s:ByteArray)(k:Nat)(h:k<=L.length):(o8 L s k)[k]?=some s:=by
 rw[o8,yq (by simp;omega)];simp[Hx h]
theorem alr (L:List ByteArray)(s:ByteArray)(k j:Nat)(af:j<k)(h:k<=L.length):(o8 L s k)[j]?=L[j]?:=by
 rw[o8,w7 (by simp;omega),getElem?_take,if_pos af]
theorem alu (L:List ByteArray)(s:ByteArray)(m:Nat)(h:m<L.length):((o8 L s (m+1)).set (m+1) L[m]).set m s=o8 L s m:=by
 apply ext_getElem?;intro i;rw[Bm,Bm];by_cases h1:m=i
 ·subst h1;rw[if_pos rfl,Z0 L s m (by omega)];simp[o8];omega
 ·rw[if_neg h1]
  by_cases ae:m+1=i
  ·subst ae
   rw[if_pos rfl,if_pos (by rw[Ns _ _ _ h];omega),o8,yq (by simp;omega)];simp only[ng,Hx (Dd h)];rw[show m+1-m=0+1 from by omega,kK,getElem?_drop];simp[h]
  ·rw[if_neg ae,o8,o8]
   by_cases aH:i<m
   ·rw[w7 (by simp;omega),w7 (by simp;omega),getElem?_take,getElem?_take,if_pos (by omega),if_pos aH]
   ·rw[yq (by simp;omega),yq (by simp;omega)]
    simp only[ng,Hx (show m+1<=L.length from h),Hx (Dd h)];obtain⟨d,rfl⟩:∃d,i=m+2+d:=⟨i-(m+2),by omega⟩;rw[show m+2+d-(m+1)=d+1 from by omega,show m+2+d-m=(d+1)+1 from by omega];simp only[kK,getElem?_drop];congr 1;omega
theorem Hq (L:List ByteArray)(s:ByteArray):(ph L s).length<=L.length+1:=by
 have aw:∀k,place L s k<=k:=by
  intro k;induction k with
  |zero=>exact cv
  |succ k ih=>unfold place;split<;>omega
 unfold ph;split
 ·omega
 ·rw[Ns _ _ _ (aw _)];exact cv
theorem acL (l:List ByteArray)(j:Nat)(s:ByteArray):(strs l).set j (ai s)=strs (l.set j s):=by simp[strs,map_set]
theorem Touch.drewN {S:Nat->Prop}(h:Touch S a w)(n:Nat):Touch S a (w.drewN n):=⟨h.os,h.tape,h.output,h.size,h.block⟩
theorem aqq {o:Obj}(h:(bo g n cap).ownBlock=v.ownBlock∨(bo g n cap).ownBlock=some (w.alloc o).heap.size):v.ownBlock=some g∨w.heap.size<=g:=by
 rcases h with h|h
 ·exact Or.inl h.symm
 ·simp[Value.ownBlock]at h;exact Or.inr (by omega)
theorem adx (h:v.ownBlock=some g∨w.heap.size<=g)(hk:(bo g n cap).ownBlock=some k):v.ownBlock=some k∨w.heap.size<=k:=by
 simp[Value.ownBlock]at hk;subst hk;exact h
theorem OK (w:World)(v:Value)(L:List ByteArray)(s:ByteArray)(hn:L.length<=100000000)
  (bf:w.ownsRow 0 9 1 v L.length (strs L)):
  Calls prog 140 #[v,ai s] w fun e w'=>∃v',e= .returned v'∧w'.ownsRow 0 9 1 v' (ph L s).length (strs (ph L s))∧Touch (fun k=>v.ownBlock=some k) w w'∧(∀k,v'.ownBlock=some k->v.ownBlock=some k∨w.heap.size<=k):=by
 obtain⟨cA,cap,rfl,gg,hm,aA⟩:=Row.shape bf;obtain⟨i0,aq,dC,dM,dK⟩:=iV Tryz.CL;have bc:=J bf;clear bf;go_enter func140,ntmps140;go_wp2;go_loop [5] (fun i=>∃k:Nat,k<=L.length∧i=I k∧∀j (af:j<L.length),j<k->¬L[j]=s) (fun i=>L.length-(intOf i).toNat)
 case atStart=>exact⟨0,ch,rfl,fun j af h=>by omega⟩
 case round=>
  obtain⟨k,hk,rfl,eV⟩:=hrel;have cp:=J eV;clear eV;by_cases cW:k<L.length
  ·obtain⟨g,rfl,h1⟩:=aA k (by omega)
   rw[Hf _ _ cW]at h1;clear aA;by_cases he:L[k]=s
   ·have rF:=yb.2 he
    have ew:Hid (ph L s=L):=by
     unfold Hid ph;rw[if_pos (zJ.2 ⟨L[k],eT cW,by simp[he]⟩)]
    clear he;generalize L[k]=a at*;go_wp2;go_ret;exact⟨_,rfl,by rw[ew.o];exact bc.o,Touch.refl _ _,fun k hk=>Or.inl hk⟩
   ·have rF:=A8.2 he
    have aeo:Hid (∀j (af:j<L.length),j<k+1->¬L[j]=s):=fun j af h=>by
     by_cases e:j=k
     ·subst e;exact he
     ·exact cp.o j af (by omega)
    clear he cp;generalize L[k]=a at*;go_wp2;exact⟨⟨k+1,by omega,by go_num,aeo.o⟩,by simp[intOf];omega⟩
  ·have ew:Hid (ph L s=o8 L s (place L s L.length)):=by
    unfold Hid ph;rw[if_neg];intro ik;obtain⟨a,aU,aB⟩:=zJ.1 ik;obtain⟨j,af,e⟩:=fQ.1 aU;exact cp.o j af (by omega) (e.trans (sM aB))
   clear aA cp;go_wp2_with(at_builtin;refine tK _ rfl _ _ 41 rfl 0 9 i0 (ai ⟨#[]⟩) 1 16 underlying41 aq dC dM dK rfl (by decide) _ _ _ rfl (bc.o.alloc _) (aa (w.heap.size) 0) 1 1 [ai s] rfl rfl (qw _ _ _) (by intro u hu;simp at hu;subst hu;rfl) (by unfold maxLen;omega) (by omega) ch ?_;intro v1 an hc iI qT kQ;have sf:Touch (fun k=>(Value.slice cA L.length cap).ownBlock=some k) w an:=((Touch.refl _ _).alloc _).grown iI (fun j af=>Or.inl af);have fm:an.ownsRow 0 9 1 v1 (L.length+1) (strs (o8 L s L.length)):=(by rw[als,Hg];exact hc);obtain⟨g,vX,rfl,asb,so,Gr,-,-⟩:=Row.pos fm (by omega);have um:Hid ((Value.slice cA L.length cap).ownBlock=some g∨w.heap.size<=g):=aqq kQ;clear hc iI qT kQ;have h4:=J fm;clear fm)
   go_loopw[6] (fun mH wr=>∃k:Nat,k<=L.length∧mH=I k∧place L s k=place L s L.length∧wr.ownsRow 0 9 1 (bo g (L.length+1) vX) (L.length+1) (strs (o8 L s k))∧Touch (fun k=>(Value.slice cA L.length cap).ownBlock=some k) w wr) (fun mH _=>(intOf mH).toNat)
   case atStart=>exact⟨L.length,cv,by go_num,rfl,h4.o,sf⟩
   case round=>
    obtain⟨k,hk,rfl,kk,dd,ao⟩:=hrel;have xl:=J kk;clear kk;cases k with
    |zero=>
     go_wp2;go_quiet(fail);go_wp2;go_ret;refine⟨_,rfl,?_,ao.drewN _,fun k hk=>adx um.o hk⟩;have eo:ph L s=o8 L s 0:=by rw[ew.o,<-xl.o];rfl
     rw[eo,Ns _ _ _ ch];exact dd
    |succ m=>
     have Jl:wr.cell? (aa g (m+1))=some (ai s):=by
      rw[dd.cellAt (m+1) (by omega),strs,zK,Z0 _ _ _ hk];rfl
     have uj:wr.cell? (aa g m)=some (ai L[m]):=by
      rw[dd.cellAt m (by omega),strs,zK,alr _ _ _ _ (by omega) hk];simp[show m<L.length from hk]
     have Ci:∀j,wr.frozen? (aa g j)=false:=fun j=>dd.frozenAt j
     have Dv:=J dd;have a1:=alu L s m hk;have er:=J a1;have Zg:place L s (m+1)=if strLt s L[m]then place L s m else m+1:=by
      rw[place];simp[show m<L.length from hk]
     have U5:=J Zg;clear a1 Zg dd;cases br:Op.bytesLess s.toList L[m].toList
     ·go_wp2
      go_quiet(fail);go_wp2;go_ret;refine⟨_,rfl,?_,ao.drewN _,fun k hk=>adx um.o hk⟩;rw[ew.o,<-xl.o,U5.o,if_neg (by rw[strLt,br];simp),Ns _ _ _ hk];exact Dv.o
     ·go_wp2
      go_quiet(fail);go_wp2;have sr:=Dv.o;have h1:=(sr.stored (m+1) (ai L[m])).1;have ae:=(h1.stored m (ai s)).1;rw[acL,acL,er.o]at ae;refine⟨⟨m,by omega,rfl,?_,ae,((ao.drewN _).setCell um.o _).setCell um.o _⟩,by simp[intOf]⟩;rw[<-xl.o,U5.o,if_pos (by rw[strLt,br])]
def hZ (o:Option db):Int:=(o.getD db.none).kind
def IT (v:List Int)(key el:ByteArray)(t:aT)(acc:Bool)(u:aT):Bool:=
 acc||(fc v u.rep u.seq&&fc u.saw t.rep t.seq&&(dR key el u.ops).isSome&&decide (hZ (dR key el u.ops)=4))
def mB (v:List Int)(key el:ByteArray)(t:aT)(ts:List aT):Bool:=ts.foldl (IT v key el t) false
theorem aip (v:List Int)(key el:ByteArray)(t:aT)(ts:List aT)(u:aT):mB v key el t (ts++[u])=IT v key el t (mB v key el t ts) u:=by simp[mB]
def q5 (v:List Int)(key:ByteArray)(ts:List aT)(t:aT)(acc:List ByteArray)(el:ByteArray):List ByteArray:=
 if hZ (dR key el t.ops)=3 then(if mB v key el t ts then acc else ph acc el)else acc
def rX (v:List Int)(key:ByteArray)(ts:List aT)(acc:List ByteArray)(t:aT):List ByteArray:=
 if fc v t.rep t.seq then(lG key t.ops).foldl (q5 v key ts t) acc else acc
def setOf (v:List Int)(key:ByteArray)(ts:List aT):List ByteArray:=ts.foldl (rX v key ts) []
theorem aoR (v:List Int)(key:ByteArray)(ts:List aT)(t:aT)(acc:List ByteArray)(el:ByteArray):(q5 v key ts t acc el).length<=acc.length+1:=by
 unfold q5;split
 ·split
  ·omega
  ·exact Hq _ _
 ·omega
theorem aoP (h:Below W.drew.heap.size W.drew w):
  ∃aI,Value.pointer (some (aa (w.heap.size) 0))= .pointer (some (aa aI 0))∧(w.alloc (.cells #[I hG,ai d1,ai d2,I d3] t)).cell? (aa aI 0)=some (I hG)∧
   Value.bool b= .bool b∧ax W (w.alloc (.cells #[I hG,ai d1,ai d2,I d3] t)):=by
 have e5:ax W w:=((cE).drew).trans h;exact⟨w.heap.size,rfl,by simp,rfl,e5.alloc e5.size _⟩
theorem aoQ {c:Array Value}(h:Below (W.alloc (.cells c t)).drew.heap.size (W.alloc (.cells c t)).drew w)(aA:0<c.size):
  ∃aI,Value.pointer (some (aa (W.heap.size) 0))= .pointer (some (aa aI 0))∧((((w.setCell (aa (W.heap.size) 0) (I hG)).setCell (aa (W.heap.size) 1) (ai d1)).setCell (aa (W.heap.size) 2) (ai d2)).setCell (aa (W.heap.size) 3) (I d3)).cell? (aa aI 0)=some (I hG)∧
   Value.bool b= .bool b∧ax W ((((w.setCell (aa (W.heap.size) 0) (I hG)).setCell (aa (W.heap.size) 1) (ai d1)).setCell (aa (W.heap.size) 2) (ai d2)).setCell (aa (W.heap.size) 3) (I d3)):=by
 have hs:W.heap.size<(W.alloc (.cells c t)).drew.heap.size:=by show W.heap.size<(W.alloc (.cells c t)).heap.size;simp
 have e5:ax W w:=(((cj _ _)).drew).trans (h.mono (Dd hs));have eb:w.cell? (aa (W.heap.size) 0)=some c[0]:=by
  rw[h.cell (p:=(aa (W.heap.size) 0)) hs];show(W.alloc (.cells c t)).cell? _=_
  simp[aA]
 refine⟨W.heap.size,rfl,?_,rfl,((((e5.setCell cv _).setCell cv _).setCell cv _).setCell cv _)⟩;simp[eb,go_sem]
def FZ (ag:List Int)(r s:Int)(saw:List Int):Bool:=decide (ag.getD r.toNat 0=s-1∧∀k,k<saw.length->saw.getD k 0<=ag.getD k 0)
theorem agl (w:World)(b aV off:Nat)(bD sv:Value)(ag saw:List Int)(r s:Int)(ur:0<=r)(o0:r<ag.length)(wD:1<=s)(jX:s<=2000000)(aC:saw.length=ag.length)(hn:ag.length<=5)
  (hb:b<w.heap.size)(EA:aV<w.heap.size)(h1:eh w b 1 bD)(av:Row w 3 1 bD ag.length (ints ag))(akD:eh w aV (off+1) (I r))(Nj:eh w aV (off+2) (I s))(Zx:eh w aV (off+3) sv)(jl:Row w 3 1 sv saw.length (ints saw)):
  Calls prog 144 #[.pointer (some (aa b 0)),.pointer (some (aa aV off))] w (bx (.bool (FZ ag r s saw)) fun w'=>ax w w'):=by
 obtain⟨g,cap,rfl,gg,hm,aM,aA,bm⟩:=av.pos (by omega);obtain⟨g2,lV,rfl,X8,xU,fi,sh,Ch⟩:=jl.pos (by omega);obtain⟨k,rfl⟩:=Int.eq_ofNat_of_zero_le ur;have hk:k<ag.length:=by omega
 have c1:=aA k (by omega);rw[o9 _ _ hk]at c1;have ff:=J av;have aL:=J jl;have dn:=J aC;have bO:Hid (FZ ag (k:Int) s saw=decide (ag[k]=s-1∧∀k,k<saw.length->saw.getD k 0<=ag.getD k 0)):=by simp[Hid,FZ,hk]
 clear aA bm sh Ch av jl aC ur o0;by_cases aP:ag[k]=s-1
 ·have ba:(ag[k] !=s-1)=false:=by simp[aP]
  have bX:=J aP;clear aP;generalize ag[k]=x at*;go_enter func144,ntmps144;go_wp2;go_quiet(fail);go_wp2;go_loopw[4,5] (fun _ kc wr=>∃j:Nat,j<=saw.length∧kc=I j∧(∀i,i<j->saw.getD i 0<=ag.getD i 0)∧ax w wr) (fun _ kc _=>saw.length-(intOf kc).toNat)
  case atStart=>exact⟨0,ch,rfl,fun i aq=>by omega,ym cE _⟩
  case round=>
   obtain⟨j,af,rfl,tn,ao⟩:=hrel;have UX:=J tn;clear tn c1 ba;have Xp:=bZ ao h1;have arS:=bZ ao Zx;have D_:b<wr.heap.size:=by have:=ao.size;omega
   have as8:aV<wr.heap.size:=by have:=ao.size;omega
   clear h1 akD Nj Zx;by_cases br:j<saw.length
   ·obtain⟨_,_,e,-,-,-,aA,-⟩:=(ff.o.below ao).pos (by omega)
    cases e;obtain⟨_,_,e,-,-,-,sh,-⟩:=(aL.o.below ao).pos (by omega);cases e;have cO:=aA j (by have:=dn.o;omega);have a2:=sh j (by omega);have Gu:j<ag.length:=by have:=dn.o;omega
    rw[o9 _ _ Gu]at cO;rw[o9 _ _ br]at a2;have iY:Hid (saw[j]=saw.getD j 0∧ag[j]=ag.getD j 0):=⟨by simp[br],by simp[Gu]⟩;clear aA sh;generalize saw[j]=y at*;generalize ag[j]=z at*;by_cases c:y<=z
    ·have c':¬z<y:=by omega
     go_wp2;go_quiet(fail);go_wp2;exact⟨⟨j+1,by omega,by go_num,fun i aq=>by
      by_cases e:i=j
      ·subst e;rw[<-iY.o.1,<-iY.o.2];exact c
      ·exact UX.o i (by omega),ym ao _⟩,by simp[intOf];omega⟩
    ·have c':z<y:=by omega
     go_wp2;go_quiet(fail);go_wp2;go_ret;refine⟨q2 ?_,ym ao _⟩;rw[bO.o];refine(vG fun h=>?_).symm;have:=h.2 j br;rw[<-iY.o.1,<-iY.o.2]at this;omega
   ·have Cs:¬(j:Int)<saw.length:=by omega
    go_wp2;go_ret;refine⟨q2 ?_,ao⟩;rw[bO.o];exact(yu ⟨bX.o,fun i aq=>UX.o i (by omega)⟩).symm
 ·have ba:(ag[k] !=s-1)=true:=by simp[aP]
  have bX:=cy (bO.o.trans (vG fun h=>aP h.1));clear aP bO;generalize ag[k]=x at*;go_enter func144,ntmps144;go_wp2;go_quiet(fail);go_wp2;go_ret;exact⟨q2 (by rw[bX.o]),ym cE _⟩
theorem yS {l:List Int}{j:Nat}(h:j<l.length):l.getD j 0=l[j]:=by simp[h]
def fB (l v:List Int)(k:Nat):List Int:=(List.range l.length).map fun j=>if j<k then max (l.getD j 0) (v.getD j 0)else l.getD j 0
theorem vA (l v:List Int)(k:Nat):(fB l v k).length=l.length:=by simp[fB]
theorem adf (l v:List Int):fB l v 0=l:=by
 refine yp (vA _ _ _) fun j h1 ae=>?_
 simp[fB,ae]
theorem E5 (l v:List Int)(k j:Nat)(af:j<l.length):(fB l v k).getD j 0=if j<k then max (l.getD j 0) (v.getD j 0)else l.getD j 0:=by
 have h:j<(fB l v k).length:=by rw[vA];exact af
 rw[yS h];simp[fB]
theorem ade (l v:List Int)(k:Nat):fB l v (k+1)=(fB l v k).set k (max (l.getD k 0) (v.getD k 0)):=by
 refine yp (by simp[fB]) fun j h1 ae=>?_
 rw[vA]at h1;rw[getElem_set];by_cases e:k=j
 ·subst e;simp[fB]
 ·rw[if_neg e]
  simp only[fB,getElem_map,getElem_range];by_cases c:j<k
  ·rw[if_pos c,if_pos (by omega)]
  ·rw[if_neg c,if_neg (by omega)]
theorem ints_set (l:List Int)(j:Nat)(x:Int):(ints l).set j (I x)=ints (l.set j x):=by simp[ints,map_set]
theorem ab_ (w:World)(b i n:Nat)(ah v dV:Value)(ks:List Value)(l bz:List Int)(aC:l.length=n)(oY:bz.length=n)(oZ:1<=n)(hn:n<=5)(aq:i<n)(hK:ks.length=n)
  (hb:b<w.heap.size)(aH:eh w b 3 ah)(hk:Row w 44 1 ah n ks)(tk:ks[i]?=some dV)(aJ:Row w 3 1 dV n (ints l))(av:Row w 3 1 v n (ints bz))
  (bS:∀q,dV.ownBlock=some q->q≠b∧¬ah.ownBlock=some q∧¬v.ownBlock=some q):
  Calls prog 142 #[.pointer (some (aa b 0)),I i,v] w (bx (.tuple #[]) fun w'=>Row w' 3 1 dV n (ints (fB l bz n))∧Touch (fun q=>dV.ownBlock=some q) w w'):=by
 obtain⟨g,cap,rfl,gg,hm,aM,aA,bm⟩:=hk.pos (by omega);obtain⟨g2,lV,rfl,X8,xU,fi,sh,Ch⟩:=av.pos (by omega);obtain⟨g3,F1,rfl,asc,Ru,oX,yY,MK⟩:=aJ.pos (by omega);have Ct:=bS g3 rfl;have ajs:g3≠b:=Ct.1;have ajt:g3≠g:=fun e=>Ct.2.1 (by rw[e];rfl)
 have ajr:g3≠g2:=fun e=>Ct.2.2 (by rw[e];rfl)
 have P5:=aA i (by omega);rw[tk]at P5;have ff:Hid (∀j (h:j<n),w.cell? (aa g2 j)=some (I (bz.getD j 0))):=fun j h=>by
  rw[sh j (by omega),o9 _ _ (by omega)];simp[show j<bz.length by omega]
 have bc:=J aJ;have dn:=J aC;clear aA bm sh Ch yY MK hk av aJ bS Ct tk aC oY;go_enter func142,ntmps142;go_wp2;go_loopw[6] (fun tu wr=>∃j:Nat,j<=n∧tu=I j∧Hid (Row wr 3 1 (bo g3 n F1) n (ints (fB l bz j))∧Touch (fun q=>q=g3) w wr)) (fun tu _=>n-(intOf tu).toNat)
 case atStart=>exact⟨0,ch,rfl,by rw[adf];exact bc.o,Touch.refl _ _⟩
 case round=>
  obtain⟨j,af,rfl,ew⟩:=hrel;have fb:=ew.o.2.size;by_cases br:j<n
  ·have m1:wr.cell? (aa b 3)=some (bo g n cap):=by rw[ew.o.2.cell (p:=(aa b 3)) hb (fun e=>ajs e.symm)];exact aH
   have m2:wr.cell? (aa g i)=some (bo g3 n F1):=by rw[ew.o.2.cell (p:=(aa g i)) aM (fun e=>ajt e.symm)];exact P5
   have m3:wr.cell? (aa g2 j)=some (I (bz.getD j 0)):=by rw[ew.o.2.cell (p:=(aa g2 j)) fi (fun e=>ajr e.symm)];exact ff.o j br
   obtain⟨_,_,e,-,-,YC,yY,MK⟩:=ew.o.1.pos (by omega);cases e;have m4:wr.cell? (aa g3 j)=some (I (l.getD j 0)):=by
    have hl:j<(fB l bz j).length:=by rw[vA,dn.o];exact br
    rw[yY j (by omega),o9 _ _ hl,<-yS hl,E5 _ _ _ _ (by rw[dn.o];exact br),if_neg (by omega)]
   have aL:Hid (fB l bz (j+1)=(fB l bz j).set j (max (l.getD j 0) (bz.getD j 0))):=ade _ _ _;have Pp:Hid (l.getD j 0=max (l.getD j 0) (bz.getD j 0)->(fB l bz j).set j (max (l.getD j 0) (bz.getD j 0))=fB l bz j):=fun e=>by
    rw[<-e];refine yp (by simp) fun q h1 ae=>?_
    rw[getElem_set];split
    ·rename_i ba
     subst ba;rw[<-yS ae,E5 _ _ _ _ (by rw[dn.o];exact br),if_neg (by omega)]
    ·rfl
   clear yY MK aH P5;have xK:b<wr.heap.size:=by omega
   have kS:g<wr.heap.size:=by omega
   have YB:g2<wr.heap.size:=by omega
   generalize l.getD j 0=x at*;generalize bz.getD j 0=y at*;by_cases c:x<y
   ·go_wp2
    go_quiet(fail);go_wp2;have atD:eh (wr.drewN nq) b 3 (bo g n cap):=m1;have atE:eh (wr.drewN nq) g i (bo g3 n F1):=m2;have atF:eh (wr.drewN nq) g2 j (I y):=m3;have atG:eh (wr.drewN nq) g3 j (I x):=m4;have Ci:∀q,(wr.drewN nq).frozen? (aa g3 q)=false:=fun q=>(show(wr.drewN nq).ownsRow 0 3 1 (bo g3 n F1) n (ints (fB l bz j))from ew.o.1).frozenAt q
    have LF:Hid (Row (wr.drewN nq) 3 1 (bo g3 n F1) n (ints (fB l bz j))∧Touch (fun q=>q=g3) w (wr.drewN nq)):=⟨ew.o.1,ew.o.2.drewN _⟩;have eA:b<(wr.drewN nq).heap.size:=xK;have e6:g<(wr.drewN nq).heap.size:=kS;have tc:g2<(wr.drewN nq).heap.size:=YB;have ar5:g3<(wr.drewN nq).heap.size:=YC;clear ew m1 m2 m3 m4 xK kS YB YC fb;generalize wr.drewN nq=W at*;go_region;go_wp2;refine⟨⟨j+1,by omega,by go_num,?_,(LF.o.2.setCell (Or.inl rfl) _).drewN 1⟩,by simp[intOf];omega⟩;rw[aL.o,show max x y=y by omega,<-ints_set];exact(ly LF.o.1 j (I y)).1
   ·go_wp2
    go_quiet(fail);go_wp2;refine⟨⟨j+1,by omega,by go_num,?_,ew.o.2.drewN _⟩,by simp[intOf];omega⟩;rw[aL.o,Pp.o (by omega)];exact ew.o.1
  ·have Cs:¬(j:Int)<n:=by omega
   have he:j=n:=by omega
   subst he;go_wp2;go_end0;exact⟨rfl,ew.o.1,ew.o.2.mono fun q _ e=>by subst e;rfl⟩
end Go.Proofs.YtiplgdkpnhamaaaGreatDoor
