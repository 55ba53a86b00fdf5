import Derived.Test.YtiplgdkpnhamaaaGreatDoorT03
import Derived.DeepKeys4
import Derived.Deep.QuietTactic
import Derived.BigQuiet
import Derived.Deep.RegionWith
import Derived.Deep.DeepCutAuto
import Derived.Maps.AppendAt
set_option maxHeartbeats 4000000
set_option maxRecDepth 100000
namespace Go.Proofs.YtiplgdkpnhamaaaGreatDoor
open Go.Proofs.Tryz List
open Go.RowKit
open Go.Maps (Keyed)
variable {M b m mb:Nat}{W:World}{key:ByteArray}{v:Value}
structure Place where
 key:ByteArray
 el:ByteArray
structure bF where
 rep:Int
 seq:Int
structure cn where
 at_:Place
 dot:bF
def Place.val (p:Place):Value:= .agg #[ai p.key,ai p.el]
def cn.val (x:cn):Value:= .agg #[ai x.at_.key,ai x.at_.el,I x.dot.rep,I x.dot.seq]
theorem rV:Keyed prog 129:=Maps.Keyed.of_law (deep_law_laid (m:=6) (by kernel_rfl) (by omega) (sM (by kernel_rfl)) (by kernel_rfl) (by kernel_rfl))
theorem NH:Keyed prog 233:=Maps.Keyed.of_law (deep_law_laid (m:=6) (by kernel_rfl) (by omega) (sM (by kernel_rfl)) (by kernel_rfl) (by kernel_rfl))
theorem zn (p q:Place)(h:p.val=q.val):p=q:=by
 obtain⟨a,b⟩:=p;obtain⟨c,d⟩:=q;simp only[Place.val,Value.agg.injEq,Array.mk.injEq,List.cons.injEq,Value.string.injEq,and_true]at h;obtain⟨rfl,rfl⟩:=h;rfl
theorem SN (p q:cn)(h:p.val=q.val):p=q:=by
 obtain⟨⟨a,b⟩,⟨c,d⟩⟩:=p;obtain⟨⟨cf,hz⟩,⟨c',d'⟩⟩:=q;simp only[cn.val,Value.agg.injEq,Array.mk.injEq,List.cons.injEq,Value.string.injEq,Value.int.injEq,true_and,and_true]at h;obtain⟨rfl,rfl,rfl,rfl⟩:=h;rfl
theorem P4:prog.cellsOf 129=2:=by kernel_rfl
theorem P3:prog.cellsOf 62=2:=by kernel_rfl
theorem V2:prog.cellsOf 233=4:=by kernel_rfl
theorem agv:prog.cellsOf 9=1:=by kernel_rfl
theorem agu:prog.cellsOf 3=1:=by kernel_rfl
theorem SG:5<=prog.types.size:=sM (by kernel_rfl)
theorem abu (d:Nat)(a b:ByteArray)(h1:a.size<=maxLen)(ae:b.size<=maxLen):prog.keyLits (d+2) 129 [.string a,.string b]=some [.string a.data.toList,.string b.data.toList]:=by
 simp[Program.keyLits,underlying129,underlying9,P4,agv,h1,ae]
theorem Wv (d:Nat)(r s:Int)(h1:(Lit.int .i64 r).wf=true)(ae:(Lit.int .i64 s).wf=true):prog.keyLits (d+2) 62 [.int .i64 r,.int .i64 s]=some [.int .i64 r,.int .i64 s]:=by
 simp[Program.keyLits,underlying62,underlying3,P3,agu,h1,ae]
theorem amB (d:Nat)(a b:ByteArray)(r s:Int)(h1:a.size<=maxLen)(ae:b.size<=maxLen)(aH:(Lit.int .i64 r).wf=true)(bd:(Lit.int .i64 s).wf=true):prog.keyLits (d+3) 233 [.string a,.string b,.int .i64 r,.int .i64 s]=some [.string a.data.toList,.string b.data.toList,.int .i64 r,.int .i64 s]:=by
 rw[Program.keyLits.eq_def];simp only[underlying233];simp[V2,P4,P3,abu d a b h1 ae,Wv d r s aH bd]
theorem N4 (p:Place)(h1:p.key.size<=maxLen)(ae:p.el.size<=maxLen):∃cQ,keyOf prog 129 p.val=some cQ:=by
 have hk:prog.keyType 129=true:=by kernel_rfl
 have bm:p.val.formed prog 129=true:=by simp[Place.val,Value.formed,underlying129,P4]
 have aB:prog.types.size+1=(prog.types.size-1)+2:=by have:=SG;omega
 have aC:prog.keyLits (prog.types.size+1) 129 p.val.cells.toList=some [.string p.key.data.toList,.string p.el.data.toList]:=by
  rw[aB];exact abu _ _ _ h1 ae
 refine⟨.string (keyBytes [.string p.key.data.toList,.string p.el.data.toList]),?_⟩;unfold keyOf;rw[underlying129];simp only[hk,bm,aC];rfl
theorem amA (x:cn)(h1:x.at_.key.size<=maxLen)(ae:x.at_.el.size<=maxLen)(aH:(Lit.int .i64 x.dot.rep).wf=true)(bd:(Lit.int .i64 x.dot.seq).wf=true):∃cQ,keyOf prog 233 x.val=some cQ:=by
 have hk:prog.keyType 233=true:=by kernel_rfl
 have bm:x.val.formed prog 233=true:=by simp[cn.val,Value.formed,underlying233,V2]
 have aB:prog.types.size+1=(prog.types.size-2)+3:=by have:=SG;omega
 have aC:prog.keyLits (prog.types.size+1) 233 x.val.cells.toList=some [.string x.at_.key.data.toList,.string x.at_.el.data.toList,.int .i64 x.dot.rep,.int .i64 x.dot.seq]:=by
  rw[aB];exact amB _ _ _ _ _ h1 ae aH bd
 refine⟨.string (keyBytes [.string x.at_.key.data.toList,.string x.at_.el.data.toList,.int .i64 x.dot.rep,.int .i64 x.dot.seq]),?_⟩;unfold keyOf;rw[underlying233];simp only[hk,bm,aC];rfl
structure aW where
 a:Int
 b:Int
 c:Int
 d:Int
 e:Int
def aW.list (v:aW):List Int:=[v.a,v.b,v.c,v.d,v.e]
def aW.get (v:aW)(r:Int):Int:=v.list.getD r.toNat 0
abbrev aW.val (v:aW):Value:= .agg #[I v.a,I v.b,I v.c,I v.d,I v.e]
abbrev bF.val (d:bF):Value:= .agg #[I d.rep,I d.seq]
structure gQ where
 fL:bF
 sum:Int
 value:ByteArray
abbrev gQ.val (v:gQ):Value:= .agg #[I v.fL.rep,I v.fL.seq,I v.sum,ai v.value]
def gQ.wT (v:gQ):Bool:=v.fL.seq==0
def aW.gI (v:aW)(d:bF):Bool:=decide (d.seq<=v.get d.rep)
theorem TQ (w:World)(v:gQ):Calls prog 180 #[v.val] w (bx (.bool v.wT) fun w'=>ax w w'):=by
 obtain⟨⟨r,s⟩,sum,val⟩:=v;go_enter func180,ntmps180;go_wp2_with fail
 go_ret;exact⟨rfl,(cj _ _)⟩
theorem Mb (w:World)(v:aW)(d:bF)(aS:0<=d.rep)(cS:d.rep<5):Calls prog 169 #[v.val,d.val] w (bx (.bool (v.gI d)) fun w'=>ax w w'):=by
 obtain⟨a,b,c,Mh,ahj⟩:=v;obtain⟨r,s⟩:=d;simp only at aS cS;have aJ:r=0∨r=1∨r=2∨r=3∨r=4:=by omega
 have ao:ax w ((w.alloc (.cells #[I a,I b,I c,I Mh,I ahj] 104)).alloc (.cells #[I r,I s] 62)):=((cj _ _)).alloc (by simp) _;have bO:=J ao;clear ao aS cS;rcases aJ with rfl|rfl|rfl|rfl|rfl
 all_goals
  go_enter func169,ntmps169;go_wp2_with fail
  go_quiet(fail);go_wp2_with fail
  go_ret;exact⟨rfl,ym bO.o _⟩
theorem E3 (s:ByteArray)(w:World)(hs:s.size<=maxLen):
  Calls prog 61 #[ai s] w (bx (.int .u8 (kindOf s)) fun w'=>w'=w):=by
 unfold maxLen at hs;go_enter func61,ntmps61;go_wp2;all_goals go_ret
 all_goals refine⟨om ?_,rfl⟩
 all_goals first|(rw[J_ (by omega)];done)|rw[Sm (by omega)]
 all_goals try simp only[ne_eq,beq_iff_eq,Bg]at*
 all_goals(split<;>omega)
def Af (a b:Int):Int:=if a<b then-1 else if b<a then 1 else 0
theorem aaL (a:Int)(w:World):Calls prog 234 #[I a] w (bx (.bool false) fun w'=>w'=w):=by
 go_enter func234,ntmps234;go_wp2;go_ret;exact⟨q2 (by simp),rfl⟩
theorem V8 (a b:Int)(w:World):Calls prog 209 #[I a,I b] w (bx (I (Af a b)) fun w'=>w'=w):=by
 have dj:Hid (a<b∨(¬a<b∧b<a)∨(¬a<b∧¬b<a)):=by unfold Hid;omega
 unfold Af;go_enter func209,ntmps209;go_wp2_with fail
 refine(aaL a _).mono ?_;rintro e an ⟨rfl,rfl⟩;go_wp2_with fail
 refine(aaL b _).mono ?_;rintro e w2 ⟨rfl,rfl⟩;rcases dj.o with h|⟨h,e5⟩|⟨h,e5⟩
 ·go_wp2_with fail
  go_ret;exact⟨by simp,rfl⟩
 ·go_wp2_with fail
  go_ret;exact⟨by simp,rfl⟩
 ·go_wp2_with fail
  go_ret;exact⟨by simp,rfl⟩
instance:DecidableEq Place:=fun p q=>
 if h:p.key=q.key∧p.el=q.el then isTrue (by cases p;cases q;simp at h;simp[h])else isFalse (fun e=>h (by rw[e];exact⟨rfl,rfl⟩))
structure cG where
 kind:Int
 cH:Int
 value:ByteArray
abbrev cG.val (x:cG):Value:= .agg #[I x.kind,I x.cH,ai x.value]
def A1:cG:=⟨0,0,⟨#[]⟩⟩
def k3 (m:Place->Option cG)(p:Place):cG:=(m p).getD A1
def nb (m:Place->Option cG)(p:Place)(x:cG):cG:=if x.kind=0 then{x with cH:=wrap64 (x.cH+(k3 m p).cH)}else x
theorem Uq (w:World):(zeroValue 132).run prog w= .ok A1.val w:=by kernel_rfl
theorem adC {w:World}{n:Nat}{m:Place->Option cG}{p:Place}(bK:cV w 129 mb n Place.val cG.val m)(h1:p.key.size<=maxLen)(ae:p.el.size<=maxLen)(bY:W.heap[mb]?=w.heap[mb]?):
  (Instr.lookup 120 (.map (some mb)) (.agg #[ai p.key,ai p.el]) false).run prog W= .ok (k3 m p).val W:=by
 obtain⟨cQ,hk⟩:=N4 p h1 ae;have a:=(bK.move bY).lookup (t:=120) rV underlying120 (Uq W) hk;have e:(m p).elim A1.val cG.val=(k3 m p).val:=by unfold k3;cases m p<;>rfl
 rw[e]at a;exact a
theorem adE {w:World}{n:Nat}{m:Place->Option cG}{p:Place}(bK:cV w 129 mb n Place.val cG.val m)(h1:p.key.size<=maxLen)(ae:p.el.size<=maxLen)(hn:n<maxLen)(x:cG)(bY:W.heap[mb]?=w.heap[mb]?):
  ∃w',(Instr.mapUpdate 120 (.map (some mb)) (.agg #[ai p.key,ai p.el]) (.agg #[I x.kind,I x.cH,ai x.value])).run prog W= .ok () w'∧cV w' 129 mb (n+1) Place.val cG.val (fun q=>if q=p then some x else m q)∧W.grownBy w' (some mb):=by
 obtain⟨cQ,hk⟩:=N4 p h1 ae;exact(bK.move bY).store (t:=120) rV underlying120 zn hn hk x
theorem WU (k a:Int)(v:ByteArray)(W:World):(Instr.field 132 (.agg #[I k,I a,ai v]) 1).run prog W= .ok (I a) W:=by kernel_rfl
theorem anI (w:World)(mb n:Nat)(m:Place->Option cG)(p:Place)(x:cG)(bK:cV w 129 mb n Place.val cG.val m)(h1:p.key.size<=maxLen)(ae:p.el.size<=maxLen)(hn:n<maxLen):
  Calls prog 102 #[.map (some mb),p.val,x.val] w (bx (.tuple #[]) fun w'=>cV w' 129 mb (n+1) Place.val cG.val (fun q=>if q=p then some (nb m p x)else m q)∧Touch (fun q=>q=mb) w w'):=by
 have kU:=bK.lt;obtain⟨k,a,v⟩:=x;obtain⟨eM,jn⟩:=p;simp only[Place.val]at*;have hb:∀o1 dx:Obj,((w.alloc o1).alloc dx).heap[mb]?=w.heap[mb]?:=fun o1 dx=>by rw[iW _ _ _ (by simp;omega),iW _ _ _ kU]
 by_cases hk:k=0
 ·subst hk
  have e:nb m ⟨eM,jn⟩ ⟨0,a,v⟩=⟨0,wrap64 (a+(k3 m ⟨eM,jn⟩).cH),v⟩:=by simp[nb]
  rw[e];have eF:=adC (p:=⟨eM,jn⟩) bK h1 ae (W:=((w.alloc (.cells #[ai eM,ai jn] 129)).alloc (.cells #[I 0,I a,ai v] 132)).drew) (hb _ _);obtain⟨w2,hd,rC,fi⟩:=adE (p:=⟨eM,jn⟩) bK h1 ae hn ⟨0,wrap64 (a+(k3 m ⟨eM,jn⟩).cH),v⟩ (W:=((w.alloc (.cells #[ai eM,ai jn] 129)).alloc (.cells #[I 0,I (wrap64 (a+(k3 m ⟨eM,jn⟩).cH)),ai v] 132)).drew) (hb _ _);have HR:=J rC;have zP:=J fi;clear rC fi bK hb e;generalize k3 m ⟨eM,jn⟩=z at*;obtain⟨aq8,aqZ,ara⟩:=z;dsimp only[cG.val]at eF hd
  have ajn:=WU aq8 aqZ ara;go_enter func102,ntmps102;go_wp2_with fail
  go_region;all_goals go_wp2_with fail
  all_goals go_end0
  all_goals exact⟨rfl,HR.o,Touch.grown (Touch.drew (((Touch.refl _ _).alloc _).alloc _)) zP.o (fun q ad=>Or.inl (by cases ad;rfl))⟩
 ·have e:nb m ⟨eM,jn⟩ ⟨k,a,v⟩=⟨k,a,v⟩:=by simp[nb,hk]
  rw[e];have gi:=Bi hk;obtain⟨w2,hd,rC,fi⟩:=adE (p:=⟨eM,jn⟩) bK h1 ae hn ⟨k,a,v⟩ (W:=(w.alloc (.cells #[ai eM,ai jn] 129)).alloc (.cells #[I k,I a,ai v] 132)) (hb _ _);have HR:=J rC;have zP:=J fi;clear rC fi bK hb e;simp only at hd;go_enter func102,ntmps102;go_wp2_with fail
  go_end0;exact⟨rfl,HR.o,Touch.grown (((Touch.refl _ _).alloc _).alloc _) zP.o (fun q ad=>Or.inl (by cases ad;rfl))⟩
instance:DecidableEq bF:=fun p q=>
 if h:p.rep=q.rep∧p.seq=q.seq then isTrue (by cases p;cases q;simp at h;simp[h])else isFalse (fun e=>h (by rw[e];exact⟨rfl,rfl⟩))
instance:DecidableEq cn:=fun p q=>
 if h:p.at_=q.at_∧p.dot=q.dot then isTrue (by cases p;cases q;simp at h;simp[h])else isFalse (fun e=>h (by rw[e];exact⟨rfl,rfl⟩))
def x8:gQ:=⟨⟨0,0⟩,0,⟨#[]⟩⟩
def hS (bh:cn->Option gQ)(x:cn):gQ:=(bh x).getD x8
def mK (saw:aW)(bh:cn->Option gQ)(x:cn):Bool:=saw.gI x.dot&&((hS bh x).wT|| !saw.gI (hS bh x).fL)
structure ej where
 U:Nat
 saw:aW
 kept:List cn
structure b5 where
 ag:aW
 bh:cn->Option gQ
 came:Place->List bF
 els:ByteArray->ByteArray->Bool
 bW:List ej
def lv (bh:cn->Option gQ)(x:cn)(v:Option gQ):cn->Option gQ:=fun y=>if y=x then v else bh y
theorem vy (bh:cn->Option gQ)(x:cn)(v:Option gQ):lv bh x v x=v:=by simp[lv]
theorem tD {bh:cn->Option gQ}{x y:cn}{v:Option gQ}(h:y≠x):lv bh x v y=bh y:=by simp[lv,h]
def ml (came:Place->List bF)(p:Place)(l:List bF):Place->List bF:=fun q=>if q=p then l else came q
theorem zt (came:Place->List bF)(p:Place)(l:List bF):ml came p l p=l:=by simp[ml]
theorem uA {came:Place->List bF}{p q:Place}{l:List bF}(h:q≠p):ml came p l q=came q:=by simp[ml,h]
def nI (els:ByteArray->ByteArray->Bool)(p:Place)(b:Bool):ByteArray->ByteArray->Bool:=fun k e=>if k=p.key∧e=p.el then b else els k e
def rS (l:List bF)(d:bF):List bF:=l.filter fun e=> !decide (e=d)
def vZ (st:b5)(x:cn):b5:=
 {st with bh:=lv st.bh x none,came:=ml st.came x.at_ (rS (st.came x.at_) x.dot),els:=if rS (st.came x.at_) x.dot=[]then nI st.els x.at_ false else st.els}
def oJ (x:cn)(s:ej):ej:={s with kept:=s.kept++[x]}
def wL (bh:cn->Option gQ)(x:cn):List ej->Option (List ej)
 |[]=>none
 |s::l=>if mK s.saw bh x then some (oJ x s::l)else(wL bh x l).map (s::·)
def gA (st:b5)(x:cn):b5:=
 match wL st.bh x st.bW with
 |some l=>{st with bW:=l}
 |none=>vZ st x
def iy (p:Place)(seen:aW)(cN:bF)(st:b5)(d:bF):b5:=
 if(hS st.bh ⟨p,d⟩).wT&&seen.gI d then gA {st with bh:=lv st.bh ⟨p,d⟩ (some {hS st.bh ⟨p,d⟩with fL:=cN})} ⟨p,d⟩else st
def oL (st:b5)(p:Place)(seen:aW)(cN:bF):b5:=(st.came p).foldl (iy p seen cN) st
def vv (st:b5)(x:cn)(v:gQ):b5:={st with bh:=lv st.bh x (some v),came:=ml st.came x.at_ (st.came x.at_++[x.dot])}
def GS (st:b5)(p:Place):b5:={st with els:=nI st.els p true}
def C3 (st:b5)(p:Place):Int:=
 match(st.came p).find? fun d=>(hS st.bh ⟨p,d⟩).wT with
 |some d=>(hS st.bh ⟨p,d⟩).sum
 |none=>0
def DM (st:b5)(p:Place)(cH:Int)(dot:bF):b5:=
 let sum:=wrap64 (C3 st p+cH)
 let st1:=oL st p st.ag dot
 if sum=0 then st1 else vv st1 ⟨p,dot⟩ ⟨⟨0,0⟩,sum,⟨#[]⟩⟩
def C_ (saw:aW)(dot:bF)(st:b5)(p:Place)(x:cG):b5:=
 if x.kind=0 then DM st p x.cH dot
 else if x.kind=1 then vv (oL st p saw dot) ⟨p,dot⟩ ⟨⟨0,0⟩,0,x.value⟩
 else if x.kind=2 then GS (vv (oL st p saw dot) ⟨p,dot⟩ x8) p
 else if x.kind=3 then oL st p saw dot
 else st
def jq (saw:aW)(st:b5)(p:Place):List bF:=(st.came p).filter fun d=>mK saw st.bh ⟨p,d⟩
structure Place.Ok (p:Place):Prop where
 key:p.key.size<=maxLen
 el:p.el.size<=maxLen
structure bF.Ok (d:bF):Prop where
 eE:0<=d.rep
 ql:d.rep<5
 s:(Lit.int .i64 d.seq).wf=true
structure cn.Ok (x:cn):Prop where
 at_:x.at_.Ok
 dot:x.dot.Ok
theorem Tx {r:Int}(aS:0<=r)(cS:r<5):(Lit.int .i64 r).wf=true:=by
 have:r=0∨r=1∨r=2∨r=3∨r=4:=by omega
 rcases this with rfl|rfl|rfl|rfl|rfl<;>decide
theorem cn.Ok.lit {x:cn}(h:x.Ok):∃cQ,keyOf prog 233 x.val=some cQ:=amA x h.at_.key h.at_.el (Tx h.dot.eE h.dot.ql) h.dot.s
theorem Place.Ok.lit {p:Place}(h:p.Ok):∃cQ,keyOf prog 129 p.val=some cQ:=N4 p h.key h.el
structure b5.h5 (st:b5):Prop where
 here:∀p d,d∈st.came p↔(st.bh ⟨p,d⟩).isSome
 once:∀p,(st.came p).Nodup
 ok:∀p d,d∈st.came p->(cn.mk p d).Ok
 fL:∀x v,st.bh x=some v->v.fL.Ok
 kept:∀s,s∈st.bW->∀x,x∈s.kept->x.Ok
 qK:(st.bW.map ej.U).Nodup
inductive Own where
 |rep:Own
 |hR:Own
 |aK:Own
 |mI:Own
 |x6:Own
 |row:Place->Own
 |set:ByteArray->Own
 |opens:Own
 |snap:Nat->Own
 |kept:Nat->Own
 |tx:Nat->Own
 |own:Nat->Own
 |held:Nat->Own
 |other:Own
def dN:Own->Prop
 | .hR| .aK| .mI| .x6| .row _| .set _| .opens| .snap _| .kept _=>True
 |_=>False
abbrev bF.cells (d:bF):List Value:=[I d.rep,I d.seq]
abbrev cn.cells (x:cn):List Value:=[ai x.at_.key,ai x.at_.el,I x.dot.rep,I x.dot.seq]
abbrev aW.cells (v:aW):List Value:=[I v.a,I v.b,I v.c,I v.d,I v.e]
abbrev pR:ByteArray->Value:=Value.string
abbrev zB:Unit->Value:=fun _=> .agg #[]
abbrev mapVal:Nat->Value:=fun b=> .map (some b)
abbrev AT:Value->Value:=fun v=>v
abbrev bl (b:Nat):Value:= .pointer (some (aa b 0))
abbrev km:Value:= .slice none 0 0
def p6 (els:ByteArray->ByteArray->Bool)(k:ByteArray):ByteArray->Option Unit:=fun e=>if els k e then some ()else none
structure fz (w:World)(o:Nat->Own)(aE cg bM b6:Nat)(bU:Value)(b4:Place->Option Value)(bB:ByteArray->Option Nat)(ah:Nat->Value)(n:Nat)(st:b5):Prop where
 U:fS w o .hR aE [I st.ag.a,I st.ag.b,I st.ag.c,I st.ag.d,I st.ag.e,.map (some cg),.map (some bM),.map (some b6),bU] 183
 bh:cV w 233 cg n cn.val gQ.val st.bh
 nM:o cg= .aK
 came:cV w 129 bM n Place.val AT b4
 lF:o bM= .mI
 q3:∀p,b4 p=none->st.came p=[]
 row:∀p v,b4 p=some v->gZ w o (.row p) 62 2 v (st.came p).length ((st.came p).flatMap bF.cells)
 els:cV w 9 b6 n pR mapVal bB
 ox:o b6= .x6
 tC:∀k,bB k=none->∀e,st.els k e=false
 mM:∀k b,bB k=some b->o b= .set k
 set:∀k b,bB k=some b->cV w 9 b n pR zB (p6 st.els k)
 opens:gZ w o .opens 117 1 bU st.bW.length (st.bW.map fun s=>bl s.U)
 snap:∀s,s∈st.bW->fS w o (.snap s.U) s.U [bl aE,I s.saw.a,I s.saw.b,I s.saw.c,I s.saw.d,I s.saw.e,ah s.U] 186
 kept:∀s,s∈st.bW->gZ w o (.kept s.U) 233 4 (ah s.U) s.kept.length (s.kept.flatMap cn.cells)
 s8:∀k e,st.els k e=true->e.size<=maxLen
def fR (w:World)(o:Nat->Own)(aE n:Nat)(st:b5):Prop:=∃cg bM b6 bU b4 bB ah,fz w o aE cg bM b6 bU b4 bB ah n st
section
variable {w w':World}{o o':Nat->Own}{aE cg bM b6 n:Nat}{bU:Value}{b4:Place->Option Value}{bB:ByteArray->Option Nat}{ah:Nat->Value}{st:b5}
theorem cV.hP {α β:Type}{k:TypeId}{n:Nat}{xD:α->Value}{BZ:β->Value}{m:α->Option β}{A:Own->Prop}(h:cV w k b n xD BZ m)(gC:bA A w o w' o')(eK:¬A (o b)):cV w' k b n xD BZ m:=h.move (gC.ay.block b h.lt eK)
theorem cV.Kg {α β:Type}{k:TypeId}{n:Nat}{xD:α->Value}{BZ:β->Value}{m:α->Option β}{A:Own->Prop}{t:Own}(h:cV w k b n xD BZ m)(al:o b=t)(eK:A t)(hm:∀q,q<w.heap.size->A (o q)->w'.heap[q]?=w.heap[q]?∧o' q=o q):cV w' k b n xD BZ m∧o' b=t:=by
 have:=hm b h.lt (by rw[al];exact eK);exact⟨h.move this.1,this.2.trans al⟩
theorem fz.move (h:fz w o aE cg bM b6 bU b4 bB ah n st)(hm:∀q,q<w.heap.size->dN (o q)->w'.heap[q]?=w.heap[q]?∧o' q=o q):fz w' o' aE cg bM b6 bU b4 bB ah n st:=by
 have f:∀t,dN t->∀q,q<w.heap.size->o q=t->w'.heap[q]?=w.heap[q]?∧o' q=t:=fun t al q ad e=>by
  have:=hm q ad (by rw[e];exact al);exact⟨this.1,this.2.trans e⟩
 obtain⟨m1,t1⟩:=h.bh.Kg h.nM (A:=dN) trivial hm;obtain⟨m2,t2⟩:=h.came.Kg h.lF (A:=dN) trivial hm;obtain⟨m3,t3⟩:=h.els.Kg h.ox (A:=dN) trivial hm;exact⟨h.U.fp (f _ trivial),m1,t1,m2,t2,h.q3,fun p v e=>(h.row p v e).fp (f _ trivial),m3,t3,h.tC,fun k b e=>((h.set k b e).Kg (h.mM k b e) (A:=dN) trivial hm).2,fun k b e=>((h.set k b e).Kg (h.mM k b e) (A:=dN) trivial hm).1,
  h.opens.fp (f _ trivial),fun s hs=>(h.snap s hs).fp (f _ trivial),fun s hs=>(h.kept s hs).fp (f _ trivial),h.s8⟩
theorem fz.ay {A:Own->Prop}(h:fz w o aE cg bM b6 bU b4 bB ah n st)(k:bA A w o w' o')(eK:∀t,dN t->¬A t):fz w' o' aE cg bM b6 bU b4 bB ah n st:=
 h.move fun q ad e=>⟨k.ay.block q ad (eK _ e),k.same q ad⟩
theorem fz.below (h:fz w o aE cg bM b6 bU b4 bB ah n st)(ao:ax w w'):fz w' o aE cg bM b6 bU b4 bB ah n st:=
 h.move fun q ad _=>⟨ao.block q ad,rfl⟩
theorem fz.mono {n':Nat}(h:fz w o aE cg bM b6 bU b4 bB ah n st)(hn:n<=n'):fz w o aE cg bM b6 bU b4 bB ah n' st:=
 ⟨h.U,h.bh.mono hn,h.nM,h.came.mono hn,h.lF,h.q3,h.row,h.els.mono hn,h.ox,h.tC,h.mM,fun k b e=>(h.set k b e).mono hn,h.opens,h.snap,h.kept,h.s8⟩
def rB (b4:Place->Option Value)(p:Place):Value:=(b4 p).getD km
theorem fz.rowAt (h:fz w o aE cg bM b6 bU b4 bB ah n st)(p:Place):gZ w o (.row p) 62 2 (rB b4 p) (st.came p).length ((st.came p).flatMap bF.cells):=by
 unfold rB;cases e:b4 p with
 |none=>
  rw[h.q3 p e];exact⟨⟨by simp,.inl ⟨rfl,rfl⟩⟩,fun q ad=>by simp[Value.ownBlock]at ad⟩
 |some v=>exact h.row p v e
theorem fz.TK {adk:cn->Option gQ}(h:fz w o aE cg bM b6 bU b4 bB ah n st)(k:bA (·= .aK) w o w' o')(bK:cV w' 233 cg n cn.val gQ.val adk):fz w' o' aE cg bM b6 bU b4 bB ah n {st with bh:=adk}:=
 ⟨h.U.ay k (by simp),bK,(k.same _ h.bh.lt).trans h.nM,h.came.hP k (by rw[h.lF];simp),(k.same _ h.came.lt).trans h.lF,h.q3,fun p v e=>(h.row p v e).ay k (by simp),h.els.hP k (by rw[h.ox];simp),(k.same _ h.els.lt).trans h.ox,h.tC,
  fun x b e=>(k.same _ (h.set x b e).lt).trans (h.mM x b e),fun x b e=>(h.set x b e).hP k (by rw[h.mM x b e];simp),h.opens.ay k (by simp),fun s hs=>(h.snap s hs).ay k (by simp),fun s hs=>(h.kept s hs).ay k (by simp),h.s8⟩
end
theorem aq4 (w:World):(zeroValue 239).run prog w= .ok x8.val w:=by kernel_rfl
theorem E6 {w:World}{n:Nat}{bh:cn->Option gQ}{x:cn}(bK:cV w 233 mb n cn.val gQ.val bh)(au:x.Ok)(bY:W.heap[mb]?=w.heap[mb]?):
  (Instr.lookup 178 (.map (some mb)) (.agg #[ai x.at_.key,ai x.at_.el,I x.dot.rep,I x.dot.seq]) false).run prog W= .ok (hS bh x).val W:=by
 obtain⟨cQ,hk⟩:=au.lit;have a:=(bK.move bY).lookup (t:=178) NH underlying178 (aq4 W) hk;have e:(bh x).elim x8.val gQ.val=(hS bh x).val:=by unfold hS;cases bh x<;>rfl
 rw[e]at a;exact a
theorem abU (w:World)(e8 aE mb n:Nat)(saw:aW)(kept:Value)(x:cn)(bh:cn->Option gQ)(fa:aQ w e8 [.pointer (some (aa aE 0)),I saw.a,I saw.b,I saw.c,I saw.d,I saw.e,kept] 186)
  (dJ:eh w aE 5 (.map (some mb)))(bK:cV w 233 mb n cn.val gQ.val bh)(au:x.Ok)(hw:∀v,bh x=some v->0<=v.fL.rep∧v.fL.rep<5):
  Calls prog 176 #[.pointer (some (aa e8 0)),x.val] w (bx (.bool (mK saw bh x)) fun w'=>ax w w'):=by
 have kU:=bK.lt;have qc:=fa.lt;have o3:=hU w _ dJ;have jX:(w.alloc (.cells #[ai x.at_.key,ai x.at_.el,I x.dot.rep,I x.dot.seq] 233)).heap.size=w.heap.size+1:=by simp
 have aF:ax w (w.alloc (.cells #[ai x.at_.key,ai x.at_.el,I x.dot.rep,I x.dot.seq] 233)):=cj _ _;have dn:Hid (∀W,ax w W->(Instr.lookup 178 (.map (some mb)) (.agg #[ai x.at_.key,ai x.at_.el,I x.dot.rep,I x.dot.seq]) false).run prog W= .ok (hS bh x).val W):=fun W ao=>E6 bK au (ao.block mb kU)
 have ew:Hid (0<=(hS bh x).fL.rep∧(hS bh x).fL.rep<5):=by
  unfold Hid hS;cases av:bh x with
  |none=>exact⟨by simp[x8],by simp[x8]⟩
  |some v=>exact hw v av
 have pH:=fa.c0;have og:=fa.c1;have fD:=fa.c2;have mh:=fa.c3;have GW:=fa.c4;have n5:=fa.c5;have cm:Hid (0<=x.dot.rep∧x.dot.rep<5):=⟨au.dot.eE,au.dot.ql⟩;unfold mK;generalize hS bh x=v at*;obtain⟨⟨a_,bq⟩,⟨b1,BV⟩⟩:=x;simp only[cn.val]at*;clear fa bK au hw;obtain⟨bT,eA⟩:∃b,saw.gI ⟨b1,BV⟩=b:=⟨_,rfl⟩;obtain⟨c6,e6⟩:∃b,saw.gI v.fL=b:=⟨_,rfl⟩;obtain⟨e0,tc⟩:∃b,v.wT=b:=⟨_,rfl⟩;rw[eA,e6,tc];have eF:=dn.o _ aF;have dY:=dn.o _ (aF.alloc aF.size (.cells #[I 0,I 0,I 0,ai ⟨#[]⟩] 239));have alZ:=dn.o _ aF.drew;have al0:=dn.o _ (aF.alloc aF.size (.cells #[I 0,I 0,I 0,ai ⟨#[]⟩] 239)).drew;clear dn;go_enter func176,ntmps176;go_upto_region 1 with(fail);go_cut[5] (fun p wc=>∃cg,p= .pointer (some (aa cg 0))∧Hid (aQ wc cg [I v.fL.rep,I v.fL.seq,I v.sum,ai v.value] 239∧Below (w.heap.size+1) (w.alloc (.cells #[ai a_,ai bq,I b1,I BV] 233)) wc))
 case first=>
  go_region;all_goals go_wp2_with fail
  all_goals go_meet
  all_goals
   refine⟨_,rfl,?_,((cE).alloc (by omega) _).drew⟩;have a:=cC (w.alloc (.cells #[ai a_,ai bq,I b1,I BV] 233)) (.cells #[I v.fL.rep,I v.fL.seq,I v.sum,ai v.value] 239);rw[jX]at a;exact a
 case rest=>
  obtain⟨cg,rfl,j_⟩:=hcut;have sf:=aF.trans (j_.o.2.mono (by omega));have UF:=J sf;have m1:=aR.cell (bZ sf og);have m2:=aR.cell (bZ sf fD);have m3:=aR.cell (bZ sf mh);have m4:=aR.cell (bZ sf GW);have m5:=aR.cell (bZ sf n5);have v0:=j_.o.1.c0;have v1:=j_.o.1.c1;have v2:=j_.o.1.c2;have v3:=j_.o.1.c3;have u0:=aR.cell v0;have u1:=aR.cell v1;have u2:=aR.cell v2;have u3:=aR.cell v3;have d2:wc.cell? (aa (w.heap.size) 2)=some (I b1):=by rw[j_.o.2.cell (p:=(aa (w.heap.size) 2)) (by show w.heap.size<w.heap.size+1;omega)];simp
  have d3:wc.cell? (aa (w.heap.size) 3)=some (I BV):=by rw[j_.o.2.cell (p:=(aa (w.heap.size) 3)) (by show w.heap.size<w.heap.size+1;omega)];simp
  have ba:=aR.cell d2;have ey:=aR.cell d3;clear v0 v1 v2 v3 d2 d3 sf j_ pH og fD mh GW n5 eF dY alZ al0 dJ kU qc o3 jX aF;have c1:∀f:dO (aR wc),Calls prog 169 #[saw.val,.agg #[I b1,I BV]] f.w fun e fv=>e= .returned (.bool (saw.gI ⟨b1,BV⟩))∧∃g:dO (aR wc),fv=g.w:=fun f=>aR.call f (Mb f.w saw ⟨b1,BV⟩ cm.o.1 cm.o.2)
  have c2:∀f:dO (aR wc),Calls prog 169 #[saw.val,.agg #[I v.fL.rep,I v.fL.seq]] f.w fun e fv=>e= .returned (.bool (saw.gI v.fL))∧∃g:dO (aR wc),fv=g.w:=fun f=>aR.call f (Mb f.w saw v.fL ew.o.1 ew.o.2)
  have c3:∀f:dO (aR wc),Calls prog 180 #[v.val] f.w fun e fv=>e= .returned (.bool v.wT)∧∃g:dO (aR wc),fv=g.w:=fun f=>aR.call f (TQ f.w v)
  rw[eA]at c1;rw[e6]at c2;rw[tc]at c3;clear eA e6 tc;have dj:=J c1;have bn:=J c2;have bX:=J c3;clear c1 c2 c3;go_wp2_with fail
  cases bT<;>cases c6<;>cases e0;all_goals
   refine qm (aR wc) (by kernel_rfl) (by kernel_rfl) (cE).drew ?_;repeat(go_big_quiet_step (first|(go_at_call 180;exact bX.o _)|(go_at_call_of 169 (Value.agg #[I b1,I BV]);exact dj.o _)|(go_at_call_of 169 (Value.agg #[I v.fL.rep,I v.fL.seq]);exact bn.o _)))
   refine gG ?_;intro _ ds;obtain⟨fq,rfl⟩:=ds;go_wp2_with fail
   go_ret;exact⟨rfl,UF.o.trans (fq.ok.mono UF.o.size)⟩
theorem ak5 (w:World)(v:Value)(l:List bF)(bf:Row w 62 2 v l.length (l.flatMap bF.cells))(g:Nat)(lb:Array Value)(p:bF->Bool)(v7:∀args w,(callFunc g args).run prog w= .ok (.enter g args) w)
  (fh:∀W,ax w W->∀d:bF,d∈l->Calls prog g (#[bF.val d]++lb) W (bx (.bool (p d)) fun w'=>ax W w')):
  Calls prog 225 #[v,.func (.func g) #[] lb] w (bx (I (ze p l)) fun w'=>ax w w'):=by
 obtain⟨cA,cap,rfl,gg,hm,eb⟩:=bf.shape;unfold maxLen at hm;have dj:=J fh;have dn:=J eb;clear bf fh eb;go_enter func225,ntmps225;go_wp2_with fail
 go_loopw[8] (fun i wr=>∃k:Nat,k<=l.length∧i=I k∧Hid (∀j (af:j<l.length),j<k->p l[j]=false)∧ax w wr) (fun i _=>l.length-(intOf i).toNat)
 case atStart=>exact⟨0,ch,rfl,fun j _ h=>absurd h (De _),cE⟩
 case round=>
  obtain⟨k,hk,rfl,eV,ao⟩:=hrel;by_cases cW:k<l.length
  ·obtain⟨g0,eo,aS⟩:=dn.o (k*2+0) (by omega)
   obtain⟨g1,aP,h1⟩:=dn.o (k*2+1) (by omega);subst eo;cases aP;rw[hC _ 2 (fun _=>rfl) _ _ _ cW (by omega)]at aS h1;simp only[bF.cells,jg,kK,j3]at aS h1;have c0:=bZ ao aS;have c1:=bZ ao h1;clear aS h1;have gU:=dj.o wr ao l[k] (eT cW);obtain⟨d,aB⟩:∃d,l[k]=d:=⟨_,rfl⟩;have bn:=J aB;rw[aB]at gU c0 c1;clear aB;cases aw:p d
   ·rw[aw]at gU
    have hy:=J gU;have dp:=J aw;clear gU aw;go_wp2_with fail
    refine hy.o.mono ?_;rintro e an ⟨rfl,aF⟩;go_wp2_with fail
    exact⟨⟨k+1,by omega,by go_num,fun j af sk=>by
     by_cases c:j=k
     ·subst c;rw[bn.o];exact dp.o
     ·exact eV.o j af (by omega),ao.trans (aF.mono ao.size)⟩,by simp[intOf];omega⟩
   ·rw[aw]at gU
    have hy:=J gU;have dp:=J aw;clear gU aw;go_wp2_with fail
    refine hy.o.mono ?_;rintro e an ⟨rfl,aF⟩;go_wp2_with fail
    go_ret;exact⟨om (Sc cW (by rw[bn.o];exact dp.o) eV.o).symm,ao.trans (aF.mono ao.size)⟩
  ·go_wp2_with fail
   go_ret;exact⟨om (Sb fun j af=>eV.o j af (by omega)).symm,ao⟩
theorem ag1 (w:World)(v:Value)(l:List bF)(bf:Row w 62 2 v l.length (l.flatMap bF.cells))(g:Nat)(lb:Array Value)(p:bF->Bool)(v7:∀args w,(callFunc g args).run prog w= .ok (.enter g args) w)
  (fh:∀W,Touch (fun q=>v.ownBlock=some q) w W->∀d:bF,d∈l->Calls prog g (#[bF.val d]++lb) W (bx (.bool (p d)) fun w'=>ax W w')):
  Calls prog 206 #[v,.func (.func g) #[] lb] w fun e w'=>∃v',e= .returned v'∧Row w' 62 2 v' (l.filter fun x=> !p x).length ((l.filter fun x=> !p x).flatMap bF.cells)∧v'.ownBlock=v.ownBlock∧Touch (fun q=>v.ownBlock=some q) w w':=by
 have ez:=ak5 w v l bf g lb p v7 (fun W ao=>fh W (Touch.dh ao));rcases Sa p l with⟨aP,ba⟩|⟨ek,vi,aP,pE,ba⟩
 ·rw[aP]at ez
  have cw:=J ez;have bc:=J bf;clear ez fh bf;go_enter func206,ntmps206;go_wp2_with fail
  refine cw.o.mono ?_;rintro e an ⟨rfl,aF⟩;go_wp2_with fail
  go_ret;refine⟨v,rfl,?_,rfl,Touch.dh aF⟩;rw[ba];exact Row.below bc.o aF
 ·rw[aP]at ez
  obtain⟨g0,cap,rfl,gg,hm,xN,-,-⟩:=bf.pos (by omega);unfold maxLen at hm;have Ct:((ek:Int)== -1)=false:=Bg.2 (by omega);have aL:=J (r8.start vi pE ba);have cw:=J ez;have bc:=J bf;have dj:=J fh;clear ez fh bf aP ba pE;go_enter func206,ntmps206;go_wp2_with fail
  refine cw.o.mono ?_;rintro e an ⟨rfl,aF⟩;go_wp2_with fail
  go_loopw[5,6] (fun i j wr=>∃(ii h9:Nat) (xs:List bF),h9<=l.length∧ii<h9∧i=I ii∧j=I h9∧Hid (r8 p l xs ii h9∧Row wr 62 2 (bo g0 l.length cap) l.length (xs.flatMap bF.cells)∧Touch (fun q=>(bo g0 l.length cap).ownBlock=some q) w wr)) (fun _ j _=>l.length-(intOf j).toNat)
  case atStart=>exact⟨ek,ek+1,l,by omega,by omega,rfl,by go_num,aL.o,Row.below bc.o aF,Touch.dh aF⟩
  case round=>
   obtain⟨ii,h9,xs,hl,l6,rfl,rfl,a1⟩:=hrel;have hlen:=a1.o.1.len;by_cases pD:h9<l.length
   ·obtain⟨_,_,e,-,-,fW,eb,tg⟩:=Row.pos a1.o.2.1 (by omega)
    cases e;have c0:=eb (h9*2+0) (by omega);have c1:=eb (h9*2+1) (by omega);rw[hC _ 2 (fun _=>rfl) _ _ _ (by omega) (by omega)]at c0 c1;have au:=a1.o.1.high h9 pD cv;rw[hg (by omega)]at au;rw[kt au]at c0 c1;simp only[bF.cells,jg,kK,j3]at c0 c1;clear eb tg au;obtain⟨d,aB⟩:∃d,l[h9]=d:=⟨_,rfl⟩;have bn:=J aB;rw[aB]at c0 c1;clear aB;have hy:=J (dj.o (wr.alloc (.cells #[I d.rep,I d.seq] 62)) (a1.o.2.2.alloc _) d (by rw[<-bn.o];exact eT pD));cases aw:p d
    ·unfold Hid at hy
     rw[aw]at hy;have dp:=J aw;have xg:=J hy;clear aw hy;go_wp2_with fail
     refine xg.o.mono ?_;rintro e w2 ⟨rfl,bP⟩;have b0:ax wr w2:=((cj _ _)).trans (bP.mono (by simp));have p8:=Row.below a1.o.2.1 b0;obtain⟨_,_,e,-,-,YF,eb,tg⟩:=Row.pos p8 (by omega);cases e;have i0:=eb (ii*2+0) (by omega);have i1:=eb (ii*2+1) (by omega);have f0:=tg (ii*2);have f1:=tg (ii*2+1);rw[hC _ 2 (fun _=>rfl) _ _ _ (by omega) (by omega)]at i0 i1;simp only[bF.cells,jg,kK,j3]at i0 i1;have dc:w2.cell? (aa (wr.heap.size) 0)=some (I d.rep):=by rw[bP.cell (p:=(aa (wr.heap.size) 0)) (by simp)];simp
     have bT:w2.cell? (aa (wr.heap.size) 1)=some (I d.seq):=by rw[bP.cell (p:=(aa (wr.heap.size) 1)) (by simp)];simp
     have mv:=J p8;have jG:=J b0;clear eb tg p8 b0 bP c0 c1;generalize xs[ii]'(by omega)=zm at i0 i1;go_wp2_with fail
     refine⟨⟨ii+1,h9+1,xs.set ii d,by omega,by omega,by go_num,by go_num,?_,?_,?_⟩,by simp[intOf];omega⟩
     ·have:=a1.o.1.rQ pD (by rw[bn.o];exact dp.o)
      rwa [bn.o]at this
     ·have a:=(ly mv.o (ii*2) (I d.rep)).1
      have b:=(ly a (ii*2+1) (I d.seq)).1;have aP:=uc bF.cells 2 (fun _=>rfl) xs ii 0 (by omega) (I d.rep) ⟨d.rep,(xs[ii]'(by omega)).seq⟩ (by omega) rfl;rw[j3]at aP;rw[aP]at b;rw[uc bF.cells 2 (fun _=>rfl) _ ii 1 (by rw[k5];omega) (I d.seq) d (by omega) (by rw[w_];rfl),set_set]at b;exact b
     ·have a:=a1.o.2.2.then ((Touch.dh jG.o))
      exact(a.setCell (p:=(aa g0 (ii*2))) (Or.inl rfl) _).setCell (p:=(aa g0 (ii*2+1))) (Or.inl rfl) _
    ·unfold Hid at hy
     rw[aw]at hy;have dp:=J aw;have xg:=J hy;clear aw hy;go_wp2_with fail
     refine xg.o.mono ?_;rintro e w2 ⟨rfl,bP⟩;have b0:ax wr w2:=((cj _ _)).trans (bP.mono (by simp));clear c0 c1 bP;go_wp2_with fail
     exact⟨⟨ii,h9+1,xs,by omega,by omega,rfl,by go_num,a1.o.1.skip pD (by rw[bn.o];exact dp.o),Row.below a1.o.2.1 b0,a1.o.2.2.then (Touch.dh b0)⟩,by simp[intOf];omega⟩
   ·have Jv:h9=l.length:=by omega
    subst Jv;obtain⟨q1,dy,fE⟩:=a1.o.1.done;obtain⟨cc,hd,va,xO⟩:=P7 (P:=prog) (size:=2) (t:=241) (ty:=0) (z:= .agg #[I 0,I 0]) (i:=ii) underlying241 (fun _=>by kernel_rfl) rfl (by intro u hu;simp[Value.cells]at hu;rcases hu with rfl|rfl<;>rfl) a1.o.2.1 fE;have HU:=J va;have Fw:=J xO;have fs:=J (⟨q1,dy⟩:_∧_);clear va xO q1 dy;go_wp2_with fail
    go_ret;refine⟨_,rfl,?_,rfl,a1.o.2.2.grown Fw.o (fun k e=>by cases e;exact Or.inl rfl)⟩;have:=HU.o;rw[IP _ 2 (fun _=>rfl),fs.o.1]at this;rw[<-fs.o.2];exact this
theorem aaG {l:List bF}{d e:bF}:e∈rS l d↔e∈l∧e≠d:=by simp[rS,mem_filter]
theorem cn.ext' {x:cn}{p:Place}{d:bF}:cn.mk p d=x↔p=x.at_∧d=x.dot:=by
 cases x;simp
theorem SX:(⟨0,0⟩:bF).Ok:=⟨by decide,by decide,by decide⟩
theorem b5.h5.drop {st:b5}(h:st.h5)(x:cn):(vZ st x).h5:=by
 refine⟨fun p d=>?_,fun p=>?_,fun p d aB=>?_,fun y v av=>?_,h.kept,h.qK⟩
 ·show d∈ml st.came x.at_ _ p↔(lv st.bh x none ⟨p,d⟩).isSome=true
  by_cases c:p=x.at_
  ·subst c
   rw[zt,aaG,h.here];by_cases e:d=x.dot
   ·subst e
    rw[show(⟨x.at_,x.dot⟩:cn)=x from rfl,vy];simp
   ·rw[tD (fun c=>e (cn.ext'.1 c).2)];simp[e]
  ·rw[uA c,tD (fun e=>c (cn.ext'.1 e).1),h.here]
 ·show(ml st.came x.at_ _ p).Nodup
  by_cases c:p=x.at_
  ·subst c;rw[zt];exact(h.once _).sublist Ht
  ·rw[uA c];exact h.once p
 ·have jk:d∈ml st.came x.at_ (rS (st.came x.at_) x.dot) p:=aB
  by_cases c:p=x.at_
  ·subst c;rw[zt,aaG]at jk;exact h.ok _ _ jk.1
  ·rw[uA c]at jk;exact h.ok _ _ jk
 ·have iq:lv st.bh x none y=some v:=av
  by_cases c:y=x
  ·subst c;rw[vy]at iq;cases iq
  ·rw[tD c]at iq;exact h.fL y v iq
theorem b5.h5.gone {st:b5}(h:st.h5){x:cn}{v:gQ}(au:st.bh x=some v){v':gQ}(av:v'.fL.Ok):({st with bh:=lv st.bh x (some v')}:b5).h5:=by
 refine⟨fun p d=>?_,h.once,h.ok,fun y u hu=>?_,h.kept,h.qK⟩
 ·show d∈st.came p↔(lv st.bh x (some v') ⟨p,d⟩).isSome=true
  rw[h.here];by_cases c:(⟨p,d⟩:cn)=x
  ·rw[c,vy,au];simp
  ·rw[tD c]
 ·have iS:lv st.bh x (some v') y=some u:=hu
  by_cases c:y=x
  ·subst c;rw[vy]at iS;cases iS;exact av
  ·rw[tD c]at iS;exact h.fL y u iS
theorem AU {bh:cn->Option gQ}{x:cn}:∀{l m:List ej},wL bh x l=some m->∃a s b,l=a++s::b∧m=a++oJ x s::b∧mK s.saw bh x=true∧∀t,t∈a->mK t.saw bh x=false
 |[],_,h=>by simp[wL]at h
 |s::l,m,h=>by
  unfold wL at h;split at h
  ·rename_i c
   cases h;exact⟨[],s,l,rfl,rfl,c,by simp⟩
  ·rename_i c
   rw[Option.map_eq_some_iff]at h;obtain⟨m',hm,rfl⟩:=h;obtain⟨a,gL,b,rfl,rfl,h1,ae⟩:=AU hm;refine⟨s::a,gL,b,rfl,rfl,h1,fun t al=>?_⟩;rcases h3.1 al with rfl|al
   ·simpa using c
   ·exact ae t al
theorem Sk {bh:cn->Option gQ}{x:cn}:∀{l:List ej},wL bh x l=none->∀s,s∈l->mK s.saw bh x=false
 |[],_,s,hs=>by simp at hs
 |s::l,h,t,al=>by
  unfold wL at h;split at h
  ·cases h
  ·rename_i c
   rw[Option.map_eq_none_iff]at h;rcases h3.1 al with rfl|al
   ·simpa using c
   ·exact Sk h t al
theorem b5.h5.sc {st:b5}(h:st.h5){x:cn}(au:x.Ok):(gA st x).h5:=by
 unfold gA;split
 ·rename_i m hm
  obtain⟨a,s,b,e,rfl,-,-⟩:=AU hm;refine⟨h.here,h.once,h.ok,h.fL,fun t al y b9=>?_,?_⟩
  ·have hk:=h.kept
   rw[e]at hk;have ma:t∈a++oJ x s::b:=al;rw[hT,h3]at ma;rcases ma with c|c|c
   ·exact hk t (by simp[c]) y b9
   ·subst c
    have CH:y∈s.kept++[x]:=b9;rw[hT,k4]at CH;rcases CH with c|c
    ·exact hk s (by simp) y c
    ·subst c;exact au
   ·exact hk t (by simp[c]) y b9
  ·have hb:=h.qK
   rw[e]at hb;show((a++oJ x s::b).map ej.U).Nodup
   simpa[oJ]using hb
 ·exact h.drop x
theorem WI (st:b5)(x:cn):(gA st x).bW.map ej.U=st.bW.map ej.U:=by
 unfold gA;split
 ·rename_i m hm
  obtain⟨a,s,b,e,rfl,-,-⟩:=AU hm;rw[e];simp[oJ]
 ·rfl
theorem IK {st:b5}{x y:cn}(h:y≠x):(gA st x).bh y=st.bh y:=by
 unfold gA;split
 ·rfl
 ·exact tD h
theorem Qm (st:b5)(x:cn):(gA st x).ag=st.ag:=by unfold gA;split<;>rfl
theorem b5.h5.one {st:b5}(h:st.h5){p:Place}{seen:aW}{cN d:bF}(hb:cN.Ok)(aB:(st.bh ⟨p,d⟩).isSome):(iy p seen cN st d).h5:=by
 unfold iy;split
 ·obtain⟨v,av⟩:=mn.1 aB
  refine b5.h5.sc (b5.h5.gone h av (v':={hS st.bh ⟨p,d⟩with fL:=cN}) hb) (h.ok p d ((h.here p d).2 aB))
 ·exact h
theorem NP {st:b5}{p:Place}{seen:aW}{cN d:bF}{y:cn}(h:y≠⟨p,d⟩):(iy p seen cN st d).bh y=st.bh y:=by
 unfold iy;split
 ·rw[IK h];exact tD h
 ·rfl
theorem amY (st:b5)(p:Place)(seen:aW)(cN d:bF):(iy p seen cN st d).ag=st.ag:=by
 unfold iy;split
 ·rw[Qm]
 ·rfl
theorem TA {st:b5}(h:st.h5)(p:Place)(seen:aW){cN:bF}(hb:cN.Ok):∀l:List bF,l.Nodup->(∀d,d∈l->(st.bh ⟨p,d⟩).isSome)->(l.foldl (iy p seen cN) st).h5∧∀d,d∉l->(l.foldl (iy p seen cN) st).bh ⟨p,d⟩=st.bh ⟨p,d⟩:=by
 intro l;induction l generalizing st with
 |nil=>exact fun _ _=>⟨h,fun d _=>rfl⟩
 |cons a l ih=>
  intro hn aC;obtain⟨aU,sq⟩:=yt.1 hn;have h1:=h.one (seen:=seen) hb (aC a (by simp));have av:∀d,d≠a->(iy p seen cN st a).bh ⟨p,d⟩=st.bh ⟨p,d⟩:=fun d aB=>NP (fun e=>aB (cn.mk.inj e).2)
  obtain⟨i1,i2⟩:=ih h1 sq (fun d aB=>by rw[av d (fun e=>aU (e▸aB))];exact aC d (by simp[aB]));refine⟨i1,fun d aB=>?_⟩;rw[sO,i2 d (fun c=>aB (by simp[c])),av d (fun e=>aB (by simp[e]))]
theorem b5.h5.aou {st:b5}(h:st.h5)(p:Place)(seen:aW){cN:bF}(hb:cN.Ok):(oL st p seen cN).h5:=
 (TA h p seen hb (st.came p) (h.once p) fun d aB=>(h.here p d).1 aB).1
theorem b5.h5.put {st:b5}(h:st.h5){x:cn}(au:x.Ok){v:gQ}(av:v.fL.Ok)(hn:st.bh x=none):(vv st x v).h5:=by
 have Gy:x.dot∉st.came x.at_:=fun c=>by
  have:=(h.here x.at_ x.dot).1 c;rw[show(⟨x.at_,x.dot⟩:cn)=x from rfl,hn]at this;cases this
 refine⟨fun p d=>?_,fun p=>?_,fun p d aB=>?_,fun y u hu=>?_,h.kept,h.qK⟩
 ·show d∈ml st.came x.at_ _ p↔(lv st.bh x (some v) ⟨p,d⟩).isSome=true
  by_cases c:p=x.at_
  ·subst c
   rw[zt,hT,k4];by_cases e:d=x.dot
   ·subst e
    rw[show(⟨x.at_,x.dot⟩:cn)=x from rfl,vy];simp
   ·rw[tD (fun c=>e (cn.ext'.1 c).2),<-h.here];simp[e]
  ·rw[uA c,tD (fun e=>c (cn.ext'.1 e).1),h.here]
 ·show(ml st.came x.at_ _ p).Nodup
  by_cases c:p=x.at_
  ·subst c;rw[zt]
   exact yn.2 ⟨h.once _,by simp,fun a aU b hb e=>Gy (by rw[k4]at hb;rw[<-hb,<-e];exact aU)⟩
  ·rw[uA c];exact h.once p
 ·have jk:d∈ml st.came x.at_ (st.came x.at_++[x.dot]) p:=aB
  by_cases c:p=x.at_
  ·subst c;rw[zt,hT,k4]at jk
   rcases jk with c|c
   ·exact h.ok _ _ c
   ·subst c;exact au
  ·rw[uA c]at jk;exact h.ok _ _ jk
 ·have iS:lv st.bh x (some v) y=some u:=hu
  by_cases c:y=x
  ·subst c;rw[vy]at iS;cases iS;exact av
  ·rw[tD c]at iS;exact h.fL y u iS
theorem b5.h5.list {st:b5}(h:st.h5)(p:Place):(GS st p).h5:=⟨h.here,h.once,h.ok,h.fL,h.kept,h.qK⟩
def ku (st:b5)(m:Nat):Prop:=∀s,s∈st.bW->s.kept.length+m<=1000000000000
theorem ku.sc {st:b5}(h:ku st (m+1))(x:cn):ku (gA st x) m:=by
 unfold gA;split
 ·rename_i l hm
  obtain⟨a,s,b,e,rfl,-,-⟩:=AU hm;intro t al;unfold ku at h;rw[e]at h;have ma:=al;rw[hT,h3]at ma;rcases ma with c|c|c
  ·have:=h t (by simp[c]);omega
  ·subst c
   have:=h s (by simp);simp only[oJ,eN,lP,w3];omega
  ·have:=h t (by simp[c]);omega
 ·exact fun s hs=>by have:=h s hs;omega
theorem ku.less {st:b5}{k:Nat}(h:ku st m)(hk:k<=m):ku st k:=fun s hs=>by have:=h s hs;omega
theorem ku.one {st:b5}(h:ku st (m+1))(p:Place)(seen:aW)(cN d:bF):ku (iy p seen cN st d) m:=by
 unfold iy;split
 ·refine ku.sc ?_ _
  exact h
 ·exact h.less (by omega)
theorem ua {w w':World}{j:Nat}(h:w'.heap[b]?=w.heap[b]?)(c:eh w b j v):w'.cell? (aa b j)=some v:=(xc (w:=w) (a:=(aa b j)) h).trans c
theorem aQ.first (w:World)(cs:List Value)(t:TypeId)(o:Obj):aQ ((w.alloc (.cells cs.toArray t)).alloc o) w.heap.size cs t:=aQ.alloc (cC w _) _
theorem aQ.second (w:World)(o:Obj)(cs:List Value)(t:TypeId):aQ ((w.alloc o).alloc (.cells cs.toArray t)) (w.heap.size+1) cs t:=by
 have a:=cC (w.alloc o) (.cells cs.toArray t);rw[show(w.alloc o).heap.size=w.heap.size+1 by simp]at a;exact a
section
variable {w w':World}{o o':Nat->Own}{aE cg bM b6 n:Nat}{bU:Value}{b4:Place->Option Value}{bB:ByteArray->Option Nat}{ah:Nat->Value}{st:b5}
theorem bA.oi {A:Own->Prop}(aM:w.grownBy w' (some b))(hb:A (o b)):bA A w o w' o:=
 ⟨(Touch.oi aM).mono fun k _ e=>by injection e with e;rw[e];exact hb,fun _ _=>rfl⟩
theorem bA.dh {A:Own->Prop}(hb:ax w w'):bA A w o w' o:=⟨Touch.dh hb,fun _ _=>rfl⟩
theorem fz.setRow {p:Place}{l:List bF}{uX:Place->Option Value}(h:fz w o aE cg bM b6 bU b4 bB ah n st)(k:bA (fun t=>t= .mI∨t= .row p) w o w' o')(bK:cV w' 129 bM n Place.val AT uX)(aA:∀q,q≠p->uX q=b4 q)(hs:uX p=some v)
  (bI:gZ w' o' (.row p) 62 2 v l.length (l.flatMap bF.cells)):fz w' o' aE cg bM b6 bU uX bB ah n {st with came:=ml st.came p l}:=by
 refine⟨h.U.ay k (by simp),h.bh.hP k (by rw[h.nM];simp),(k.same _ h.bh.lt).trans h.nM,bK,(k.same _ h.came.lt).trans h.lF,fun q ad=>?_,fun q u ad=>?_,h.els.hP k (by rw[h.ox];simp),(k.same _ h.els.lt).trans h.ox,h.tC,
  fun x b e=>(k.same _ (h.set x b e).lt).trans (h.mM x b e),fun x b e=>(h.set x b e).hP k (by rw[h.mM x b e];simp),h.opens.ay k (by simp),fun s hs=>(h.snap s hs).ay k (by simp),fun s hs=>(h.kept s hs).ay k (by simp),h.s8⟩
 ·by_cases c:q=p
  ·subst c;rw[hs]at ad;cases ad
  ·show ml st.came p l q=[]
   rw[uA c];exact h.q3 q (by rw[<-aA q c];exact ad)
 ·show gZ w' o' (.row q) _ 2 u (ml st.came p l q).length ((ml st.came p l q).flatMap bF.cells)
  by_cases c:q=p
  ·subst c;rw[hs]at ad;cases ad;rw[zt];exact bI
  ·rw[uA c]
   exact(h.row q u (by rw[<-aA q c];exact ad)).ay k (by simp[c])
theorem fz.agX {p:Place}{uX:Place->Option Value}(h:fz w o aE cg bM b6 bU b4 bB ah n st)(k:bA (fun t=>t= .mI∨t= .row p) w o w' o')(bK:cV w' 129 bM n Place.val AT uX)(aA:∀q,q≠p->uX q=b4 q)(hs:uX p=none):fz w' o' aE cg bM b6 bU uX bB ah n {st with came:=ml st.came p []}:=by
 refine⟨h.U.ay k (by simp),h.bh.hP k (by rw[h.nM];simp),(k.same _ h.bh.lt).trans h.nM,bK,(k.same _ h.came.lt).trans h.lF,fun q ad=>?_,fun q u ad=>?_,h.els.hP k (by rw[h.ox];simp),(k.same _ h.els.lt).trans h.ox,h.tC,
  fun x b e=>(k.same _ (h.set x b e).lt).trans (h.mM x b e),fun x b e=>(h.set x b e).hP k (by rw[h.mM x b e];simp),h.opens.ay k (by simp),fun s hs=>(h.snap s hs).ay k (by simp),fun s hs=>(h.kept s hs).ay k (by simp),h.s8⟩
 ·by_cases c:q=p
  ·subst c;exact zt _ _ _
  ·show ml st.came p [] q=[]
   rw[uA c];exact h.q3 q (by rw[<-aA q c];exact ad)
 ·show gZ w' o' (.row q) _ 2 u (ml st.came p [] q).length ((ml st.came p [] q).flatMap bF.cells)
  by_cases c:q=p
  ·subst c;rw[hs]at ad;cases ad
  ·rw[uA c]
   exact(h.row q u (by rw[<-aA q c];exact ad)).ay k (by simp[c])
theorem fz.TJ {p:Place}{x:Bool}(h:fz w o aE cg bM b6 bU b4 bB ah n st)(k:bA (·= .set p.key) w o w' o')(hb:bB p.key=some b)(JL:p.el.size<=maxLen)(bK:cV w' 9 b n pR zB (fun e=>if e=p.el then(if x then some ()else none)else p6 st.els p.key e)):fz w' o' aE cg bM b6 bU b4 bB ah n {st with els:=nI st.els p x}:=by
 refine⟨h.U.ay k (by simp),h.bh.hP k (by rw[h.nM];simp),(k.same _ h.bh.lt).trans h.nM,h.came.hP k (by rw[h.lF];simp),(k.same _ h.came.lt).trans h.lF,h.q3,fun q u ad=>(h.row q u ad).ay k (by simp),h.els.hP k (by rw[h.ox];simp),(k.same _ h.els.lt).trans h.ox,fun key hk e=>?_,
  fun x b e=>(k.same _ (h.set x b e).lt).trans (h.mM x b e),fun key c hk=>?_,h.opens.ay k (by simp),fun s hs=>(h.snap s hs).ay k (by simp),fun s hs=>(h.kept s hs).ay k (by simp),fun key e he=>?_⟩
 ·show nI st.els p x key e=false
  unfold nI;rw[if_neg]
  ·exact h.tC key hk e
  ·rintro ⟨rfl,-⟩;rw[hb]at hk;cases hk
 ·by_cases c':key=p.key
  ·subst c'
   rw[hb]at hk;cases hk;have e:p6 (nI st.els p x) p.key=fun e=>if e=p.el then(if x then some ()else none)else p6 st.els p.key e:=by
    funext e;unfold p6 nI;by_cases c:e=p.el<;>simp[c]
   show cV w' _ b n pR zB (p6 (nI st.els p x) p.key)
   rw[e];exact bK
  ·have e:p6 (nI st.els p x) key=p6 st.els key:=by
    funext e;unfold p6 nI;simp[c']
   show cV w' _ c n pR zB (p6 (nI st.els p x) key)
   rw[e];refine(h.set key c hk).hP k ?_;rw[h.mM key c hk];simp[c']
 ·have rF:nI st.els p x key e=true:=he
  unfold nI at rF;split at rF
  ·rename_i c;rw[c.2];exact JL
  ·exact h.s8 key e rF
theorem fz.amI {uY:ByteArray->Option Nat}(h:fz w o aE cg bM b6 bU b4 bB ah n st)(k:bA (·= .x6) w o w' o')(bK:cV w' 9 b6 n pR mapVal uY)(aA:∀q,q≠key->uY q=bB q)(hn:bB key=none)(hs:uY key=some b)(aD:o' b= .set key)(ao:cV w' 9 b n pR zB (fun _=>none)):fz w' o' aE cg bM b6 bU b4 uY ah n st:=by
 refine⟨h.U.ay k (by simp),h.bh.hP k (by rw[h.nM];simp),(k.same _ h.bh.lt).trans h.nM,h.came.hP k (by rw[h.lF];simp),(k.same _ h.came.lt).trans h.lF,h.q3,fun q u ad=>(h.row q u ad).ay k (by simp),bK,(k.same _ h.els.lt).trans h.ox,fun q ad e=>?_,fun q c ad=>?_,fun q c ad=>?_,h.opens.ay k (by simp),fun s hs=>(h.snap s hs).ay k (by simp),fun s hs=>(h.kept s hs).ay k (by simp),h.s8⟩
 ·by_cases c:q=key
  ·subst c;rw[hs]at ad;cases ad
  ·exact h.tC q (by rw[<-aA q c];exact ad) e
 ·by_cases c':q=key
  ·subst c';rw[hs]at ad;cases ad;exact aD
  ·rw[aA q c']at ad;exact(k.same _ (h.set q c ad).lt).trans (h.mM q c ad)
 ·by_cases c':q=key
  ·subst c';rw[hs]at ad;cases ad
   have e:p6 st.els q=fun _=>none:=by
    funext e;unfold p6;rw[h.tC q hn e];rfl
   rw[e];exact ao
  ·rw[aA q c']at ad
   exact(h.set q c ad).hP k (by rw[h.mM q c ad];simp)
theorem fz.Wl {uY:ByteArray->Option Nat}(h:fz w o aE cg bM b6 bU b4 bB ah n st)(k:bA (·= .x6) w o w' o')(bK:cV w' 9 b6 n pR mapVal uY)(aA:∀q,q≠key->uY q=bB q)(hs:uY key=none)(he:∀e,st.els key e=false):fz w' o' aE cg bM b6 bU b4 uY ah n st:=by
 refine⟨h.U.ay k (by simp),h.bh.hP k (by rw[h.nM];simp),(k.same _ h.bh.lt).trans h.nM,h.came.hP k (by rw[h.lF];simp),(k.same _ h.came.lt).trans h.lF,h.q3,fun q u ad=>(h.row q u ad).ay k (by simp),bK,(k.same _ h.els.lt).trans h.ox,fun q ad e=>?_,fun q c ad=>?_,fun q c ad=>?_,h.opens.ay k (by simp),fun s hs=>(h.snap s hs).ay k (by simp),fun s hs=>(h.kept s hs).ay k (by simp),h.s8⟩
 ·by_cases c:q=key
  ·subst c;exact he e
  ·exact h.tC q (by rw[<-aA q c];exact ad) e
 ·by_cases c':q=key
  ·subst c';rw[hs]at ad;cases ad
  ·rw[aA q c']at ad;exact(k.same _ (h.set q c ad).lt).trans (h.mM q c ad)
 ·by_cases c':q=key
  ·subst c';rw[hs]at ad;cases ad
  ·rw[aA q c']at ad
   exact(h.set q c ad).hP k (by rw[h.mM q c ad];simp)
theorem fz.amF (h:fz w o aE cg bM b6 bU b4 bB ah n st):cg≠bM:=fun e=>by have:=h.nM;rw[e,h.lF]at this;cases this
theorem fz.aaV (h:fz w o aE cg bM b6 bU b4 bB ah n st):bM≠aE:=fun e=>by have:=h.lF;rw[e,h.U.tag]at this;cases this
theorem L4 (h:fz w o aE cg bM b6 bU b4 bB ah n st){p:Place}(aw:p.Ok)(bY:W.heap[bM]?=w.heap[bM]?):(Instr.lookup 179 (.map (some bM)) (.agg #[ai p.key,ai p.el]) false).run prog W= .ok (rB b4 p) W:=by
 obtain⟨cQ,hk⟩:=aw.lit;have a:=(h.came.move bY).lookup (t:=179) rV underlying179 (z:=km) (by kernel_rfl) hk;have e:(b4 p).elim km AT=rB b4 p:=by unfold rB;cases b4 p<;>rfl
 rw[e]at a;exact a
end
theorem Tryz.ak_:(prog.info? 62).map (fun i=>(i.zero,i.size,i.bytes))=some (some (.agg #[I 0,I 0]),2,16):=by kernel_rfl
theorem ahV {l:List bF}:∀u∈l.flatMap bF.cells,u.oneCell'=true:=by
 intro u hu;rw[uD]at hu;obtain⟨d,-,aB⟩:=hu;simp only[bF.cells,h3,not_mem_nil,or_false]at aB;rcases aB with rfl|rfl<;>rfl
theorem agz (w:World)(v:Value)(l:List bF)(bf:Row w 62 2 v l.length (l.flatMap bF.cells))(aC:l.length<=1000000000):
  Calls prog 179 #[v] w fun e w'=>∃v',e= .returned v'∧w'.ownsRow w.heap.size 62 2 v' l.length (l.flatMap bF.cells)∧ax w w':=by
 have wy:=fun w a n c=>Lib.run_eql_slice_nil (P:=prog) w 241 62 a n c 0 0 underlying241
 obtain⟨i0,aq,dC,dM,dK⟩:=iV Tryz.ak_;rcases bf.2 with⟨rfl,aS⟩|⟨g,cap,cur,rfl,-,aM,aA,hm,hs,al⟩
 ·have e:l=[]:=eq_nil_of_length_eq_zero aS
  subst e;clear bf;go_enter func179,ntmps179;go_wp2_with fail
  go_ret;exact⟨_,rfl,jD _ _ _ _,cE⟩
 ·have Cb:∀j u,(l.flatMap bF.cells)[j]?=some u->w.cell? (((aa g 0):Addr).add j)=some u:=World.ownsRow.cells (g:=g) bf rfl
  have dj:=J Cb;have dn:=J (Ap bF.cells 2 (fun _=>rfl) l);have Dp:Hid (∀j u,(l.flatMap bF.cells)[j]?=some u->(w.alloc (.cells #[] 62)).cell? (((aa g 0):Addr).add j)=some u):=fun j u hu=>by
   have:=Cb j u hu;rw[Bj]at this⊢;rw[xb _ _ _ (hU w _ this)];exact this
  have bX:Hid ((w.alloc (.cells #[] 62)).ownsRow w.heap.size 62 2 (bo (w.heap.size) 0 0) 0 []):=⟨rfl,.inr ⟨w.heap.size,0,#[],rfl,cv,cC w _,cv,ch,rfl,rfl⟩⟩;clear bf Cb;go_enter func179,ntmps179;go_wp2_with(at_builtin;refine tK _ rfl _ _ 241 rfl w.heap.size 62 i0 (.agg #[I 0,I 0]) 2 16 underlying241 aq dC dM dK rfl (by decide) _ 0 [] rfl bX.o (aa g 0) l.length cap (l.flatMap bF.cells) rfl dn.o Dp.o ahV (by unfold maxLen;omega) (by omega) (by simp) ?_;intro v1 an hc iI qT kQ)
  go_ret;refine⟨v1,rfl,by simpa using hc,((cj _ _)).grown iI (by simp) (fun j af=>?_)⟩;cases af;exact cv
structure bG where
 dot:Nat->bF
 wr:Nat->Place->Option cG
 qn:Nat->Nat->Bool
def tV (x:Option cG):Int:=match x with|none=>0|some x=>if x.kind=0 then x.cH else 0
def bG.total (H:bG)(p:Place):Nat->Int
 |0=>0
 |j+1=>wrap64 (H.total p j+tV (H.wr j p))
def bG.hN (H:bG)(p:Place)(j:Nat):Bool:=
 match H.wr j p with
 |none=>false
 |some x=>if x.kind=0 then !decide (H.total p (j+1)=0)else decide (x.kind=1)||decide (x.kind=2)
def bG.over (H:bG)(p:Place)(k j:Nat):Bool:=
 match H.wr k p with
 |none=>false
 |some x=>decide (x.kind=0)||H.qn k j
def bG.fw (H:bG)(p:Place)(j:Nat):Nat->Option Nat
 |0=>none
 |N+1=>match H.fw p j N with
  |some k=>some k
  |none=>if j<N∧H.over p N j=true then some N else none
def bG.q9 (H:bG)(p:Place)(j N:Nat):bF:=match H.fw p j N with|some k=>H.dot k|none=>⟨0,0⟩
def bG.gN (H:bG)(p:Place)(j N:Nat):gQ:=
 match H.wr j p with
 |none=>⟨H.q9 p j N,0,⟨#[]⟩⟩
 |some x=>if x.kind=0 then⟨H.q9 p j N,H.total p (j+1),⟨#[]⟩⟩else if x.kind=1 then⟨H.q9 p j N,0,x.value⟩else⟨H.q9 p j N,0,⟨#[]⟩⟩
def bG.at (H:bG)(saw:aW)(T N:Nat):Prop:=∀j,j<N->saw.gI (H.dot j)=decide (j<T)
structure bG.Ok (H:bG)(N:Nat):Prop where
 inj:∀j k,j<N->k<N->H.dot j=H.dot k->j=k
 seq:∀j,j<N->(H.dot j).seq≠0
 ok:∀j,j<N->(H.dot j).Ok
theorem bG.Ok.less {H:bG}{N:Nat}(h:H.Ok N)(hm:M<=N):H.Ok M:=⟨fun j k af hk=>h.inj j k (by omega) (by omega),fun j af=>h.seq j (by omega),fun j af=>h.ok j (by omega)⟩
section
variable {H:bG}{p:Place}{j N k T:Nat}
theorem bG.wY:∀{N:Nat},H.fw p j N=some k->j<k∧k<N∧H.over p k j=true
 |0,h=>by simp[bG.fw]at h
 |N+1,h=>by
  unfold bG.fw at h;split at h
  ·rename_i gC e
   cases h;have:=bG.wY e;exact⟨this.1,by omega,this.2.2⟩
  ·split at h
   ·rename_i c;cases h;exact⟨c.1,by omega,c.2⟩
   ·cases h
theorem bG.Ho:∀{N:Nat},H.fw p j N=none->∀k,j<k->k<N->H.over p k j=false
 |0,_,k,_,hk=>by omega
 |N+1,h,k,af,hk=>by
  unfold bG.fw at h;split at h
  ·cases h
  ·rename_i e
   split at h
   ·cases h
   ·rename_i c
    by_cases Rk:k=N
    ·subst Rk
     cases cu:H.over p k j
     ·rfl
     ·exact absurd ⟨af,cu⟩ c
    ·exact bG.Ho e k af (by omega)
theorem bG.Uf (h:∀k,j<k->k<N->H.over p k j=false):H.fw p j N=none:=by
 cases e:H.fw p j N with
 |none=>rfl
 |some k=>have:=bG.wY e;rw[h k this.1 this.2.1]at this;exact absurd this.2.2 (by simp)
theorem bG.Hn (h:H.fw p j N=some k):H.fw p j (N+1)=some k:=by unfold bG.fw;rw[h]
theorem bG.adv (h:H.fw p j N=some k):∀m,H.fw p j (N+m)=some k
 |0=>h
 |m+1=>bG.Hn (bG.adv h m)
theorem bG.adu (aD:T<=N):H.fw p j T=none↔(H.fw p j N=none∨∃k,H.fw p j N=some k∧T<=k):=by
 constructor
 ·intro h
  cases e:H.fw p j N with
  |none=>exact Or.inl rfl
  |some k=>
   refine Or.inr ⟨k,rfl,?_⟩;have hk:=bG.wY e;rcases vE k T with c|c
   ·have:=bG.Ho h k hk.1 c
    rw[hk.2.2]at this;cases this
   ·exact c
 ·intro h
  cases e:H.fw p j T with
  |none=>rfl
  |some k=>
   have ae:=bG.adv e (N-T);rw[show T+(N-T)=N by omega]at ae;have hk:=bG.wY e;rcases h with c|⟨gC,c,c'⟩
   ·rw[ae]at c;cases c
   ·rw[ae]at c;cases c;omega
theorem bG.adj:(H.gN p j N).fL=H.q9 p j N:=by
 unfold bG.gN;split
 ·rfl
 ·split
  ·rfl
  ·split<;>rfl
theorem bG.T_ {N:Nat}:{H.gN p j N with fL:=H.q9 p j M}=H.gN p j M:=by
 unfold bG.gN;split
 ·rfl
 ·split
  ·rfl
  ·split<;>rfl
theorem bG.adi {N:Nat}(h:H.fw p j N=H.fw p j M):H.gN p j N=H.gN p j M:=by
 rw[<-bG.T_ (N:=N) (M:=M)];have:H.q9 p j M=H.q9 p j N:=by unfold bG.q9;rw[h]
 rw[this];exact bG.T_.symm
theorem bG.He (hO:H.Ok N):(H.gN p j N).wT=true↔H.fw p j N=none:=by
 unfold gQ.wT;rw[bG.adj];unfold bG.q9;split
 ·rename_i k e
  have hk:=bG.wY e;simp[hO.seq k hk.2.1,e]
 ·simp_all
theorem bG.Oa {saw:aW}{bh:cn->Option gQ}(hO:H.Ok N)(av:bh ⟨p,H.dot j⟩=some (H.gN p j N)):
  mK saw bh ⟨p,H.dot j⟩=true↔saw.gI (H.dot j)=true∧(H.fw p j N=none∨∃k,H.fw p j N=some k∧saw.gI (H.dot k)=false):=by
 unfold mK hS;rw[av];simp only[Option.getD_some,qv,Bool.or_eq_true,Bool.not_eq_true',bG.He hO];refine and_congr Iff.rfl ?_;cases e:H.fw p j N with
 |none=>simp
 |some k=>
  rw[bG.adj];unfold bG.q9;rw[e];constructor
  ·rintro (c|c)
   ·cases c
   ·exact Or.inr ⟨k,rfl,c⟩
  ·rintro (c|⟨gC,c,c'⟩)
   ·cases c
   ·cases c;exact Or.inr c'
end
structure nP (H:bG)(p:Place)(N:Nat)(st:b5):Prop where
 b:∀d v,st.bh ⟨p,d⟩=some v->∃j,j<N∧d=H.dot j∧H.hN p j=true∧v=H.gN p j N
 c:∀j,j<N->H.hN p j=true->(H.fw p j N=none∨∃s k,s∈st.bW∧s.saw.gI (H.dot j)=true∧H.fw p j N=some k∧s.saw.gI (H.dot k)=false)->st.bh ⟨p,H.dot j⟩=some (H.gN p j N)
 e:∀s,s∈st.bW->∀d,(⟨p,d⟩:cn)∈s.kept->∃j,j<N∧d=H.dot j∧H.hN p j=true∧(H.fw p j N).isSome
theorem nP.other {H:bG}{p:Place}{N:Nat}{st jP:b5}(h:nP H p N st)(av:∀d,jP.bh ⟨p,d⟩=st.bh ⟨p,d⟩)(hs:∀gL,gL∈jP.bW->∃s,s∈st.bW∧gL.saw=s.saw∧∀d,(⟨p,d⟩:cn)∈gL.kept->(⟨p,d⟩:cn)∈s.kept):nP H p N jP:=by
 refine⟨fun d v aB=>h.b d v (by rw[<-av];exact aB),fun j af aq aA=>?_,fun gL gj d aB=>?_⟩
 ·rw[av]
  refine h.c j af aq (aA.imp id ?_);rintro ⟨gL,k,h1,ae,aH,bd⟩;obtain⟨s,a,b,-⟩:=hs gL h1;exact⟨s,k,a,by rw[<-b];exact ae,aH,by rw[<-b];exact bd⟩
 ·obtain⟨s,a,-,b⟩:=hs gL gj
  exact h.e s a d (b d aB)
theorem nP.dead {H:bG}{p:Place}{N:Nat}{st:b5}(h:nP H p N st)(hw:H.wr N p=none):nP H p (N+1) st:=by
 have aM:∀j,H.fw p j (N+1)=H.fw p j N:=fun j=>by
  cases e:H.fw p j N with
  |some k=>exact bG.Hn e
  |none=>
   unfold bG.fw;rw[e];have:H.over p N j=false:=by unfold bG.over;rw[hw]
   simp[this]
 have av:∀j,H.gN p j (N+1)=H.gN p j N:=fun j=>bG.adi (aM j)
 have aq:H.hN p N=false:=by unfold bG.hN;rw[hw]
 refine⟨fun d v aB=>?_,fun j af m_ aA=>?_,fun s hs d aB=>?_⟩
 ·obtain⟨j,a,b,c,e⟩:=h.b d v aB
  exact⟨j,by omega,b,c,by rw[av];exact e⟩
 ·have MU:j<N:=by
   rcases vE j N with c|c
   ·exact c
   ·have:j=N:=by omega
    subst this;rw[aq]at m_;cases m_
  rw[av];rw[aM]at aA;exact h.c j MU m_ aA
 ·obtain⟨j,a,b,c,e⟩:=h.e s hs d aB
  exact⟨j,by omega,b,c,by rw[aM];exact e⟩
def vP (p:Place)(st jP:b5):Prop:=∀gL,gL∈jP.bW->∃s,s∈st.bW∧gL.saw=s.saw∧gL.U=s.U∧∀x,x∈gL.kept->x∈s.kept∨x.at_=p
theorem vP.refl (p:Place)(st:b5):vP p st st:=fun s hs=>⟨s,hs,rfl,rfl,fun _=>Or.inl⟩
theorem vP.trans {p:Place}{a b c:b5}(h:vP p a b)(k:vP p b c):vP p a c:=fun s hs=>by
 obtain⟨t,al,aP,ba,ey⟩:=k s hs;obtain⟨u,hu,f1,f2,f3⟩:=h t al;exact⟨u,hu,aP.trans f1,ba.trans f2,fun x au=>(ey x au).elim (f3 x) Or.inr⟩
theorem IJ (st:b5)(x:cn):vP x.at_ st (gA st x):=by
 unfold gA;split
 ·rename_i m hm
  obtain⟨a,s,b,e,rfl,-,-⟩:=AU hm;intro t al;have ma:t∈a++oJ x s::b:=al;rw[hT,h3]at ma;rcases ma with c|c|c
  ·exact⟨t,by rw[e];simp[c],rfl,rfl,fun _=>Or.inl⟩
  ·subst c
   refine⟨s,by rw[e];simp,rfl,rfl,fun y b9=>?_⟩;have CH:y∈s.kept++[x]:=b9;rw[hT,k4]at CH;exact CH.imp id (fun e=>by rw[e])
  ·exact⟨t,by rw[e];simp[c],rfl,rfl,fun _=>Or.inl⟩
 ·exact vP.refl _ _
theorem amW (st:b5)(p:Place)(seen:aW)(cN d:bF):vP p st (iy p seen cN st d):=by
 unfold iy;split
 ·intro s hs
  have:=IJ _ (⟨p,d⟩:cn) s hs;exact this
 ·exact vP.refl _ _
theorem TT (p:Place)(seen:aW)(cN:bF):∀(l:List bF) (st:b5),vP p st (l.foldl (iy p seen cN) st)
 |[],_=>vP.refl _ _
 |a::l,st=>(amW st p seen cN a).trans (TT p seen cN l _)
theorem acI (p:Place)(seen:aW)(cN:bF){y:cn}(h:y.at_≠p):∀(l:List bF) (st:b5),(l.foldl (iy p seen cN) st).bh y=st.bh y
 |[],_=>rfl
 |a::l,st=>by rw[sO,acI p seen cN h l];exact NP (fun e=>h (by rw[e]))
theorem acJ (p:Place)(seen:aW)(cN:bF):∀(l:List bF) (st:b5),(l.foldl (iy p seen cN) st).ag=st.ag
 |[],_=>rfl
 |a::l,st=>by rw[sO,acJ p seen cN l,amY]
structure uO (H:bG)(p:Place)(N:Nat)(lg:bF->Bool)(st:b5):Prop where
 b:∀d v,st.bh ⟨p,d⟩=some v->∃j,j<N∧d=H.dot j∧H.hN p j=true∧v=H.gN p j (if lg d then N+1 else N)
 c:∀j,j<N->H.hN p j=true->(H.fw p j (if lg (H.dot j)then N+1 else N)=none∨∃s k,s∈st.bW∧s.saw.gI (H.dot j)=true∧H.fw p j (if lg (H.dot j)then N+1 else N)=some k∧s.saw.gI (H.dot k)=false)->st.bh ⟨p,H.dot j⟩=some (H.gN p j (if lg (H.dot j)then N+1 else N))
 e:∀s,s∈st.bW->∀d,(⟨p,d⟩:cn)∈s.kept->∃j,j<N∧d=H.dot j∧H.hN p j=true∧(H.fw p j (if lg d then N+1 else N)).isSome
theorem uO.start {H:bG}{p:Place}{N:Nat}{st:b5}(h:nP H p N st):uO H p N (fun _=>false) st:=by
 refine⟨fun d v aB=>by simpa using h.b d v aB,fun j af aq aA=>?_,fun s hs d aB=>by simpa using h.e s hs d aB⟩;simpa using h.c j af aq (by simpa using aA)
theorem uO.fresh {H:bG}{p:Place}{N:Nat}{lg:bF->Bool}{st:b5}{d:bF}(h:uO H p N lg st)(hO:H.Ok N)(aB:(st.bh ⟨p,d⟩).isSome)(hn:lg d=false)(hs:(hS st.bh ⟨p,d⟩).wT=true):∀s,s∈st.bW->(⟨p,d⟩:cn)∉s.kept:=fun s gj hk=>by
 obtain⟨v,av⟩:=mn.1 aB;obtain⟨j,af,rfl,aq,e⟩:=h.b d v av;rw[hn]at e;simp only[K8,if_false]at e;subst e;have EC:hS st.bh ⟨p,H.dot j⟩=H.gN p j N:=by unfold hS;rw[av];rfl
 rw[EC,bG.He hO]at hs;obtain⟨i,mZ,nw,-,Js⟩:=h.e s gj _ hk;have:i=j:=hO.inj i j mZ af nw.symm;subst this;rw[hn]at Js;simp only[K8,if_false,hs]at Js;cases Js
theorem uO.step {H:bG}{p:Place}{N:Nat}{lg:bF->Bool}{st:b5}{seen:aW}{d:bF}(h:uO H p N lg st)(hO:H.Ok (N+1))(iJ:∀j,j<N->H.over p N j=seen.gI (H.dot j))(aB:(st.bh ⟨p,d⟩).isSome)(hn:lg d=false):
  uO H p N (fun e=>lg e||decide (e=d)) (iy p seen (H.dot N) st d):=by
 obtain⟨v,av⟩:=mn.1 aB;obtain⟨j,af,rfl,aq,e⟩:=h.b d v av;rw[hn]at e;simp only[K8,if_false]at e;subst e;have Ge:=hO.less (pU N);have Yi:∀i,i<N->H.dot i≠H.dot j->(lg (H.dot i)||decide (H.dot i=H.dot j))=lg (H.dot i):=fun i _ bS=>by simp[bS]
 have EC:hS st.bh ⟨p,H.dot j⟩=H.gN p j N:=by unfold hS;rw[av];rfl
 unfold iy;rw[EC];split
 ·rename_i GD
  rw[qv,bG.He Ge,<-iJ j af]at GD;have GJ:H.fw p j (N+1)=some N:=by
   unfold bG.fw;rw[GD.1];simp[af,GD.2]
  have vp:{H.gN p j N with fL:=H.dot N}=H.gN p j (N+1):=by
   have:H.dot N=H.q9 p j (N+1):=by unfold bG.q9;rw[GJ]
   rw[this];exact bG.T_
  rw[vp];have akh:∀i,i<N->i≠j->(gA {st with bh:=lv st.bh ⟨p,H.dot j⟩ (some (H.gN p j (N+1)))} ⟨p,H.dot j⟩).bh ⟨p,H.dot i⟩=st.bh ⟨p,H.dot i⟩:=fun i qS bS=>by
   have:(⟨p,H.dot i⟩:cn)≠⟨p,H.dot j⟩:=fun e=>bS (Ge.inj i j qS af (cn.mk.inj e).2)
   rw[IK this];exact tD this
  have xL:=IJ {st with bh:=lv st.bh ⟨p,H.dot j⟩ (some (H.gN p j (N+1)))} ⟨p,H.dot j⟩;have bI:∀saw:aW,mK saw (lv st.bh ⟨p,H.dot j⟩ (some (H.gN p j (N+1)))) ⟨p,H.dot j⟩=true↔saw.gI (H.dot j)=true∧saw.gI (H.dot N)=false:=fun saw=>by
   rw[bG.Oa hO (vy _ _ _),GJ];constructor
   ·rintro ⟨a,b|⟨k,b,hz⟩⟩
    ·cases b
    ·cases b;exact⟨a,hz⟩
   ·rintro ⟨a,b⟩
    exact⟨a,Or.inr ⟨N,rfl,b⟩⟩
  generalize a1:gA {st with bh:=lv st.bh ⟨p,H.dot j⟩ (some (H.gN p j (N+1)))} ⟨p,H.dot j⟩=st2 at*;have Ey:st2.bh ⟨p,H.dot j⟩=some (H.gN p j (N+1))∨(st2.bh ⟨p,H.dot j⟩=none∧∀s,s∈st.bW->¬(s.saw.gI (H.dot j)=true∧s.saw.gI (H.dot N)=false)):=by
   rw[<-a1];unfold gA;split
   ·exact Or.inl (vy _ _ _)
   ·rename_i hk
    refine Or.inr ⟨vy _ _ _,fun s hs c=>?_⟩;have:=Sk hk s hs;rw[(bI s.saw).2 c]at this;cases this
  refine⟨fun d' v' jk=>?_,fun i mZ nw aA=>?_,fun s hs d' jk=>?_⟩
  ·by_cases c:d'=H.dot j
   ·subst c
    rcases Ey with e|⟨e,-⟩
    ·rw[e]at jk;cases jk
     exact⟨j,af,rfl,aq,by simp⟩
    ·rw[e]at jk;cases jk
   ·have:(⟨p,d'⟩:cn)≠⟨p,H.dot j⟩:=fun e=>c (cn.mk.inj e).2
    have ba:st2.bh ⟨p,d'⟩=st.bh ⟨p,d'⟩:=by rw[<-a1,IK this];exact tD this
    rw[ba]at jk;obtain⟨i,h1,ae,aH,bd⟩:=h.b d' v' jk;refine⟨i,h1,ae,aH,?_⟩;simpa[c]using bd
  ·by_cases c:i=j
   ·subst c
    simp only[decide_true,Bool.or_true,uC]at aA⊢;rcases Ey with e|⟨e,eV⟩
    ·exact e
    ·rw[GJ]at aA
     rcases aA with aA|⟨s,k,h1,ae,aH,bd⟩
     ·cases aA
     ·cases aH
      obtain⟨cY,wD,aP,-,-⟩:=xL s h1;exact absurd ⟨by rw[<-aP];exact ae,by rw[<-aP];exact bd⟩ (eV cY wD)
   ·have bS:H.dot i≠H.dot j:=fun e=>c (Ge.inj i j mZ af e)
    rw[Yi i mZ bS]at aA⊢;rw[akh i mZ c];refine h.c i mZ nw (aA.imp id ?_);rintro ⟨s,k,h1,ae,aH,bd⟩;obtain⟨cY,wD,aP,-,-⟩:=xL s h1;exact⟨cY,k,wD,by rw[<-aP];exact ae,aH,by rw[<-aP];exact bd⟩
  ·by_cases c:d'=H.dot j
   ·subst c;exact⟨j,af,rfl,aq,by simp[GJ]⟩
   ·simp only[c,decide_false,Bool.or_false]
    rw[<-a1]at hs;unfold gA at hs;split at hs
    ·rename_i m hm
     obtain⟨a,cY,b,e,rfl,-,-⟩:=AU hm;have dI:st.bW=a++cY::b:=e;have gj:s∈a++oJ ⟨p,H.dot j⟩ cY::b:=hs;rw[hT,h3]at gj;rcases gj with q|q|q
     ·exact h.e s (by rw[dI];simp[q]) d' jk
     ·subst q
      have oA:(⟨p,d'⟩:cn)∈cY.kept++[⟨p,H.dot j⟩]:=jk;rw[hT,k4]at oA;rcases oA with q|q
      ·exact h.e cY (by rw[dI];simp) d' q
      ·exact absurd (cn.mk.inj q).2 c
     ·exact h.e s (by rw[dI];simp[q]) d' jk
    ·exact h.e s hs d' jk
 ·rename_i GD
  have hw:H.fw p j (N+1)=H.fw p j N:=by
   cases e:H.fw p j N with
   |some k=>exact bG.Hn e
   |none=>
    rw[qv,bG.He Ge,<-iJ j af]at GD;unfold bG.fw;rw[e];have:H.over p N j=false:=by
     cases c:H.over p N j
     ·rfl
     ·exact absurd ⟨e,c⟩ GD
    simp[this]
  have vp:H.gN p j (N+1)=H.gN p j N:=bG.adi hw;refine⟨fun d' v' jk=>?_,fun i mZ nw aA=>?_,fun s hs d' jk=>?_⟩
  ·obtain⟨i,h1,ae,aH,bd⟩:=h.b d' v' jk
   refine⟨i,h1,ae,aH,?_⟩;by_cases c:d'=H.dot j
   ·subst c
    have:i=j:=(Ge.inj j i af h1 ae).symm;subst this;rw[hn]at bd;simp only[decide_true,Bool.or_true,uC,vp];simpa using bd
   ·simpa[c]using bd
  ·by_cases c:i=j
   ·subst c
    simp only[decide_true,Bool.or_true,uC,vp];exact av
   ·have bS:H.dot i≠H.dot j:=fun e=>c (Ge.inj i j mZ af e)
    rw[Yi i mZ bS]at aA⊢;exact h.c i mZ nw aA
  ·obtain⟨i,h1,ae,aH,bd⟩:=h.e s hs d' jk
   refine⟨i,h1,ae,aH,?_⟩;by_cases c:d'=H.dot j
   ·subst c
    simp only[hn,K8,if_false]at bd;obtain⟨k,hk⟩:=mn.1 bd;simp[bG.Hn hk]
   ·simpa[c]using bd
theorem Ud (w:World)(b:Nat)(v:aW)(c0:eh w b 0 (I v.a))(c1:eh w b 1 (I v.b))(c2:eh w b 2 (I v.c))(c3:eh w b 3 (I v.d))(c4:eh w b 4 (I v.e)):
  Calls prog 57 #[.pointer (some (aa b 0))] w (bx v.val fun w'=>ax w w'):=by
 have aC:=hU w _ c0;go_enter func57,ntmps57;go_wp2_with fail
 exact iX (v:=v.val) (by simp[results,results57,go_sem]) rfl ⟨rfl,(cj _ _)⟩
theorem aoH (w:World)(b:Nat)(v:aW)(c0:eh w b 1 (I v.a))(c1:eh w b 2 (I v.b))(c2:eh w b 3 (I v.c))(c3:eh w b 4 (I v.d))(c4:eh w b 5 (I v.e)):
  Calls prog 67 #[.pointer (some (aa b 0))] w (bx v.val fun w'=>ax w w'):=by
 have aC:=hU w _ c0;go_enter func67,ntmps67;go_wp2_with fail
 exact iX (v:=v.val) (by simp[results,results67,go_sem]) rfl ⟨rfl,(cj _ _)⟩
end Go.Proofs.YtiplgdkpnhamaaaGreatDoor
