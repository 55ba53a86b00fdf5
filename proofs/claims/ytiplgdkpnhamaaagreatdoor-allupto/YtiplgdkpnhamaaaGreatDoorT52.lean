import Derived.Test.YtiplgdkpnhamaaaGreatDoorT45
import Derived.Test.YtiplgdkpnhamaaaGreatDoorRows
import Derived.Deep.Slices
import Derived.ProofKit
import Derived.LaidSub
import Derived.Lib.LaidTab
import Derived.MakeChecks
namespace Go.Proofs.YtiplgdkpnhamaaaGreatDoor.Tv
open Go.Proofs.Tryz List
open Go.RowKit Go.ChangeShapes Go.WideShapes
variable {cs:List Value}{fuel:Nat}
theorem aco {α:Type}{l:List α}(h:l.length=6):∃a b c d e f,l=[a,b,c,d,e,f]:=by
 match l,h with
 |[a,b,c,d,e,f],_=>exact⟨a,b,c,d,e,f,rfl⟩
theorem abh:prog.cellsOf 30=6:=by kernel_rfl
theorem alw:prog.cellsOf 3=1:=by kernel_rfl
theorem apg:prog.cellsOf 9=1:=by kernel_rfl
theorem al7 {H:Type}(d:DataW H):1<=Rows.uptoBulk d:=by
 cases d with
 |lit l=>cases l<;>simp[Rows.uptoBulk]
 |_=>simp[Rows.uptoBulk]
theorem age {H:Type}(l:List (DataW H)):l.length<=Rows.uptoBulkAll l:=by
 induction l with
 |nil=>simp[Rows.uptoBulkAll]
 |cons x r ih=>have:=al7 x;simp only[Rows.uptoBulkAll,lP];omega
theorem al6 {H:Type}{l:List (DataW H)}{x:DataW H}(h:x∈l):Rows.uptoBulk x<=Rows.uptoBulkAll l:=by
 induction l with
 |nil=>cases h
 |cons y r ih=>
  simp only[Rows.uptoBulkAll];rcases h3.1 h with rfl|h
  ·omega
  ·have:=ih h;omega
theorem wf_i64 {z:Int}(h:(Lit.int .i64 z).wf=true): -9223372036854775808<=z∧z<=9223372036854775807:=by
 have q1:IntKind.i64.min= -9223372036854775808:=by decide
 have dy:IntKind.i64.max=9223372036854775807:=by decide
 simpa only[Lit.wf,q1,dy,qv,mo]using h
section
variable {H:Type}{enc:TypeId×Value->H}{W:World}{base:Nat}{sp:Nat->Bool}{held:Bool}
theorem amg {P:Program}{t:TypeId}{f0 f1 f2 f3 f4 f5:Field}{x:DataW H×List MemPlace}(al:P.underlying t=some (.struct #[f0,f1,f2,f3,f4,f5]))(h:DataW.trod enc P W base sp held fuel t cs=some x):
  ∃dm dz ei fG ib j2 n,x.1= .agg [dm.1,dz.1,ei.1,fG.1,ib.1,j2.1]∧cs.length=P.cellsOf t∧DataW.trod enc P W base sp held n f0.type ((cs.drop f0.offset).take (P.cellsOf f0.type))=some dm∧DataW.trod enc P W base sp held n f1.type ((cs.drop f1.offset).take (P.cellsOf f1.type))=some dz∧
   DataW.trod enc P W base sp held n f2.type ((cs.drop f2.offset).take (P.cellsOf f2.type))=some ei∧DataW.trod enc P W base sp held n f3.type ((cs.drop f3.offset).take (P.cellsOf f3.type))=some fG∧
   DataW.trod enc P W base sp held n f4.type ((cs.drop f4.offset).take (P.cellsOf f4.type))=some ib∧DataW.trod enc P W base sp held n f5.type ((cs.drop f5.offset).take (P.cellsOf f5.type))=some j2:=by
 obtain⟨xs,n,_,rfl,aC,hlen,bm⟩:=DataW.trod_struct al h;obtain⟨dm,dz,ei,fG,ib,j2,rfl⟩:=aco hlen;exact⟨dm,dz,ei,fG,ib,j2,n,rfl,aC,by simpa using bm 0 f0 rfl,by simpa using bm 1 f1 rfl,by simpa using bm 2 f2 rfl,by simpa using bm 3 f3 rfl,by simpa using bm 4 f4 rfl,by simpa using bm 5 f5 rfl⟩
theorem ame {x:DataW H×List MemPlace}(h:DataW.trod enc prog W base sp held fuel 30 cs=some x)(hb:Rows.uptoBulk x.1<=1048576):∃p:gw,cs=p.cells∧rm p:=by
 obtain⟨dm,dz,ei,fG,ib,j2,n,au,aC,aS,h1,ae,aH,bd,cS⟩:=amg underlying30 h;rw[au]at hb;rw[abh]at aC;obtain⟨c0,c1,c2,c3,c4,c5,rfl⟩:=aco aC;simp only[alw,apg,j4,jR,jC,ju]at aS h1 ae aH bd cS;obtain⟨a0,eo,-,cr⟩:=DataW.trod_int underlying3 aS;obtain⟨cO,aP,-,an⟩:=DataW.trod_int underlying3 h1;obtain⟨a2,ba,-,w2⟩:=DataW.trod_int underlying3 ae;obtain⟨a3,ey,-,bN⟩:=DataW.trod_int underlying3 aH;obtain⟨a4,hB,-,cc⟩:=DataW.trod_string underlying9 bd;obtain⟨a5,gS,rfl,w5⟩:=DataW.trod_string underlying9 cS;simp only[List.cons.injEq,and_true]at eo aP ba ey hB gS;subst eo aP ba ey hB gS;have hs:a5.size<=1048576:=by
  simp only[Rows.uptoBulk,Rows.uptoBulkAll]at hb;have e:a5.data.toList.length=a5.size:=by rw[Array.length_toList];rfl
  omega
 exact⟨⟨a0,cO,a2,a3,a4,a5⟩,rfl,⟨⟨(wf_i64 an).1,(wf_i64 an).2,cc,w5⟩,(wf_i64 w2).1,(wf_i64 w2).2,(wf_i64 bN).1,(wf_i64 bN).2,by show a5.size<=_;omega⟩⟩
end
theorem SF {H:Type}{enc:TypeId×Value->H}{W:World}{sv:Value}{d:DataW H}{ps:List MemPlace}(h:DataW.trod enc prog W 0 (fun _=>true) true fuel 22 [sv]=some (d,ps))(hb:Rows.uptoBulk d<=1048576):
  ∃ops,FM W sv ops∧∀k (h:k<ops.length),rm (ops[k]):=by
 rcases Go.Deep.open_slice underlying22 h with⟨aA,-⟩|⟨a,len,cap,m,n,D,arq,aA,-,aC,-,hm,au,gn⟩
 ·simp only[List.cons.injEq,and_true]at aA
  exact⟨[],⟨⟨none,0,aA,fun k hk=>absurd hk (De _)⟩,fun k hk=>absurd hk (De _),ch⟩,fun k hk=>absurd hk (De _)⟩
 ·simp only[List.cons.injEq,and_true]at aA
  simp only[uC]at hm;subst hm;simp only[Prod.mk.injEq]at au;have aB:=au.1;rw[abh]at gn;haveI:Inhabited gw:=⟨⟨0,0,0,0,⟨#[]⟩,⟨#[]⟩⟩⟩
  have e6:Rows.uptoBulkAll ((List.range len).map D)<=1048576:=by
   rw[aB]at hb;simp only[Rows.uptoBulk]at hb;omega
  obtain⟨f,bm⟩:=Go.Deep.choose_lt (α:=gw) (n:=len) (p:=fun i p=>rm p∧∀j,j<6->W.cell? ((a.add (i*6)).add j)=p.cells[j]?) (fun i aq=>by
   obtain⟨cs,h1,ae⟩:=gn i (by omega);obtain⟨p,rfl,aw⟩:=ame ae (fx (al6 (gF.2 ⟨i,mem_range.2 aq,rfl⟩)) e6);exact⟨p,aw,fun j af=>(World.cells?_some h1).2.2 j af⟩)
  have sj:len<=1048576:=by
   have:=age ((List.range len).map D);rw[mO,length_range]at this;omega
  refine⟨(List.range len).map f,⟨⟨some a,m,by simpa using aA,fun k hk=>?_⟩,fun k hk=>?_,by simpa using sj⟩,fun k hk=>?_⟩
  ·have gi:k<len:=by simpa using hk
   have aS:=(bm 0 (by omega)).2 0 (by omega);obtain⟨aE,wS,spot⟩:=a;have RY:W.cell? (⟨aE,wS,spot⟩:Addr)=some (I (f 0).kind):=by simpa[Addr.add,gw.cells]using aS
   have aky:spot=none:=by simpa using World.cell?_spot RY
   subst aky;refine⟨aE,wS,rfl,?_,fun j af=>?_⟩
   ·exact hU W _ RY
   ·have:=(bm k gi).2 j af
    simp only[Bj]at this;rw[this];simp
  ·have gi:k<len:=by simpa using hk
   simpa using(bm k gi).1.ok
  ·have gi:k<len:=by simpa using hk
   simpa using(bm k gi).1
end Go.Proofs.YtiplgdkpnhamaaaGreatDoor.Tv
namespace Go.Proofs.YtiplgdkpnhamaaaGreatDoor
open Go.Proofs.Tryz List
open Go.RowKit
def PY:List Int:=match(Rows.laid_math_bits_deBruijn64tab:DataW Unit)with
 | .agg l=>l.map fun|DataW.lit (.int _ z)=>z|_=>0
 |_=>[]
theorem agc:(Rows.laid_math_bits_deBruijn64tab:DataW Unit)=Lib.tabData .u8 PY:=by kernel_rfl
theorem anp:(Rows.laid_internal_strconv_uint64pow10:DataW Unit)=Lib.tabData .u64 Lib.pow10Tab:=by kernel_rfl
def PN:List (String×DataW Unit):=[("math/bits.deBruijn32tab",Rows.laid_math_bits_deBruijn32tab),("math/bits.deBruijn64tab",Rows.laid_math_bits_deBruijn64tab),("internal/strconv.uint64pow10",Rows.laid_internal_strconv_uint64pow10),("strconv.ErrRange",Rows.laid_strconv_ErrRange),("strconv.ErrSyntax",Rows.laid_strconv_ErrSyntax)]
theorem TV {W:World}(h:laidMetH prog PN W):fI W:=by
 have h1:=h.filter (fun x=>x.1== "internal/strconv.uint64pow10");have ae:=h.filter (fun x=>x.1== "math/bits.deBruijn64tab");have aP:PN.filter (fun x=>x.1== "internal/strconv.uint64pow10")=[("internal/strconv.uint64pow10",Lib.tabData .u64 Lib.pow10Tab)]:=by rw[<-anp];rfl
 have ba:PN.filter (fun x=>x.1== "math/bits.deBruijn64tab")=[("math/bits.deBruijn64tab",Lib.tabData .u8 PY)]:=by rw[<-agc];rfl
 rw[aP,MakeChecks.laidMetH_plain _ _ _ (by kernel_rfl)]at h1;rw[ba,MakeChecks.laidMetH_plain _ _ _ (by kernel_rfl)]at ae;have t1:Lib.TabIs prog W "internal/strconv.uint64pow10" .u64 Lib.pow10Tab:=Lib.tabIs_of_head (g:=0) (t:=346) (e:=286) (n:=20) (by kernel_rfl) (by kernel_rfl) (by kernel_rfl) (by kernel_rfl) (by kernel_rfl) (by kernel_rfl) h1;have t2:Lib.TabIs prog W "math/bits.deBruijn64tab" .u8 PY:=Lib.tabIs_of_head (g:=5) (t:=362) (e:=5) (n:=64) (by kernel_rfl) (by kernel_rfl) (by kernel_rfl) (by kernel_rfl) (by kernel_rfl) (by kernel_rfl) ae;have c:=t2.cell (g:=5) (by kernel_rfl) 15 (by decide+kernel);have ey:PY.getD 15 0=4:=by kernel_rfl
 rw[ey]at c;exact⟨t1,c⟩
end Go.Proofs.YtiplgdkpnhamaaaGreatDoor
