/- The texts QE4, joined. -/
import Derived.Test.YtiplgdkpnhamaaaGreatDoorE68
import Derived.Test.YtiplgdkpnhamaaaGreatDoorRows
import Derived.Deep.Slices
import Derived.ProofKit
namespace Go.Proofs.YtiplgdkpnhamaaaGreatDoor.Tv
open Go.RowKit Go.ChangeShapes Go.WideShapes
theorem four_of {α:Type} {l:List α} (h:l.length=4):∃ a b c d,l=[a,b,c,d]:=by
 match l,h with
 | [a,b,c,d],_=>exact ⟨a,b,c,d,rfl⟩
theorem kop_cells:Tryz.prog.cellsOf 39=4:=by kernel_rfl
theorem kint_cells:Tryz.prog.cellsOf 3=1:=by kernel_rfl
theorem kwf_i64 {n:Int} (h:(Lit.int .i64 n).wf=true):-9223372036854775808≤n∧n≤9223372036854775807:=by
 have q1:IntKind.i64.min=-9223372036854775808:=by decide
 have q2:IntKind.i64.max=9223372036854775807:=by decide
 simpa only [Lit.wf,q1,q2,Bool.and_eq_true,decide_eq_true_eq] using h
theorem kbulk_one {H:Type} (d:DataW H):1≤Rows.uptoBulk d:=by
 cases d with
 | lit l=>cases l <;> simp [Rows.uptoBulk]
 | _=>simp [Rows.uptoBulk]
theorem kbulk_five {H:Type} (l:List (DataW H)) (h:∀ x,x ∈ l→5≤Rows.uptoBulk x):5 * l.length≤Rows.uptoBulkAll l:=by
 induction l with
 | nil=>simp [Rows.uptoBulkAll]
 | cons x r ih=>
  have a:=h x (by simp)
  have b:=ih fun y hy=>h y (by simp [hy])
  simp only [Rows.uptoBulkAll,List.length_cons]
  omega
section
variable {H:Type} {enc:TypeId × Value→H} {W:World} {base:Nat} {sp:Nat→Bool} {held:Bool}
theorem kstruct4 {P:Program} {t:TypeId} {f0 f1 f2 f3:Field} {fuel:Nat} {cs:List Value} {x:DataW H × List MemPlace} (ht:P.underlying t=some (.struct #[f0,f1,f2,f3])) (h:DataW.trod enc P W base sp held fuel t cs=some x) :
  ∃ y0 y1 y2 y3 n,5≤Rows.uptoBulk x.1∧cs.length=P.cellsOf t∧DataW.trod enc P W base sp held n f0.type ((cs.drop f0.offset).take (P.cellsOf f0.type))=some y0∧DataW.trod enc P W base sp held n f1.type ((cs.drop f1.offset).take (P.cellsOf f1.type))=some y1 ∧
   DataW.trod enc P W base sp held n f2.type ((cs.drop f2.offset).take (P.cellsOf f2.type))=some y2∧DataW.trod enc P W base sp held n f3.type ((cs.drop f3.offset).take (P.cellsOf f3.type))=some y3:=by
 obtain ⟨xs,n,_,rfl,hl,hlen,hf⟩:=DataW.trod_struct ht h
 obtain ⟨y0,y1,y2,y3,rfl⟩:=four_of hlen
 refine ⟨y0,y1,y2,y3,n,?_,hl,by simpa using hf 0 f0 rfl,by simpa using hf 1 f1 rfl,by simpa using hf 2 f2 rfl,by simpa using hf 3 f3 rfl⟩
 have a:=kbulk_one y0.1
 have b:=kbulk_one y1.1
 have c:=kbulk_one y2.1
 have d:=kbulk_one y3.1
 simp only [List.map_cons,List.map_nil,Rows.uptoBulk,Rows.uptoBulkAll]
 omega
theorem kop_of {fuel:Nat} {cs:List Value} {x:DataW H × List MemPlace} (h:DataW.trod enc Tryz.prog W base sp held fuel 39 cs=some x):5≤Rows.uptoBulk x.1∧∃ p:KOp,cs=p.cells∧p.Ok:=by
 obtain ⟨y0,y1,y2,y3,n,h5,hl,h0,h1,h2,h3⟩:=kstruct4 Tryz.underlying39 h
 rw [kop_cells] at hl
 obtain ⟨c0,c1,c2,c3,rfl⟩:=four_of hl
 simp only [kint_cells,List.drop_succ_cons,List.drop_zero,List.take_succ_cons,List.take_zero] at h0 h1 h2 h3
 obtain ⟨a0,e0,-,w0⟩:=DataW.trod_int Tryz.underlying3 h0
 obtain ⟨a1,e1,-,w1⟩:=DataW.trod_int Tryz.underlying3 h1
 obtain ⟨a2,e2,-,w2⟩:=DataW.trod_int Tryz.underlying3 h2
 obtain ⟨a3,e3,-,w3⟩:=DataW.trod_int Tryz.underlying3 h3
 simp only [List.cons.injEq,and_true] at e0 e1 e2 e3
 subst e0 e1 e2 e3
 exact ⟨h5,⟨a0,a1,a2,a3⟩,rfl,⟨(kwf_i64 w1).1,(kwf_i64 w1).2,(kwf_i64 w2).1,(kwf_i64 w2).2,(kwf_i64 w3).1,(kwf_i64 w3).2⟩⟩
end
theorem kscript_in {H:Type} {enc:TypeId × Value→H} {W:World} {fuel:Nat} {sv:Value} {d:DataW H} {ps:List MemPlace} (h:DataW.trod enc Tryz.prog W 0 (fun _=>true) true fuel 34 [sv]=some (d,ps)) (hb:Rows.uptoBulk d≤1048576):∃ ops,KIn W sv ops:=by
 rcases Go.Deep.open_slice Tryz.underlying34 h with ⟨hc,-⟩ | ⟨a,len,cap,m,n,D,Pl,hc,-,hl,-,hm,hx,hall⟩
 ·simp only [List.cons.injEq,and_true] at hc
  exact ⟨[],⟨none,0,hc,fun k hk=>absurd hk (Nat.not_lt_zero _)⟩,fun k hk=>absurd hk (Nat.not_lt_zero _),Nat.zero_le _⟩
 ·simp only [List.cons.injEq,and_true] at hc
  simp only [if_true] at hm
  subst hm
  simp only [Prod.mk.injEq] at hx
  have hd:=hx.1
  rw [kop_cells] at hall
  haveI:Inhabited KOp:=⟨⟨0,0,0,0⟩⟩
  obtain ⟨f,hf⟩:=Go.Deep.choose_lt (α:=KOp) (n:=len) (p:=fun i p=>p.Ok∧(∀ j,j<4→W.cell? ((a.add (i * 4)).add j)=p.cells[j]?)∧5≤Rows.uptoBulk (D i)) (fun i hi=>by
   obtain ⟨cs,h1,h2⟩:=hall i (by omega)
   obtain ⟨h5,p,rfl,hp⟩:=kop_of h2
   exact ⟨p,hp,fun j hj=>(World.cells?_some h1).2.2 j hj,h5⟩)
  have hfew:len≤262144:=by
   have:=kbulk_five ((List.range len).map D) (fun x hx=>by
    obtain ⟨i,hi,rfl⟩:=List.mem_map.1 hx
    exact (hf i (List.mem_range.1 hi)).2.2)
   rw [hd] at hb
   simp only [Rows.uptoBulk] at hb
   rw [List.length_map,List.length_range] at this
   omega
  refine ⟨(List.range len).map f,⟨some a,m,by simpa using hc,fun k hk=>?_⟩,fun k hk=>?_,by simpa using hfew⟩
  ·have hk':k<len:=by simpa using hk
   have h0:=(hf 0 (by omega)).2.1 0 (by omega)
   obtain ⟨sb,so,spot⟩:=a
   have hv0:W.cell? (⟨sb,so,spot⟩:Addr)=some (.int .i64 (f 0).kind):=by simpa [Addr.add,KOp.cells] using h0
   have hspot:spot=none:=by simpa using World.cell?_spot hv0
   subst hspot
   refine ⟨sb,so,rfl,World.block_lt_of_cell? W _ hv0,fun j hj=>?_⟩
   have:=(hf k hk').2.1 j hj
   simp only [Addr.add_lit] at this
   rw [this]
   simp
  ·have hk':k<len:=by simpa using hk
   simpa using (hf k hk').1
end Go.Proofs.YtiplgdkpnhamaaaGreatDoor.Tv
