import Derived.Test.YtiplgdkpnhamaaaGreatDoorT03
import Derived.Deep.DeepCutAuto
set_option maxHeartbeats 10000000
set_option maxRecDepth 100000
namespace Go.Proofs.YtiplgdkpnhamaaaGreatDoor
open Go.Proofs.Tryz
open Go.RowKit
theorem Tryz.ale:(prog.info? 171).map (fun i=>(i.zero,i.size,i.bytes))=some (some (.agg #[I 0,ai ⟨#[]⟩,ai ⟨#[]⟩,I 0]),4,48):=by kernel_rfl
theorem ag6 (w:World)(b:Nat)(v:Value)(xs:List cq)(k:Nat)(kind:Int)(key val:ByteArray)(cH:Int)(ops:List db)(hn:xs.length<=6)(hk:k<xs.length)(hb:b<w.heap.size)(eC:key.size<=maxLen)(PM:val.size<=maxLen)
  (av:eh w b 2 v)(bf:Row w 217 5 v xs.length (xs.flatMap cq.cells))(eI:xs[k].fA=true)(afh:ops.length<=16)
  (oG:Row w 171 4 xs[k].bU ops.length (ops.flatMap db.cells))(AL:kind=1∨kind=2∨kind=3∨kind=4)(nx:kindOf key=kF kind)(ta:¬((kind=1∧(cH< -1000000∨1000000<cH))∨(¬kind=1∧8<val.size)))(iR:ops.length<16)(wk:¬xs[k].bU.ownBlock=v.ownBlock)(Y_:¬xs[k].bU.ownBlock=some b):
  Calls prog 93 #[.pointer (some (aa b 0)),I k,.agg #[I kind,ai key,ai val,I cH]] w fun e w'=>∃pJ,e= .returned (I 0)∧Le w w' v xs k ops ⟨kind,key,val,cH⟩ pJ:=by
 obtain⟨g,cap,rfl,gg,hm,aM,aA,bm⟩:=bf.pos (by omega);have bd:=aA (k*5+4) (by omega);rw[hC _ 5 cq.k_ _ _ _ hk (by omega)]at bd;simp only[cq.cells,jg,kK]at bd;have cw:Hid (kE xs k=true):=by simp[Hid,kE,hk,eI]
 obtain⟨o1,nE,y3,akb,akd,-⟩:=oG.shape;rw[y3]at bd oG;have h4:=J oG;have ff:Hid ((w.alloc (.cells #[I kind,ai key,ai val,I cH] 171)).cell? (aa b 2)=some (bo g xs.length cap)):=by
  unfold Hid;rw[xb _ _ _ hb];exact av
 have bc:=J (bf.alloc (.cells #[I kind,ai key,ai val,I cH] 171));have ew:=J bf;have Lv:=J y3;clear bf aA oG eI y3;unfold maxLen at PM;obtain⟨i0,aq,dC,dM,dK⟩:=iV Tryz.ale;have Yg:Hid (¬(Value.slice o1 ops.length nE).ownBlock=(bo g xs.length cap).ownBlock):=by rw[<-Lv.o];exact wk
 have vm:Hid (¬(Value.slice o1 ops.length nE).ownBlock=some b):=by rw[<-Lv.o];exact Y_
 clear wk Y_;rcases AL with rfl|rfl|rfl|rfl
 all_goals try(have q1: -1000000<=cH:=by omega)
 all_goals try(have dy:cH<=1000000:=by omega)
 all_goals try(have fE:val.size<=8:=by omega)
 all_goals(simp only[show kF 1=99 from rfl,show kF 2=114 from rfl,show kF 3=115 from rfl,show kF 4=115 from rfl]at nx;have YU:=aaW nx;clear nx ta;go_enter func93,ntmps93)
 all_goals go_wp2_with fail
 all_goals refine(uw _ b _ xs k (by omega) ff.o bc.o).mono ?_
 all_goals(rintro e an ⟨he,rfl⟩;rw[cw.o]at he;subst he;go_wp2_with fail)
 all_goals refine(EH key _ eC).mono ?_
 all_goals(rintro e w2 ⟨rfl,rfl⟩;generalize kindOf key=mH at*;go_upto_region 11 with(fail))
 all_goals go_region_law(refine q6 rfl _ _ 215 rfl 171 i0 (.agg #[I 0,ai ⟨#[]⟩,ai ⟨#[]⟩,I 0]) 4 48 underlying215 aq dC dM dK rfl (by decide) (.slice o1 ops.length nE) ops.length (ops.flatMap db.cells) (by simp[Act.eval]) (by exact(h4.o.alloc _).alloc _) (aa (w.heap.size+1) 0) 1 1 [I _,ai key,ai val,I cH] (by simp[Act.eval]) rfl (by exact SV _ _ _ _) (by intro u hu;simp at hu;rcases hu with rfl|rfl|rfl|rfl<;>rfl) (by unfold maxLen;omega) (by omega) ?_;intro v2 w2 fm gh kR;obtain⟨g2,lV,rfl,-,-,-,-,-⟩:=Row.pos fm (by omega);obtain⟨q1,dy⟩:=Xl gh (b:=g) (j:=k*5+4) (u:= .slice o1 ops.length nE) (by show _=_;simp[go_sem,bd,aM]) (by simp[go_sem,bm,aM]) Yg.o;have dk:=gh.cell (a:=(aa b 2)) (v:=bo g xs.length cap) (by simp[go_sem,av,hb]) (fun e=>vm.o e.symm))
 all_goals go_wp2_with fail
 all_goals go_ret
 all_goals exact⟨_,rfl,ag5 hk Lv.o ew.o fm gh kR Yg.o⟩
end Go.Proofs.YtiplgdkpnhamaaaGreatDoor
