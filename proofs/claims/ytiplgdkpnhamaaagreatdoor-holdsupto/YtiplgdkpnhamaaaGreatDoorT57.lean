import Derived.Test.YtiplgdkpnhamaaaGreatDoorT03
set_option maxHeartbeats 2000000
set_option maxRecDepth 100000
namespace Go.Proofs.YtiplgdkpnhamaaaGreatDoor
open Go.Proofs.Tryz List
open Go.RowKit
theorem Tryz.ali:(prog.info? 217).map (fun i=>(i.zero,i.size,i.bytes))=some (some (.agg #[.bool false,I 0,I 0,.slice none 0 0,.slice none 0 0]),5,72):=by kernel_rfl
theorem anW (w:World)(b:Nat)(v:Value)(xs:List cq)(hn:xs.length<=6)
  (av:eh w b 2 v)(bf:Row w 217 5 v xs.length (xs.flatMap cq.cells))(rG:6<=lX xs):
  Calls prog 87 #[.pointer (some (aa b 0))] w (bx (.tuple #[I 0,I 5]) fun w'=>w'=w):=by
 obtain⟨cA,cap,rfl,gg,hm,aA⟩:=bf.shape;have bc:=J bf;have cz:=J rG;clear bf rG;go_enter func87,ntmps87;go_wp2;go_loop [4] (fun i=>∃k:Nat,k<=xs.length∧i=I k∧∀j (af:j<xs.length),j<k->xs[j].fA=true) (fun i=>xs.length-(intOf i).toNat)
 case atStart=>exact⟨0,ch,rfl,fun j af h=>by omega⟩
 case round=>
  obtain⟨k,hk,rfl,gn⟩:=hrel;have cM:=J gn;clear gn;by_cases cW:k<xs.length
  ·obtain⟨g,rfl,aS⟩:=aA (k*5+0) (by omega)
   rw[hC _ 5 cq.k_ _ _ _ cW (by omega)]at aS;simp only[cq.cells,jg,j3]at aS;clear aA;have eI:xs[k].fA=true:=by
    cases cu:xs[k].fA
    ·have:=Mo hk cM.o (fun _=>cu)
     have:=cz.o;omega
    ·rfl
   rw[eI]at aS;have HK:Hid (∀j (af:j<xs.length),j<k+1->xs[j].fA=true):=fun j af h=>by
    by_cases e:j=k
    ·subst e;exact eI
    ·exact cM.o j af (by omega)
   clear eI cM;go_wp2;exact⟨⟨k+1,by omega,by go_num,HK.o⟩,by simp[intOf];omega⟩
  ·have Cp:k=6:=by
    have:=Mo hk cM.o (fun h=>absurd h cW);have:=cz.o;omega
   subst Cp;clear aA;go_wp2;go_ret2
   exact⟨rfl,rfl⟩
theorem anX (w:World)(b:Nat)(id:Int)(bD v ah bw:Value)(ag:List Int)(xs:List cq)(hn:xs.length<=6)(hp:0<ag.length)(ata:ag.length<=5)
  (hb:aQ w b [.int .i64 id,bD,v,ah,bw] 165)(mf:Row w 3 1 bD ag.length (ints ag))
  (bf:Row w 217 5 v xs.length (xs.flatMap cq.cells))(p9:¬v.ownBlock=some b)(rG:lX xs<6):
  Calls prog 87 #[.pointer (some ⟨b,0,none⟩)] w fun e w'=>∃sv v',e= .returned (.tuple #[.int .i64 (lX xs),.int .i64 0])∧Lb w w' b id bD v ah bw ag xs (lX xs) sv v':=by
 obtain⟨cA,cap,rfl,gg,hm,aA⟩:=bf.shape;have kW:w.cell? ⟨b,1,none⟩=some bD:=hb.cell 1;have sA:w.cell? ⟨b,2,none⟩=some (.slice cA xs.length cap):=hb.cell 2;have bc:=J bf;have cz:=J rG;have bO:=J hb;have ff:=J mf;have tO:=J p9;clear bf rG hb mf p9;obtain⟨i0,aq,dC,dM,dK⟩:=info_parts Tryz.ali;go_enter func87,ntmps87;go_wp2;go_loop [4] (fun i=>∃k:Nat,k<=xs.length∧i= .int .i64 k∧∀j (af:j<xs.length),j<k->xs[j].fA=true) (fun i=>xs.length-(intOf i).toNat)
 case atStart=>exact⟨0,Nat.zero_le _,rfl,fun j af h=>by omega⟩
 case round=>
  obtain⟨k,hk,rfl,gn⟩:=hrel;have cM:=J gn;clear gn;by_cases cW:k<xs.length
  ·obtain⟨g,rfl,aS⟩:=aA (k*5+0) (by omega)
   rw[hC _ 5 cq.k_ _ _ _ cW (by omega)]at aS;simp only[cq.cells,getElem?_cons_zero,Nat.add_zero]at aS;clear aA;cases eI:xs[k].fA
   ·rw[eI]at aS
    have vg:lX xs=k:=Mo hk cM.o (fun _=>eI);have O_:=J vg;have Cp:k<6:=by have:=cz.o;omega
    clear eI vg;go_wp2_with fail
    refine(L8 _ _ ag hp (by omega) ff.o).mono ?_;rintro e an ⟨sv,rfl,jl,aF⟩;obtain⟨gs,mL,rfl,-,-,MS,-,-⟩:=Row.pos (e3 jl (Nat.zero_le _)) hp;have ajC:w.heap.size<=gs:=(jl.lt gs rfl).1;have Nn:=cell_later aF sA;have Fz:=J (Row.below bc.o aF);obtain⟨_,_,e,-,-,Gr,j_,asq⟩:=Row.pos Fz.o (by omega);obtain⟨dI,-,-⟩:=Value.slice.inj e;cases dI;clear e;have c0:=j_ (k*5+0) (by omega);have c1:=j_ (k*5+1) (by omega);have c2:=j_ (k*5+2) (by omega);have c3:=j_ (k*5+3) (by omega);have c4:=j_ (k*5+4) (by omega);rw[hC _ 5 cq.k_ _ _ _ cW (by omega)]at c0 c1 c2 c3 c4;simp only[cq.cells,getElem?_cons_zero,getElem?_cons_succ,Nat.add_zero]at c0 c1 c2 c3 c4;have Ps:=J jl;clear j_ aS kW sA jl;have eA:b<an.heap.size:=World.block_lt_of_cell? an _ Nn;have dU:((k:Int)==xs.length)=false:=by simp;omega
    generalize xs[k].fA=c8 at*;generalize xs[k].rep=dr at*;generalize xs[k].seq=en at*;generalize xs[k].sv=d_ at*;generalize xs[k].bU=ev at*;go_wp2_with fail
    go_region;go_wp2_with fail
    go_ret2
    rw[O_.o];exact⟨_,_,rfl,af1 bO.o tO.o bc.o cW aF Ps.o⟩
   ·rw[eI]at aS
    have HK:Hid (∀j (af:j<xs.length),j<k+1->xs[j].fA=true):=fun j af h=>by
     by_cases e:j=k
     ·subst e;exact eI
     ·exact cM.o j af (by omega)
    clear eI cM;go_wp2;exact⟨⟨k+1,by omega,by go_num,HK.o⟩,by simp[intOf];omega⟩
  ·have mG:k=xs.length:=by omega
   subst mG;have vg:lX xs=xs.length:=Mo hk cM.o (fun h=>absurd h cW);have O_:=J vg;have Cp:xs.length<6:=by have:=cz.o;omega
   clear aA vg;go_wp2_with fail
   refine(L8 _ _ ag hp (by omega) ff.o).mono ?_;rintro e an ⟨sv,rfl,jl,aF⟩;obtain⟨gs,mL,rfl,-,-,MS,-,-⟩:=Row.pos (e3 jl (Nat.zero_le _)) hp;have ajC:w.heap.size<=gs:=(jl.lt gs rfl).1;have Nn:=cell_later aF sA;have Fz:=J (Row.below bc.o aF);have Ps:=J jl;have eA:b<an.heap.size:=World.block_lt_of_cell? an _ Nn;have ad1:=J (bO.o.below aF);clear kW sA jl;go_wp2_with fail
   have ajl:an.frozen? ⟨b,2,none⟩=false:=ad1.o.frozen 2;go_region_law(refine q6 rfl _ _ 87 rfl 217 i0 (.agg #[.bool false,.int .i64 0,.int .i64 0,.slice none 0 0,.slice none 0 0]) 5 72 underlying87 aq dC dM dK rfl (by decide) (.slice cA xs.length cap) xs.length (xs.flatMap cq.cells) (by simp[Act.eval]) (by exact(Fz.o.alloc _).alloc _) ⟨an.heap.size+1,0,none⟩ 1 1 [.bool true,.int .i64 0,.int .i64 0,.slice (some ⟨gs,0,none⟩) ag.length mL,.slice none 0 0] (by simp[Act.eval]) rfl (by exact SV _ _ _ _) (by intro u hu;simp at hu;rcases hu with rfl|rfl|rfl|rfl<;>rfl) (by unfold maxLen;omega) (by omega) ?_;intro v2 w2 fm gh kR;obtain⟨g2,lV,rfl,-,-,-,-,-⟩:=Row.pos fm (by omega);obtain⟨q1,dy⟩:=Xl gh (b:=b) (j:=2) (u:= .slice cA xs.length cap) (by show _=_;simp[go_sem,Nn,eA]) (by simp[go_sem,ajl,eA]) tO.o)
   all_goals go_wp2_with fail
   all_goals go_ret2
   all_goals(rw[O_.o];exact⟨_,_,rfl,afW bO.o tO.o bc.o aF Ps.o fm gh kR⟩)
theorem anR (w:World)(b:Nat)(v:Value)(xs:List cq)(tx:Int)(hn:xs.length<=6)
  (av:eh w b 2 v)(bf:Row w 217 5 v xs.length (xs.flatMap cq.cells))(eI:kE xs tx=false):
  Calls prog 92 #[.pointer (some (aa b 0)),I tx] w (bx (I 4) fun w'=>w'=w):=by
 have bc:=J bf;clear bf;go_enter func92,ntmps92;go_wp2_with fail
 refine(uw _ b v xs tx (by omega) av bc.o).mono ?_;rintro e an ⟨rfl,rfl⟩;go_wp2_with fail
 go_ret;exact⟨rfl,rfl⟩
theorem anS (w:World)(b:Nat)(v:Value)(xs:List cq)(k:Nat)(hn:xs.length<=6)(hk:k<xs.length)
  (av:eh w b 2 v)(bf:Row w 217 5 v xs.length (xs.flatMap cq.cells))(eI:xs[k].fA=true):
  Calls prog 92 #[.pointer (some (aa b 0)),I k] w fun e w'=>e= .returned (I 0)∧
   Row w' 217 5 v xs.length ((xs.set k {xs[k]with fA:=false}).flatMap cq.cells)∧Touch (fun k=>v.ownBlock=some k) w w':=by
 obtain⟨g,cap,rfl,gg,hm,aM,aA,bm⟩:=bf.pos (by omega);have aS:=aA (k*5+0) (by omega);rw[hC _ 5 cq.k_ _ _ _ hk (by omega)]at aS;simp only[cq.cells,jg,j3]at aS;have wv:kE xs k=true:=by simp[kE,hk,eI]
 have Pa:=J (uc cq.cells 5 cq.k_ xs k 0 hk (.bool false) {xs[k]with fA:=false} (by omega) rfl);have bc:=J bf;have cw:=J wv;clear bf aA wv;rw[eI]at aS;clear eI;go_enter func92,ntmps92;go_wp2_with fail
 refine(uw _ b _ xs k (by omega) av bc.o).mono ?_;rintro e an ⟨he,rfl⟩;rw[cw.o]at he;subst he;go_wp2_with fail
 go_ret;refine⟨rfl,?_,(Touch.refl (fun k=>(bo g xs.length cap).ownBlock=some k) _).setCell (p:=(aa g (k*5))) (Or.inl rfl) _⟩;have:=(bc.o.stored (k*5+0) (.bool false)).1;rw[Pa.o]at this;exact this
end Go.Proofs.YtiplgdkpnhamaaaGreatDoor
