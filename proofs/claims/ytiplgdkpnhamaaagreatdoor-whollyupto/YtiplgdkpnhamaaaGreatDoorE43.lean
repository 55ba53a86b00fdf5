/- The texts ZK18, ZK19, ZK20, ZP1, ZP2, ZP3, ZN1, ZN2, ZN3, joined. -/
import Derived.Test.YtiplgdkpnhamaaaGreatDoorE42
import Derived.Test.YtiplgdkpnhamaaaGreatDoorE38
import Derived.Test.YtiplgdkpnhamaaaGreatDoorE01
import Derived.Laws.AppendOwnNone
namespace Go.Proofs.YtiplgdkpnhamaaaGreatDoor.Tv
open Go.RowKit
abbrev filR (hs:List RTx) (r:Nat):List RTx:=hs.filter fun u=>decide (u.rep=(r:Int))
theorem HistG.less {n:Nat} {hs:List RTx} {u:RTx} (h:HistG n (hs ++ [u])):HistG n hs:=⟨h.n5,fun j hj=>by
 have a:=h.tx j (by simp;omega)
 rw [List.getElem_append_left hj,List.take_append_of_le_length (by omega)] at a
 exact a⟩
theorem HistG.last {n:Nat} {hs:List RTx} {u:RTx} (h:HistG n (hs ++ [u])):NewOk n hs u:=by
 have a:=h.tx hs.length (by simp)
 rw [List.getElem_append_right (Nat.le_refl _),List.take_left' rfl] at a
 simpa using a
theorem fil_seq {n:Nat}:∀ {hs:List RTx},HistG n hs→∀ (r j:Nat) (hj:j<(filR hs r).length),(filR hs r)[j].seq=(j:Int)+1∧(filR hs r)[j].rep=(r:Int):=by
 intro hs
 induction hs using snoc_ind with
 | h0=>intro _ r j hj;simp [filR] at hj
 | h1 hs u ih=>
  intro h r j hj
  have hf:filR (hs ++ [u]) r=filR hs r ++ if u.rep=(r:Int) then [u] else []:=by
   unfold filR
   rw [List.filter_append]
   by_cases c:u.rep=(r:Int) <;> simp [c]
  by_cases c:j<(filR hs r).length
  ·have e:(filR (hs ++ [u]) r)[j]=(filR hs r)[j]:=by simp only [hf,List.getElem_append_left c]
   rw [e];exact ih h.less r j c
  ·have hl:=h.last
   by_cases c2:u.rep=(r:Int)
   ·have hj2:j=(filR hs r).length:=by
     rw [hf,if_pos c2,List.length_append,List.length_singleton] at hj
     omega
    have e:(filR (hs ++ [u]) r)[j]=u:=by
     simp only [hf,if_pos c2]
     rw [List.getElem_append_right (by omega)];simp
    rw [e,hl.seq,c2,Int.toNat_natCast]
    exact ⟨by rw [hj2];rfl,rfl⟩
   ·rw [hf,if_neg c2,List.append_nil] at hj;omega
def segB (hs:List RTx) (x:DX) (v:Vec) (r:Nat):List RTx:=heldOf hs r (max (x.gone r) (v.get r).toNat)
def beyondL (hs:List RTx) (x:DX) (v:Vec):List RTx:=(List.range 5).flatMap (segB hs x v)
def covK (hs:List RTx) (x:DX) (v:Vec) (r:Nat):Nat:=min (heldOf hs r (x.gone r)).length ((v.get r).toNat - x.gone r)
theorem held_len (hs:List RTx) (r g:Nat):(heldOf hs r g).length=(filR hs r).length - g:=List.length_drop
theorem held_get {hs:List RTx} {r g j:Nat} (hj:j<(heldOf hs r g).length):(heldOf hs r g)[j]=(filR hs r)[g+j]'(by have:=held_len hs r g;omega):=List.getElem_drop ..
theorem seg_drop (hs:List RTx) (x:DX) (v:Vec) (r:Nat):(heldOf hs r (x.gone r)).drop (covK hs x v r)=segB hs x v r:=by
 unfold covK
 rw [held_len]
 show ((filR hs r).drop (x.gone r)).drop _=(filR hs r).drop _
 rw [List.drop_drop]
 generalize (filR hs r)=l
 by_cases c:(v.get r).toNat - x.gone r≤l.length - x.gone r
 ·congr 1;omega
 ·rw [List.drop_eq_nil_of_le,List.drop_eq_nil_of_le]
  ·omega
  ·omega
theorem cov_split {n:Nat} {hs:List RTx} (h:HistG n hs) (x:DX) (v:Vec) {r:Nat} (j:Nat) (hj:j<(heldOf hs r (x.gone r)).length):v.covers (trOf (heldOf hs r (x.gone r))[j]).dot=decide (j<covK hs x v r):=by
 have hl:=held_len hs r (x.gone r)
 have hj2:x.gone r+j<(filR hs r).length:=by omega
 obtain ⟨e1,e2⟩:=fil_seq h r _ hj2
 rw [held_get hj]
 show decide ((filR hs r)[x.gone r+j].seq≤v.get (((filR hs r)[x.gone r+j].rep.toNat:Nat):Int))=_
 rw [e1,e2,Int.toNat_natCast,Bool.eq_iff_iff,decide_eq_true_eq,decide_eq_true_eq]
 unfold covK
 constructor <;> intro c <;> omega
theorem held_few (hs:List RTx) (r g:Nat):(heldOf hs r g).length≤hs.length:=by
 unfold heldOf
 rw [List.length_drop]
 have:=List.length_filter_le (fun u:RTx=>decide (u.rep=(r:Int))) hs
 omega
theorem idxH_0 (v0 v1 v2 v3 v4:Value) (W:World):(Instr.index 107 (.agg #[v0,v1,v2,v3,v4]) (.int .i64 0)).run Tryz.prog W=.ok v0 W:=by kernel_rfl
theorem idxH_1 (v0 v1 v2 v3 v4:Value) (W:World):(Instr.index 107 (.agg #[v0,v1,v2,v3,v4]) (.int .i64 1)).run Tryz.prog W=.ok v1 W:=by kernel_rfl
theorem idxH_2 (v0 v1 v2 v3 v4:Value) (W:World):(Instr.index 107 (.agg #[v0,v1,v2,v3,v4]) (.int .i64 2)).run Tryz.prog W=.ok v2 W:=by kernel_rfl
theorem idxH_3 (v0 v1 v2 v3 v4:Value) (W:World):(Instr.index 107 (.agg #[v0,v1,v2,v3,v4]) (.int .i64 3)).run Tryz.prog W=.ok v3 W:=by kernel_rfl
theorem idxH_4 (v0 v1 v2 v3 v4:Value) (W:World):(Instr.index 107 (.agg #[v0,v1,v2,v3,v4]) (.int .i64 4)).run Tryz.prog W=.ok v4 W:=by kernel_rfl
theorem idxH (hv:List Value) (v0 v1 v2 v3 v4:Value) (e:hv=[v0,v1,v2,v3,v4]) (r:Nat) (hr:r<hv.length) (W:World):(Instr.index 107 (.agg #[v0,v1,v2,v3,v4]) (.int .i64 r)).run Tryz.prog W=.ok hv[r] W:=by
 subst e
 have:r=0∨r=1∨r=2∨r=3∨r=4:=by simp at hr;omega
 rcases this with rfl | rfl | rfl | rfl | rfl
 ·exact idxH_0 v0 v1 v2 v3 v4 W
 ·exact idxH_1 v0 v1 v2 v3 v4 W
 ·exact idxH_2 v0 v1 v2 v3 v4 W
 ·exact idxH_3 v0 v1 v2 v3 v4 W
 ·exact idxH_4 v0 v1 v2 v3 v4 W
end Go.Proofs.YtiplgdkpnhamaaaGreatDoor.Tv
namespace Go.Proofs.YtiplgdkpnhamaaaGreatDoor.Tv
open Go.RowKit
structure BeyAt (w W0:World) (hs:List RTx) (x:DX) (v:Vec) (r:Nat) (bv:Value) (wr:World):Prop where
 bel:Below W0.heap.size W0 wr
 ex:∃ zs:List (Tr × Nat),zs.map Prod.fst=((List.range r).flatMap (segB hs x v)).map trOf∧wr.ownsRow W0.heap.size 139 8 bv zs.length (zs.flatMap trCells)∧∀ z,z ∈ zs→TrIn w z
theorem segs_few (hs:List RTx) (x:DX) (v:Vec):∀ r,((List.range r).flatMap (segB hs x v)).length≤r * hs.length:=by
 intro r
 induction r with
 | zero=>simp
 | succ r ih=>
  rw [List.range_succ,List.flatMap_append,List.length_append,List.flatMap_cons,List.flatMap_nil,List.append_nil,Nat.add_mul]
  have:=held_few hs r (max (x.gone r) (v.get r).toNat)
  unfold segB at *
  omega
def BeyEnd (w:World) (hs:List RTx) (x:DX) (v:Vec) (e:Ending) (w':World):Prop:=∃ (lv:Value) (zs:List (Tr × Nat)),e=.returned lv∧w'.ownsRow w.heap.size 139 8 lv zs.length (zs.flatMap trCells)∧zs.map Prod.fst=(beyondL hs x v).map trOf∧(∀ z,z ∈ zs→TrIn w z)∧Below w.heap.size w w'
theorem flat_drop {α:Type} (f:α→List Value) (s:Nat) (hf:∀ a,(f a).length=s):∀ (l:List α) (m:Nat),(l.drop m).flatMap f=(l.flatMap f).drop (m * s)
 | [],m=>by simp
 | a :: l,0=>by simp
 | a :: l,m+1=>by
  rw [List.drop_succ_cons,List.flatMap_cons,flat_drop f s hf l m,show (m+1) * s=(f a).length+m * s by rw [hf,Nat.add_mul];omega,List.drop_append]
  simp
set_option maxRecDepth 100000 in
set_option maxHeartbeats 4000000 in
theorem beyond_any {xq:DX} {w:World} {p:Nat→Own} {b n i:Nat} {d:DRep} {sb:Nat} {st:St} {sl tbs mbs:Nat→Nat} {hv kn:List Value} (h:RepP xq w p b n i d sb st sl tbs mbs hv kn) (hR:d.hs.length≤1100000) (v:Vec) :
  Calls Tryz.prog 78 #[.pointer (some ⟨b,3,none⟩),v.val] w (BeyEnd w d.hs xq v):=by
 obtain ⟨i0,hi,hz0,hz1,hz2⟩:=info_parts Tryz.infoTrx
 have HI:=hide (⟨hi,hz0,hz1,hz2⟩:_∧_∧_∧_)
 clear hi hz0 hz1 hz2
 obtain ⟨v0,v1,v2,v3,v4,hve⟩:∃ v0 v1 v2 v3 v4,hv=[v0,v1,v2,v3,v4]:=by
  have:=h.hlen
  match hv,this with
  | [a,b,c,d,e],_=>exact ⟨a,b,c,d,e,rfl⟩
 generalize hW0:w.alloc (.cells #[.int .i64 v.a,.int .i64 v.b,.int .i64 v.c,.int .i64 v.d,.int .i64 v.e] 104)=W0
 have hB0:Below w.heap.size w W0:=by rw [← hW0];exact (Below.refl _ _).alloc (Nat.le_refl _) _
 have bx:Blk W0 w.heap.size v.cells 104:=by rw [← hW0];exact heap_alloc_new w _
 have h0:=h.below hB0
 have ch:∀ k (hk:k<5),W0.cell? ⟨b,3+k,none⟩=hv[k]?:=fun k hk=>by rw [h0.blk.blk.cell (3+k),repCells_hv h.hlen k hk]
 rw [hve] at ch
 have c0:W0.cell? ⟨b,3,none⟩=some v0:=ch 0 (by omega)
 have c1:W0.cell? ⟨b,4,none⟩=some v1:=ch 1 (by omega)
 have c2:W0.cell? ⟨b,5,none⟩=some v2:=ch 2 (by omega)
 have c3:W0.cell? ⟨b,6,none⟩=some v3:=ch 3 (by omega)
 have c4:W0.cell? ⟨b,7,none⟩=some v4:=ch 4 (by omega)
 have hlb:=h0.blk.blk.lt
 have HX:=hide (idxH hv v0 v1 v2 v3 v4 hve)
 have HH:=hide (⟨h,hR,hB0,bx⟩:_∧_∧_∧_)
 have HW0:=hide hW0
 have hs0:w.heap.size<W0.heap.size:=bx.lt
 clear h hR hB0 bx h0 ch hW0
 go_enter Tryz.func78,Tryz.ntmps78
 go_upto_region 2 with (fail)
 rw [HW0.out]
 go_wp2_with fail
 clear c0 c1 c2 c3 c4 hlb
 go_loopw [5,12] (fun bv rv wr=>∃ r:Nat,r≤5∧rv=.int .i64 r∧Hid (BeyAt w W0 d.hs xq v r bv wr)) (fun _ rv _=>5 - (intOf rv).toNat)
 case atStart=>exact ⟨0,Nat.zero_le _,rfl,Below.refl _ _,[],by simp,World.ownsRow_nil _ _ _ _,by simp⟩
 case round=>
  obtain ⟨r,hr5,rfl,HB⟩:=hrel
  obtain ⟨zs,e1,e2,e3⟩:=HB.out.ex
  by_cases hr:r<5
  ·obtain ⟨h,hR,hB0,bx⟩:=HH.out
   have hrl:r<hv.length:=by rw [h.hlen];exact hr
   obtain ⟨ys,y1,y2,y3⟩:=(h.held r hrl).ex
   have hB:=hB0.trans (HB.out.bel.mono hB0.size)
   have hrow:wr.ownsRow 0 139 8 hv[r] ys.length (ys.flatMap trCells):=ownsRow_below y2.row hB
   have hyl:ys.length=(heldOf d.hs r (xq.gone r)).length:=by have:=congrArg List.length y1;simpa using this
   have hfew:=held_few d.hs r (xq.gone r)
   have hyd:∀ i (hi:i<ys.length),ys[i].1=trOf ((heldOf d.hs r (xq.gone r))[i]'(by omega)):=fun i hi=>by
    have:=congrArg (fun l=>l[i]?) y1
    simp only [List.getElem?_map,List.getElem?_eq_getElem hi,List.getElem?_eq_getElem (show i<(heldOf d.hs r (xq.gone r)).length by omega),Option.map_some,Option.some.injEq] at this
    exact this
   obtain ⟨k,hk⟩:∃ k,covK d.hs xq v r=k:=⟨_,rfl⟩
   have hkl:k≤ys.length:=by rw [← hk,hyl];unfold covK;omega
   have hcov:=covered_any wr 0 v ys hv[r] hrow (by omega) (fun y hy=>by
    obtain ⟨i,hi,rfl⟩:=List.mem_iff_getElem.1 hy
    rw [hyd i hi]
    have hj:i<(heldOf d.hs r (xq.gone r)).length:=by omega
    have hl:=held_len d.hs r (xq.gone r)
    show (heldOf d.hs r (xq.gone r))[i].rep.toNat<5
    rw [held_get hj,(fil_seq h.ok.hist r _ (by omega)).2,Int.toNat_natCast]
    exact hr) k hkl (fun i hi c=>by rw [hyd i hi,cov_split h.ok.hist xq v i (by omega),hk];simpa using c) (fun i hi c=>by rw [hyd i hi,cov_split h.ok.hist xq v i (by omega),hk];simpa using c)
   have hix:=HX.out r hrl
   have bxr:=(bx.below HB.out.bel)
   have z0:wr.cell? ⟨w.heap.size,0,none⟩=some (.int .i64 v.a):=bxr.cell 0
   have z1:wr.cell? ⟨w.heap.size,1,none⟩=some (.int .i64 v.b):=bxr.cell 1
   have z2:wr.cell? ⟨w.heap.size,2,none⟩=some (.int .i64 v.c):=bxr.cell 2
   have z3:wr.cell? ⟨w.heap.size,3,none⟩=some (.int .i64 v.d):=bxr.cell 3
   have z4:wr.cell? ⟨w.heap.size,4,none⟩=some (.int .i64 v.e):=bxr.cell 4
   have hlx:=bxr.lt
   have hseg:(ys.drop k).map Prod.fst=(segB d.hs xq v r).map trOf:=by rw [← seg_drop,hk,List.map_drop,y1,List.map_drop]
   have hzl:zs.length≤5500000:=by
    have a:=congrArg List.length e1
    have:=segs_few d.hs xq v r
    simp only [List.length_map] at a
    have:r * d.hs.length≤5 * d.hs.length:=Nat.mul_le_mul_right _ (by omega)
    omega
   have hstep:(zs ++ ys.drop k).map Prod.fst=((List.range (r+1)).flatMap (segB d.hs xq v)).map trOf:=by
    rw [List.map_append,e1,hseg,List.range_succ,List.flatMap_append,List.map_append,List.flatMap_cons,List.flatMap_nil,List.append_nil]
   have hmem:∀ z,z ∈ zs ++ ys.drop k→TrIn w z:=fun z hz=>by
    rw [List.mem_append] at hz
    rcases hz with hz | hz
    ·exact e3 z hz
    ·exact (y3 z (List.mem_of_mem_drop hz)).2
   have HCV:=hide hcov
   have HS:=hide (⟨hstep,hmem,hkl,hzl,e2,hrow⟩:_∧_∧_∧_∧_∧_)
   have hyf:ys.length≤1100000:=by omega
   generalize hv[r]=lr at *
   clear h bx hB hyl hyd hcov hseg hstep hmem y1 y2 y3 e1 e3 bxr hk
   rcases hrow.2 with ⟨rfl,hn0⟩ | ⟨g,cap,cur,rfl,-,hg,hcc,-⟩
   ·have hk0:k=0:=by omega
    subst hk0
    go_wp2_with (first | (go_at_call 121;refine HCV.out.mono ?_;rintro e w1 ⟨rfl,hB1⟩;have HB1:=hide hB1;clear hB1) | (at_builtin;refine wpList_append_own_none rfl _ _ 106 rfl W0.heap.size 139 i0 8 Tryz.underlying106 HI.out.1 _ zs.length _ rfl (ownsRow_below HS.out.2.2.2.2.1 HB1.out) (by simp [Act.eval]) ?_))
    obtain ⟨hstep,hmem,-,-,-,-⟩:=HS.out
    have hy0:ys=[]:=List.length_eq_zero_iff.1 hn0
    rw [hy0,List.drop_nil,List.append_nil] at hstep hmem
    exact ⟨⟨r+1,by omega,by simp,⟨HB.out.bel.trans (HB1.out.mono HB.out.bel.size),zs,hstep,ownsRow_below HS.out.2.2.2.2.1 HB1.out,hmem⟩⟩,by simp only [intOf];omega⟩
   ·have hcl:∀ (w1:World) (hB1:Below wr.heap.size wr w1) j u,((ys.drop k).flatMap trCells)[j]? = some u→w1.cell? ((⟨g,k * 8,none⟩:Addr).add j)=some u:=fun w1 hB1 j u hu=>by
     have e:=flat_drop trCells 8 (fun _=>rfl) ys k
     rw [e,List.getElem?_drop] at hu
     have hlt:k * 8+j<ys.length * 8:=by
      have:=(List.getElem?_eq_some_iff.1 hu).1
      rw [flat_len trCells 8 (fun _=>rfl)] at this
      exact this
     have a:=World.ownsRow.cellAt hrow (k * 8+j) hlt
     rw [hu] at a
     have e2:(⟨g,k * 8,none⟩:Addr).add j=⟨g,k * 8+j,none⟩:=by rw [Addr.add_lit]
     rw [e2]
     exact cell_later hB1 a
    have h1c:∀ u ∈ (ys.drop k).flatMap trCells,u.oneCell'=true:=fun u hu=>by
     obtain ⟨y,-,hy⟩:=List.mem_flatMap.1 hu
     simp only [trCells,List.mem_cons,List.not_mem_nil,or_false] at hy
     rcases hy with rfl | rfl | rfl | rfl | rfl | rfl | rfl | rfl <;> rfl
    have hln:((ys.drop k).flatMap trCells).length=(ys.length - k) * 8:=by rw [flat_len trCells 8 (fun _=>rfl),List.length_drop]
    have HCL:=hide (⟨hcl,h1c,hln⟩:_∧_∧_)
    clear hcl h1c hln hrow e2
    by_cases hck:cap=k
    ·have HKK:Hid (ys.length=cap):=(by omega:ys.length=cap)
     subst hck
     go_wp2_with (first | (go_at_call 121;refine HCV.out.mono ?_;rintro e w1 ⟨rfl,hB1⟩;have HB1:=hide hB1;clear hB1) | (at_builtin;refine wpList_append_own _ rfl _ _ 106 rfl W0.heap.size 139 i0 (.agg #[.int .i64 0,.int .i64 0,.int .i64 0,.int .i64 0,.int .i64 0,.int .i64 0,.int .i64 0,.map none]) 8 64 Tryz.underlying106 HI.out.1 HI.out.2.1 HI.out.2.2.1 HI.out.2.2.2 rfl (by decide) _ zs.length _ rfl (ownsRow_below HS.out.2.2.2.2.1 HB1.out) ⟨g,0,none⟩ 0 0 [] (by simp [Act.eval]) rfl (by intro j u hj;simp at hj) (by simp) (by unfold maxLen;omega) (by omega) (by have:=HB.out.bel.size;have:=HB1.out.size;omega) ?_;intro v5 w5 r1 r2 r3;have HR5:=hide (⟨r1,r2⟩:_∧_);clear r1 r2 r3))
     obtain ⟨hstep,hmem,-,-,e2,-⟩:=HS.out
     obtain ⟨r1,r2⟩:=HR5.out
     have hbw:=HB.out.bel.trans (HB1.out.mono HB.out.bel.size)
     refine ⟨⟨r+1,by omega,by simp,⟨hbw.grown r2 hbw.size fun q hq=>(e2.lt q hq).1,zs ++ ys.drop cap,hstep,?_,hmem⟩⟩,by simp only [intOf];omega⟩
     have hkk:=HKK.out
     have hd0:ys.drop cap=[]:=List.drop_eq_nil_of_le (by omega)
     rw [hd0,List.append_nil]
     rw [List.append_nil,Nat.add_zero] at r1
     exact r1
    ·go_wp2_with (first | (go_at_call 121;refine HCV.out.mono ?_;rintro e w1 ⟨rfl,hB1⟩;have HB1:=hide hB1;clear hB1) | (at_builtin;refine wpList_append_own _ rfl _ _ 106 rfl W0.heap.size 139 i0 (.agg #[.int .i64 0,.int .i64 0,.int .i64 0,.int .i64 0,.int .i64 0,.int .i64 0,.int .i64 0,.map none]) 8 64 Tryz.underlying106 HI.out.1 HI.out.2.1 HI.out.2.2.1 HI.out.2.2.2 rfl (by decide) _ zs.length _ rfl (ownsRow_below HS.out.2.2.2.2.1 HB1.out) ⟨g,k * 8,none⟩ (ys.length - k) (cap - k) ((ys.drop k).flatMap trCells) (by simp [Act.eval]) HCL.out.2.2 (HCL.out.1 _ HB1.out) HCL.out.2.1 (by unfold maxLen;omega) (by omega) (by have:=HB.out.bel.size;have:=HB1.out.size;omega) ?_;intro v5 w5 r1 r2 r3;have HR5:=hide (⟨r1,r2⟩:_∧_);clear r1 r2 r3))
     obtain ⟨hstep,hmem,-,-,e2,-⟩:=HS.out
     obtain ⟨r1,r2⟩:=HR5.out
     have hbw:=HB.out.bel.trans (HB1.out.mono HB.out.bel.size)
     refine ⟨⟨r+1,by omega,by simp,⟨hbw.grown r2 hbw.size fun q hq=>(e2.lt q hq).1,zs ++ ys.drop k,hstep,?_,hmem⟩⟩,by simp only [intOf];omega⟩
     rw [List.length_append,List.length_drop,List.flatMap_append]
     exact r1
  ·have hre:r=5:=by omega
   subst hre
   go_wp2_with fail
   go_ret
   obtain ⟨h,hR,hB0,bx⟩:=HH.out
   exact ⟨_,zs,rfl,ownsRow_low e2 hB0.size,e1,e3,hB0.trans (HB.out.bel.mono hB0.size)⟩
end Go.Proofs.YtiplgdkpnhamaaaGreatDoor.Tv
namespace Go.Proofs.YtiplgdkpnhamaaaGreatDoor.Tv
open Go.RowKit
def AnsEnd (xq:DX) (w:World) (p:Nat→Own) (b n i:Nat) (d:DRep) (v:Vec) (e:Ending) (w':World):Prop:=
 e=.returned (.tuple #[.string ⟨(ansT n i (vecOf d.vis) ((beyondL d.hs xq v).map trOf)).toArray⟩,.int .i64 0])∧RepIn xq w' p b n i d∧QT (fun t=>t=Own.rep) w p w' p
set_option maxRecDepth 100000 in
set_option maxHeartbeats 8000000 in
theorem answer_ok {xq:DX} {w:World} {p:Nat→Own} {b n i:Nat} {d:DRep} (h:RepIn xq w p b n i d) (hR:d.hs.length≤1100000) (t:ByteArray) (j:Nat) (v:Vec) (hj:j<5) (ht:Tabs w) (h6:∀ q,q<6→p q=.other)
  (hfit:∀ u,u ∈ d.hs→(trOf u).Fit)
  (hread:Calls Tryz.prog 74 #[.func (.func 75) #[] #[],.string t,.int .i64 n] w fun e w'=>Below w.heap.size w w'∧e=.returned (.tuple #[headVal j v,.int .i64 0])) :
  Calls Tryz.prog 40 #[bptr b,.string t] w (AnsEnd (learnX xq j v) w p b n i d v):=by
 obtain ⟨sb,st,sl,tbs,mbs,hv,kn,h⟩:=h
 obtain ⟨-,c1,-⟩:=h.cellOf
 have hlb:=h.blk.blk.lt
 have HRD:=hide hread
 have HH:=hide (⟨h,hR,hfit,ht,h6⟩:_∧_∧_∧_∧_)
 clear h hread hR hfit ht h6
 go_enter Tryz.func40,Tryz.ntmps40
 go_upto_region 2 with (go_at_call 74;refine HRD.out.mono ?_;rintro e w2 ⟨hB2,rfl⟩;have H2:=hide hB2;clear hB2)
 generalize hW3:w2.alloc (.cells #[.int .i64 j,.int .i64 v.a,.int .i64 v.b,.int .i64 v.c,.int .i64 v.d,.int .i64 v.e] 144)=W3
 have hB3:Below w2.heap.size w2 W3:=by rw [← hW3];exact (Below.refl _ _).alloc (Nat.le_refl _) _
 have bA:Blk W3 w2.heap.size [.int .i64 j,.int .i64 v.a,.int .i64 v.b,.int .i64 v.c,.int .i64 v.d,.int .i64 v.e] 144:=by rw [← hW3];exact heap_alloc_new w2 _
 have hB03:Below w.heap.size w W3:=H2.out.trans (hB3.mono H2.out.size)
 have hP3:RepP xq W3 (own2q p w.heap.size others) b n i d sb st sl tbs mbs hv kn:=HH.out.1.move fun q hq _=>⟨hB03.block q hq,own2q_low hq⟩
 have hln:=learn_any hP3 hj v
 have HLN:=hide hln
 have a0:W3.cell? ⟨w2.heap.size,0,none⟩=some (.int .i64 j):=bA.cell 0
 have a1:W3.cell? ⟨w2.heap.size,1,none⟩=some (.int .i64 v.a):=bA.cell 1
 have a2:W3.cell? ⟨w2.heap.size,2,none⟩=some (.int .i64 v.b):=bA.cell 2
 have a3:W3.cell? ⟨w2.heap.size,3,none⟩=some (.int .i64 v.c):=bA.cell 3
 have a4:W3.cell? ⟨w2.heap.size,4,none⟩=some (.int .i64 v.d):=bA.cell 4
 have a5:W3.cell? ⟨w2.heap.size,5,none⟩=some (.int .i64 v.e):=bA.cell 5
 have l3:=bA.lt
 have H3:=hide (⟨bA,hB03,hB3⟩:_∧_∧_)
 clear hln hB3 bA hB03 hP3 hW3 c1 hlb HRD
 go_upto_region 5 with (go_at_call 76;refine HLN.out.mono ?_;rintro e w4 ⟨rfl,hI4,hq4⟩;refine Hid.out ?_)
 refine Lib.hid ?_
 obtain ⟨bA,hB03,hB3⟩:=H3.out
 have hs2:w.heap.size≤w2.heap.size:=H2.out.size
 have bA4:=bA.move (hq4.touch.block _ bA.lt (by rw [own2q_high hs2];simp [others]))
 obtain ⟨sb4,st4,sl4,tbs4,mbs4,hv4,kn4,hP4⟩:=hI4
 obtain ⟨-,c1,-⟩:=hP4.cellOf
 have hlb:=hP4.blk.blk.lt
 have z0:w4.cell? ⟨w2.heap.size,1,none⟩=some (.int .i64 v.a):=bA4.cell 1
 have z1:w4.cell? ⟨w2.heap.size,2,none⟩=some (.int .i64 v.b):=bA4.cell 2
 have z2:w4.cell? ⟨w2.heap.size,3,none⟩=some (.int .i64 v.c):=bA4.cell 3
 have z3:w4.cell? ⟨w2.heap.size,4,none⟩=some (.int .i64 v.d):=bA4.cell 4
 have z4:w4.cell? ⟨w2.heap.size,5,none⟩=some (.int .i64 v.e):=bA4.cell 5
 have hlz:=bA4.lt
 obtain ⟨-,hR,hfit,ht,h6⟩:=HH.out
 have hroom:=ht.room
 have ht4:Tabs w4:=by
  refine (ht.later hB03).kept fun q hq=>hq4.touch.block q (Nat.lt_of_lt_of_le (by omega) hB03.size) ?_
  rw [own2q_low (by omega),h6 q hq];simp
 have hn5:=hP4.ok.hist.n5
 have hi4:=hP4.ok.hi
 have hv64:=fun k=>hP4.vis64 hR k
 have HHD:Hid (Calls Tryz.prog 72 #[bptr b] w4.drew fun e w'=>e=.returned (headVal i (vecOf d.vis))∧(w'.cell? ⟨b,1,none⟩=some (.int .i64 n)∧b<w'.heap.size∧w'.cell? ⟨w2.heap.size,1,none⟩=some (.int .i64 v.a)∧w'.cell? ⟨w2.heap.size,2,none⟩=some (.int .i64 v.b)∧w'.cell? ⟨w2.heap.size,3,none⟩=some (.int .i64 v.c)∧w'.cell? ⟨w2.heap.size,4,none⟩=some (.int .i64 v.d)∧w'.cell? ⟨w2.heap.size,5,none⟩=some (.int .i64 v.e)∧w2.heap.size<w'.heap.size)∧Hid (Below w4.heap.size w4 w')):=
  (head_any (hP4.below (Below.refl _ _).drew)).mono (by
   rintro e w' ⟨rfl,hB⟩
   have hB':Below w4.heap.size w4 w':=(Below.refl _ _).drew.trans hB
   have b':=bA4.below hB'
   exact ⟨rfl,⟨cell_later hB' c1,Nat.lt_of_lt_of_le hlb hB'.size,b'.cell 1,b'.cell 2,b'.cell 3,b'.cell 4,b'.cell 5,b'.lt⟩,hB'⟩)
 have HBY:Hid (∀ w6,Below w4.heap.size w4 w6→Calls Tryz.prog 78 #[.pointer (some ⟨b,3,none⟩),v.val] w6 fun e w'=>∃ ao m cp,e=.returned (.slice ao m cp)∧(w'.cell? ⟨b,1,none⟩=some (.int .i64 n)∧b<w'.heap.size)∧Hid (Below w4.heap.size w4 w')∧Hid (Calls Tryz.prog 77 #[.int .i64 n,.agg #[.int .i64 i,.int .i64 (vecOf d.vis).a,.int .i64 (vecOf d.vis).b,.int .i64 (vecOf d.vis).c,.int .i64 (vecOf d.vis).d,.int .i64 (vecOf d.vis).e,.slice ao m cp]] w' fun e w''=>e=.returned (.string ⟨(ansT n i (vecOf d.vis) ((beyondL d.hs xq v).map trOf)).toArray⟩)∧Hid (Below w'.heap.size w' w''))):=fun w6 hB6=>by
  refine (beyond_any (hP4.below hB6) hR v).mono ?_
  rintro e w7 ⟨lv,zs,rfl,hz1,hz2,hz3,hB7⟩
  obtain ⟨ao,cp,rfl,-⟩:=Row.shape (ownsRow_low hz1 (Nat.zero_le _))
  have hB':Below w4.heap.size w4 w7:=hB6.trans (hB7.mono hB6.size)
  have hzl:zs.length≤50000000:=by
   have a:=congrArg List.length hz2
   have c:=segs_few d.hs (learnX xq j v) v 5
   simp only [List.length_map] at a
   have e5:(beyondL d.hs (learnX xq j v) v).length≤5 * d.hs.length:=c
   omega
  have hwa:=write_answer w7 n i w6.heap.size (vecOf d.vis) zs (.slice ao zs.length cp) hn5 (by omega) (fun k hk=>by
   obtain ⟨r,-,rfl⟩:=vec_mem hk
   have:=hv64 r;omega) hz1 hzl (fun x hx=>by
   have hx1:x.1 ∈ (beyondL d.hs (learnX xq j v) v).map trOf:=by rw [← hz2];exact List.mem_map.2 ⟨x,hx,rfl⟩
   obtain ⟨u,hu,e⟩:=List.mem_map.1 hx1
   obtain ⟨r,-,hu2⟩:=List.mem_flatMap.1 hu
   have hu3:u ∈ d.hs:=(List.mem_filter.1 (List.mem_of_mem_drop hu2)).1
   exact ⟨by rw [← e];exact hfit u hu3,(hz3 x hx).later hB7⟩) (ht4.later hB')
  rw [hz2] at hwa
  exact ⟨ao,zs.length,cp,rfl,⟨cell_later hB' c1,Nat.lt_of_lt_of_le hlb hB'.size⟩,hB',hwa⟩
 generalize hTT:(ansT n i (vecOf d.vis) ((beyondL d.hs xq v).map trOf))=tt at HBY
 obtain ⟨vv,hvv⟩:∃ vv,vecOf d.vis=vv:=⟨_,rfl⟩
 rw [hvv] at HHD HBY
 have HPost:Hid (∀ w',Below w4.heap.size w4 w'→AnsEnd (learnX xq j v) w p b n i d v (.returned (.tuple #[.string ⟨tt.toArray⟩,.int .i64 0])) w'):=fun w' hB=>by
  have eb:beyondL d.hs (learnX xq j v) v=beyondL d.hs xq v:=rfl
  refine ⟨by rw [eb,hTT],RepIn.move (p:=own2q p w.heap.size others) ⟨sb4,st4,sl4,tbs4,mbs4,hv4,kn4,hP4⟩ fun q hq hne=>⟨hB.block q hq,?_⟩,⟨?_,fun _ _=>rfl⟩⟩
  ·by_cases c:q<w.heap.size
   ·rw [own2q_low c]
   ·rw [own2q_high (by omega)] at hne;exact absurd rfl hne
  ·refine ((Touch.ofBelow hB03).trans (hq4.touch.mono fun q hq e=>?_)).trans (Touch.ofBelow hB)
   by_cases c:q<w.heap.size
   ·left;rw [own2q_low c] at e;exact e
   ·exact Or.inr (by omega)
 clear hP4 hq4 bA bA4 hB03 hB3 ht4 hv64 hR hfit ht h6 hTT hvv
 go_upto_region 5 with (fail)
 go_region_with (first | (go_at_call 72;refine HHD.out.mono ?_;rintro e w6 ⟨rfl,⟨k1,k2,k3,k4,k5,k6,k7,k8⟩,hB6⟩) | (go_at_call 78;refine (HBY.out _ hB6.out).mono ?_;rintro e w7 ⟨ao,m,cp,rfl,⟨q1,q2⟩,hB7,hW7⟩) | (go_at_call 77;refine hW7.out.mono ?_;rintro e w8 ⟨rfl,hB8⟩))
 all_goals
  have HB9:=hide (hB7.out.trans (hB8.out.mono hB7.out.size))
  clear hB6 hB7 hB8 hW7 k1 k2 k3 k4 k5 k6 k7 k8 q1 q2 z0 z1 z2 z3 z4 c1
  go_wp2_with fail
  go_ret2
  exact HPost.out _ HB9.out
end Go.Proofs.YtiplgdkpnhamaaaGreatDoor.Tv
namespace Go.Proofs.YtiplgdkpnhamaaaGreatDoor.Tv
open Go.RowKit
def RdN (m:Nat) (p:Place) (x:Wr):Prop:=
 (kindOf p.key=99∧p.el=⟨#[]⟩∧x.kind=0∧x.value=⟨#[]⟩∧-(1000000 * (m:Int))≤x.amount∧x.amount≤1000000 * (m:Int)) ∨
 (kindOf p.key=114∧p.el=⟨#[]⟩∧x.kind=1∧x.amount=0∧x.value.size≤8) ∨
 (kindOf p.key=115∧(x.kind=2∨x.kind=3)∧x.amount=0∧x.value=⟨#[]⟩∧p.el.size≤8)
theorem RdN.up {m k:Nat} {p:Place} {x:Wr} (h:RdN m p x) (hm:m≤k):RdN k p x:=by
 rcases h with ⟨a,b,c,d,e,f⟩ | h | h
 ·exact Or.inl ⟨a,b,c,d,by omega,by omega⟩
 ·exact Or.inr (Or.inl h)
 ·exact Or.inr (Or.inr h)
theorem own_rdn:∀ (ops:List ROp),ops.length≤16→(∀ o,o ∈ ops→OpOk o∧(¬ o.kind=1→o.value.size≤8)∧(o.kind=1→-1000000≤o.amount∧o.amount≤1000000))→∀ p x,ownOf ops p=some x→RdN ops.length p x:=by
 intro ops
 induction ops using snoc_ind with
 | h0=>intro _ _ p x hx;cases hx
 | h1 ops o ih=>
  intro hl h p x hx
  have hlen:(ops ++ [o]).length=ops.length+1:=by simp
  have ih':=ih (by omega) fun o ho=>h o (by simp [ho])
  obtain ⟨ho,hv,ha⟩:=h o (by simp)
  rw [hlen]
  rw [ownOf_snoc] at hx
  unfold putM at hx
  split at hx
  ·rename_i c
   subst c
   cases hx
   have hk:=ho.key
   rcases ho.kind with k | k | k | k
   ·left
    have e1:plOf o=⟨o.key,noEl⟩:=by unfold plOf;rw [if_pos (Or.inl k)]
    have e2:wrOf o=⟨0,o.amount,noEl⟩:=by unfold wrOf;rw [if_pos k]
    rw [e1,e2]
    have ham:=ha k
    refine ⟨by show kindOf o.key=99;rw [hk,k];rfl,rfl,by simp [putWr],by simp [putWr],?_⟩
    unfold putWr
    rw [if_pos rfl]
    show -(1000000 * ((ops.length+1:Nat):Int))≤wrap64 (o.amount+(wrAt (ownOf ops) ⟨o.key,noEl⟩).amount)∧wrap64 (o.amount+(wrAt (ownOf ops) ⟨o.key,noEl⟩).amount)≤_
    have hb:-(1000000 * (ops.length:Int))≤(wrAt (ownOf ops) ⟨o.key,noEl⟩).amount∧(wrAt (ownOf ops) ⟨o.key,noEl⟩).amount≤1000000 * (ops.length:Int):=by
     unfold wrAt
     cases e:ownOf ops ⟨o.key,noEl⟩ with
     | none=>show -(1000000 * (ops.length:Int))≤0∧(0:Int)≤_;omega
     | some y=>
      show -(1000000 * (ops.length:Int))≤y.amount∧y.amount≤_
      rcases ih' _ _ e with ⟨_,_,_,_,a,b⟩ | ⟨_,_,_,a,_⟩ | ⟨_,_,a,_⟩ <;> omega
    have hw:wrap64 (o.amount+(wrAt (ownOf ops) ⟨o.key,noEl⟩).amount)=o.amount+(wrAt (ownOf ops) ⟨o.key,noEl⟩).amount:=by unfold wrap64;omega
    rw [hw]
    omega
   ·right;left
    have e1:plOf o=⟨o.key,noEl⟩:=by unfold plOf;rw [if_pos (Or.inr k)]
    have e2:wrOf o=⟨1,0,o.value⟩:=by unfold wrOf;rw [if_neg (by omega),if_pos k]
    rw [e1,e2]
    exact ⟨by show kindOf o.key=114;rw [hk,k];rfl,rfl,by simp [putWr],by simp [putWr],by simpa [putWr] using hv (by omega)⟩
   ·right;right
    have e1:plOf o=⟨o.key,o.value⟩:=by unfold plOf;rw [if_neg (by omega)]
    have e2:wrOf o=⟨2,0,noEl⟩:=by unfold wrOf;rw [if_neg (by omega),if_neg (by omega),if_pos k]
    rw [e1,e2]
    exact ⟨by show kindOf o.key=115;rw [hk,k];rfl,by simp [putWr],by simp [putWr],by simp [putWr],hv (by omega)⟩
   ·right;right
    have e1:plOf o=⟨o.key,o.value⟩:=by unfold plOf;rw [if_neg (by omega)]
    have e2:wrOf o=⟨3,0,noEl⟩:=by unfold wrOf;rw [if_neg (by omega),if_neg (by omega),if_neg (by omega)]
    rw [e1,e2]
    exact ⟨by show kindOf o.key=115;rw [hk,k];rfl,by simp [putWr],by simp [putWr],by simp [putWr],hv (by omega)⟩
  ·exact (ih' p x hx).up (by omega)
theorem OpsOk.rd {ops:List ROp} (h:OpsOk ops):∀ p x,ownOf ops p=some x→WrRd p x:=fun p x hx=>by
 have hl:=h.few
 rcases own_rdn ops h.few h.ops p x hx with ⟨a,b,c,d,e,f⟩ | h | h
 ·exact Or.inl ⟨a,b,c,d,by omega,by omega⟩
 ·exact Or.inr (Or.inl h)
 ·exact Or.inr (Or.inr h)
theorem sorted_places:∀ (ks:List Place),ks.Nodup→∃ ks':List Place,ks'.Perm ks∧ks'.Pairwise placeLt
 | [],_=>⟨[],List.Perm.refl _,by simp⟩
 | a :: ks,h=>by
  rw [List.nodup_cons] at h
  obtain ⟨l,hl,hp⟩:=sorted_places ks h.2
  have hins:∀ (l:List Place),l.Pairwise placeLt→a ∉ l→∃ l':List Place,l'.Perm (a :: l)∧l'.Pairwise placeLt:=by
   intro l
   induction l with
   | nil=>intro _ _;exact ⟨[a],List.Perm.refl _,by simp⟩
   | cons b l ih=>
    intro hp hn
    rw [List.pairwise_cons] at hp
    rw [List.mem_cons] at hn
    rcases placeLt_total a b with e | e | e
    ·exact absurd (Or.inl e) hn
    ·exact ⟨a :: b :: l,List.Perm.refl _,by
      rw [List.pairwise_cons,List.pairwise_cons]
      refine ⟨fun c hc=>?_,hp⟩
      rcases List.mem_cons.1 hc with rfl | hc
      ·exact e
      ·exact placeLt_trans e (hp.1 c hc)⟩
    ·obtain ⟨l',h1,h2⟩:=ih hp.2 (fun c=>hn (Or.inr c))
     refine ⟨b :: l',(List.Perm.cons b h1).trans (List.Perm.swap a b l),?_⟩
     rw [List.pairwise_cons]
     refine ⟨fun c hc=>?_,h2⟩
     rcases List.mem_cons.1 (h1.mem_iff.1 hc) with rfl | hc
     ·exact e
     ·exact hp.1 c hc
  obtain ⟨l',h1,h2⟩:=hins l hp (fun c=>h.1 (hl.mem_iff.1 c))
  exact ⟨l',h1.trans (List.Perm.cons a hl),h2⟩
theorem own_keys:∀ (ops:List ROp),∃ ks,KeysOf (ownOf ops) ks∧ks.length≤ops.length∧(1≤ops.length→1≤ks.length):=by
 intro ops
 induction ops using snoc_ind with
 | h0=>exact ⟨[],⟨by simp,fun p=>by simp [ownOf]⟩,by simp,by simp⟩
 | h1 ops o ih=>
  obtain ⟨ks,⟨h1,h2⟩,h3,-⟩:=ih
  have hs:∀ p,(ownOf (ops ++ [o]) p).isSome ↔ p=plOf o∨(ownOf ops p).isSome:=fun p=>by
   rw [ownOf_snoc];unfold putM
   by_cases c:p=plOf o
   ·simp [c]
   ·simp [c]
  by_cases c:plOf o ∈ ks
  ·refine ⟨ks,⟨h1,fun p=>?_⟩,by simp;omega,fun _=>List.length_pos_of_mem c⟩
   rw [hs,h2 p]
   constructor
   ·exact Or.inr
   ·rintro (rfl | h)
    ·exact (h2 _).1 c
    ·exact h
  ·refine ⟨plOf o :: ks,⟨List.nodup_cons.2 ⟨c,h1⟩,fun p=>?_⟩,by simp;omega,by simp⟩
   rw [hs,List.mem_cons,h2 p]
theorem own_keysOf {ops:List ROp} (h:OpsOk ops) (h1:1≤ops.length):KeysOf (ownOf ops) (keysOf (ownOf ops))∧(keysOf (ownOf ops)).Pairwise placeLt∧1≤(keysOf (ownOf ops)).length∧(keysOf (ownOf ops)).length≤16:=by
 obtain ⟨ks,hk,hl,hp⟩:=own_keys ops
 obtain ⟨ks',h2,h3⟩:=sorted_places ks hk.1
 have hk':KeysOf (ownOf ops) ks':=⟨h2.nodup_iff.2 hk.1,fun p=>by rw [h2.mem_iff];exact hk.2 p⟩
 rw [keysOf_eq hk' h3]
 have:=h2.length_eq
 have:=h.few
 exact ⟨hk',h3,by have:=hp h1;omega,by omega⟩
end Go.Proofs.YtiplgdkpnhamaaaGreatDoor.Tv
namespace Go.Proofs.YtiplgdkpnhamaaaGreatDoor.Tv
open Go.RowKit
theorem tr_saw {n:Nat} {hs:List RTx} {u:RTx} (h5:n≤5) (h:NewOk n hs u) (k:Nat):(trOf u).saw.get k=u.saw.getD k 0:=by
 show (vecOf u.saw).get k=_
 rw [vecOf_get (by rw [h.saw.len];exact h5),Int.toNat_natCast]
theorem tr_fit {n:Nat} {hs:List RTx} (h:HistG n hs) (hN:hs.length≤1100000) {u:RTx} (hu:u ∈ hs):(trOf u).Fit:=by
 obtain ⟨j,hj,rfl⟩:=List.mem_iff_getElem.1 hu
 have hk:=h.tx j hj
 have h5:=h.n5
 refine ⟨by have:=hk.rN;show hs[j].rep.toNat<5;omega,fun k hk'=>?_,fun p x hx=>(hk.ops.rd p x hx).fit⟩
 obtain ⟨r,-,rfl⟩:=vec_mem hk'
 rw [tr_saw h5 hk r]
 have h1:=hk.saw.pos r
 have h2:=hk.saw.le r
 have h3:=cntR_le (hs.take j) r
 rw [List.length_take] at h3
 omega
theorem tr_rd {n:Nat} {hs:List RTx} (h:HistG n hs) (hN:hs.length≤1100000) {j:Nat} (hj:j<hs.length):TrRd n (vecOf (visOf n hs)) (trOf hs[j]):=by
 have hk:=h.tx j hj
 have h5:=h.n5
 have hrn:=hk.rN
 obtain ⟨k1,k2,k3,k4⟩:=own_keysOf hk.ops hk.one
 have hvis:∀ k:Nat,(vecOf (visOf n hs)).get k=if k<n then (cntR hs k:Int) else 0:=fun k=>by
  rw [vecOf_get (by rw [visOf_len];exact h5),Int.toNat_natCast]
  by_cases c:k<n
  ·rw [visOf_get c,if_pos c]
  ·rw [visOf_out (by omega),if_neg c]
 have hseq:(trOf hs[j]).seq=(cntR (hs.take j) hs[j].rep.toNat:Int)+1:=hk.seq
 refine ⟨hrn,by rw [hseq];omega,fun k hk5=>?_,fun k hkn=>?_,k1,k2,k3,k4,hk.ops.rd⟩
 ·rw [tr_saw h5 hk k]
  have h1:=hk.saw.pos k
  have h2:=hk.saw.le k
  have h3:=cntR_take_all hs (T:=j) k
  have h4:=cntR_le hs k
  refine ⟨h1,?_,by unfold maxSeq;omega⟩
  rw [show ((trOf hs[j]).rep:Int)=((hs[j].rep.toNat:Nat):Int) from rfl,vec_put_get _ (by omega)]
  split
  ·rename_i c;rw [hseq,← c];omega
  ·rw [hvis]
   split
   ·omega
   ·rename_i c;rw [getD_out (by rw [hk.saw.len];omega)];omega
 ·rw [tr_saw h5 hk k,getD_out (by rw [hk.saw.len];omega)]
theorem fil_mem {hs:List RTx} {r:Nat} {u:RTx} (h:u ∈ filR hs r):u ∈ hs∧u.rep=(r:Int):=by
 obtain ⟨a,b⟩:=List.mem_filter.1 h
 exact ⟨a,of_decide_eq_true b⟩
theorem fil_len (hs:List RTx) (r:Nat):(filR hs r).length=cntR hs r:=rfl
theorem fil_none {n:Nat} {hs:List RTx} (h:HistG n hs) {r:Nat} (hr:n≤r):filR hs r=[]:=by
 cases e:filR hs r with
 | nil=>rfl
 | cons u l=>
  have hu:u ∈ filR hs r:=by rw [e];simp
  obtain ⟨h1,h2⟩:=fil_mem hu
  obtain ⟨j,hj,rfl⟩:=List.mem_iff_getElem.1 h1
  have:=(h.tx j hj).rn
  omega
def ansF (hs:List RTx) (x:DX) (v:Vec) (r j:Nat):Tr:=trOf ((segB hs x v r).getD j ⟨0,0,[],[]⟩)
def ansC (hs:List RTx) (x:DX) (v:Vec) (r:Nat):Nat:=(segB hs x v r).length
theorem ans_seg (hs:List RTx) (x:DX) (v:Vec) (r:Nat):segL (ansF hs x v) (ansC hs x v) r=(segB hs x v r).map trOf:=by
 apply List.ext_getElem?
 intro j
 unfold segL ansF ansC
 by_cases c:j<(segB hs x v r).length
 ·simp [c]
 ·simp [c]
theorem ans_list (hs:List RTx) (x:DX) (v:Vec):upToL (ansF hs x v) (ansC hs x v) 5=(beyondL hs x v).map trOf:=by
 unfold upToL beyondL
 rw [List.map_flatMap]
 congr 1
 funext r
 exact ans_seg hs x v r
theorem seg_get {n:Nat} {hs:List RTx} (h:HistG n hs) (x:DX) (v:Vec) {r j:Nat} (hj:j<ansC hs x v r):∃ m,∃ hm:m<hs.length,ansF hs x v r j=trOf hs[m]∧hs[m].rep=(r:Int)∧hs[m].seq=(cntR hs r:Int) - ansC hs x v r+1+j:=by
 have hl:=held_len hs r (max (x.gone r) (v.get r).toNat)
 have hc:ansC hs x v r=(filR hs r).length - max (x.gone r) (v.get r).toNat:=hl
 have hjs:j<(segB hs x v r).length:=hj
 have e1:(segB hs x v r)[j]=(filR hs r)[max (x.gone r) (v.get r).toNat+j]'(by omega):=held_get hjs
 obtain ⟨s1,s2⟩:=fil_seq h r (max (x.gone r) (v.get r).toNat+j) (by omega)
 have hu:=(fil_mem (List.getElem_mem (show max (x.gone r) (v.get r).toNat+j<(filR hs r).length by omega))).1
 obtain ⟨m,hm,em⟩:=List.mem_iff_getElem.1 hu
 refine ⟨m,hm,?_,by rw [em];exact s2,?_⟩
 ·unfold ansF
  rw [em,← e1,List.getD_eq_getElem?_getD,List.getElem?_eq_getElem hjs];rfl
 ·rw [em,s1,← fil_len];omega
end Go.Proofs.YtiplgdkpnhamaaaGreatDoor.Tv
namespace Go.Proofs.YtiplgdkpnhamaaaGreatDoor.Tv
open Go.RowKit
theorem no_get (k:Nat):noVec.get k=0:=by
 by_cases h:k<5
 ·have:k=0∨k=1∨k=2∨k=3∨k=4:=by omega
  rcases this with rfl | rfl | rfl | rfl | rfl <;> rfl
 ·unfold Vec.get Vec.list
  rw [Int.toNat_natCast,List.getD_eq_getElem?_getD,List.getElem?_eq_none (by simp;omega)];rfl
theorem lat_le (r:Nat) {k:Nat} (hk:k<5) (hkr:k≠r) {B:Int} (hB:0≤B):∀ l:List Tr,(∀ p,p ∈ l→p.rep<5∧(p.rep=r→p.saw.get k≤B))→(latFold noLat l r).get k≤B:=by
 intro l
 induction l using snoc_ind with
 | h0=>intro _;show noVec.get k≤B;rw [no_get];exact hB
 | h1 l t ih=>
  intro h
  have ih':=ih fun p hp=>h p (by simp [hp])
  rw [latFold_snoc]
  unfold latUpd
  split
  ·rename_i c
   obtain ⟨h1,h2⟩:=h t (by simp)
   rw [need_get h1 hk,if_neg (by omega)]
   have:=h2 c.symm
   rw [← c]
   omega
  ·exact ih'
theorem needMap_some:∀ {l:List (Dot × Vec)} {d:Dot} {v:Vec},needMap l d=some v→(d,v) ∈ l
 | [],_,_,h=>by cases h
 | x :: l,d,v,h=>by
  have h':(needMap l d).or (if d=x.1 then some x.2 else none)=some v:=h
  cases e:needMap l d with
  | some y=>
   rw [e] at h'
   cases h'
   exact List.mem_cons_of_mem _ (needMap_some e)
  | none=>
   rw [e,Option.none_or] at h'
   split at h'
   ·rename_i c
    cases h'
    rw [c];simp
   ·cases h'
theorem bey_mem {hs:List RTx} {x:DX} {v:Vec} {u:RTx} (h:u ∈ beyondL hs x v):u ∈ hs:=by
 obtain ⟨r,-,h2⟩:=List.mem_flatMap.1 h
 exact (fil_mem (List.mem_of_mem_drop h2)).1
theorem bey_up {n:Nat} {hs:List RTx} (h:HistG n hs) (x:DX) (v:Vec):UpL ((beyondL hs x v).map trOf):=by
 have h5:=h.n5
 constructor
 ·intro t ht
  obtain ⟨u,hu,rfl⟩:=List.mem_map.1 ht
  obtain ⟨j,hj,rfl⟩:=List.mem_iff_getElem.1 (bey_mem hu)
  have hk:=h.tx j hj
  have:=hk.rN
  refine ⟨by show hs[j].rep.toNat<5;omega,by show 1≤hs[j].seq;rw [hk.seq];omega,?_⟩
  rw [tr_saw h5 hk]
  show hs[j].saw.getD hs[j].rep.toNat 0≤hs[j].seq - 1
  have:=hk.saw.le hs[j].rep.toNat
  rw [hk.seq];omega
 ·rw [List.pairwise_map]
  have:(beyondL hs x v).Pairwise fun a b=>a.rep=b.rep→a.seq<b.seq:=by
   unfold beyondL
   rw [List.pairwise_flatMap]
   refine ⟨fun r _=>?_,?_⟩
   ·rw [List.pairwise_iff_getElem]
    intro i j hi hj hij _
    have hl:=held_len hs r (max (x.gone r) (v.get r).toNat)
    have hi':i<(heldOf hs r (max (x.gone r) (v.get r).toNat)).length:=hi
    have hj':j<(heldOf hs r (max (x.gone r) (v.get r).toNat)).length:=hj
    have e1:(segB hs x v r)[i]=(filR hs r)[max (x.gone r) (v.get r).toNat+i]'(by omega):=held_get hi
    have e2:(segB hs x v r)[j]=(filR hs r)[max (x.gone r) (v.get r).toNat+j]'(by omega):=held_get hj
    have f1:=(fil_seq h r _ (show max (x.gone r) (v.get r).toNat+i<(filR hs r).length by omega)).1
    have f2:=(fil_seq h r _ (show max (x.gone r) (v.get r).toNat+j<(filR hs r).length by omega)).1
    have g1:=(congrArg RTx.seq e1).trans f1
    have g2:=(congrArg RTx.seq e2).trans f2
    exact Int.lt_of_le_of_lt (Int.le_of_eq g1) (Int.lt_of_lt_of_le (by omega) (Int.le_of_eq g2.symm))
   ·refine List.Pairwise.imp_of_mem ?_ (List.pairwise_lt_range (n:=5))
    intro a b _ _ hab p hp q hq e
    have e1:=(fil_mem (List.mem_of_mem_drop hp)).2
    have e2:=(fil_mem (List.mem_of_mem_drop hq)).2
    rw [e1,e2] at e
    omega
  refine List.Pairwise.imp_of_mem ?_ this
  intro a b ha hb hab e
  obtain ⟨i,hi,rfl⟩:=List.mem_iff_getElem.1 (bey_mem ha)
  obtain ⟨j,hj,rfl⟩:=List.mem_iff_getElem.1 (bey_mem hb)
  have h1:=(h.tx i hi).r0
  have h2:=(h.tx j hj).r0
  have e':hs[i].rep.toNat=hs[j].rep.toNat:=e
  exact hab (by omega)
theorem need_at {l:List Tr} {v:Vec} {d:Dot} (h:(d,v) ∈ dotNeeds l):∃ m,∃ hm:m<l.length,l[m].dot=d∧v=needAt l m hm:=by
 obtain ⟨m,hm⟩:=List.mem_iff_getElem?.1 h
 unfold dotNeeds at hm
 rw [List.getElem?_zip_eq_some] at hm
 obtain ⟨h1,h2⟩:=hm
 rw [List.getElem?_map] at h1
 cases e:l[m]? with
 | none=>rw [e] at h1;cases h1
 | some t=>
  obtain ⟨hlt,e'⟩:=List.getElem?_eq_some_iff.1 e
  rw [e] at h1
  have h3:=needs_get l noLat m hlt
  refine ⟨m,hlt,?_,?_⟩
  ·rw [e'];exact Option.some.inj h1
  ·exact Option.some.inj (h2.symm.trans h3)
theorem bey_sawOk {n:Nat} {hs:List RTx} (h:HistG n hs) (x:DX) (v:Vec):SawOk ((beyondL hs x v).map trOf):=by
 have h5:=h.n5
 have hU:=bey_up h x v
 intro t ht r hr
 obtain ⟨u,hu,rfl⟩:=List.mem_map.1 ht
 obtain ⟨a,ha,rfl⟩:=List.mem_iff_getElem.1 (bey_mem hu)
 have hk:=h.tx a ha
 rw [incl_iff]
 intro k hk5
 cases e:needMap (dotNeeds ((beyondL hs x v).map trOf)) ⟨r,(trOf hs[a]).saw.get r⟩ with
 | none=>show noVec.get k≤_;rw [no_get,tr_saw h5 hk];exact hk.saw.pos k
 | some nd=>
  show nd.get k≤_
  obtain ⟨m,hm,ed,rfl⟩:=need_at (needMap_some e)
  have er:(((beyondL hs x v).map trOf)[m].rep:Int)=(r:Int):=congrArg Dot.rep ed
  have er':((beyondL hs x v).map trOf)[m].rep=r:=by omega
  have es:((beyondL hs x v).map trOf)[m].seq=(trOf hs[a]).saw.get r:=congrArg Dot.seq ed
  by_cases c:k=r
  ·subst c
   have:=hU.ownNeed hm
   rw [er'] at this
   rw [this,es];omega
  ·rw [needAt_eq,er']
   refine lat_le r hk5 c (by rw [tr_saw h5 hk];exact hk.saw.pos k) _ fun p hp=>?_
   obtain ⟨i,hi,rfl⟩:=List.mem_iff_getElem.1 hp
   have him:i<m+1:=by rw [List.length_take] at hi;omega
   have hil:i<((beyondL hs x v).map trOf).length:=by rw [List.length_take] at hi;omega
   rw [List.getElem_take]
   have hin:=List.getElem_mem hil
   obtain ⟨w,hw,ew⟩:=List.mem_map.1 hin
   obtain ⟨b,hb,rfl⟩:=List.mem_iff_getElem.1 (bey_mem hw)
   have hkb:=h.tx b hb
   refine ⟨(hU.ok _ hin).1,fun e1=>?_⟩
   have hsq:((beyondL hs x v).map trOf)[i].seq≤((beyondL hs x v).map trOf)[m].seq:=by
    by_cases c2:i=m
    ·subst c2;exact Int.le_refl _
    ·exact Int.le_of_lt (hU.lt (by omega) hm (by rw [e1,er']))
   rw [es,← ew] at hsq
   rw [← ew] at e1 ⊢
   rw [tr_saw h5 hk] at hsq
   rw [tr_saw h5 hkb,tr_saw h5 hk]
   have e1':hs[b].rep.toNat=r:=e1
   have hsee:seesV hs[a].saw hs[b].rep hs[b].seq=true:=sees_le.2 (by rw [e1'];exact hsq)
   have hba:=h.back ha hb hsee
   exact hk.saw.clo hs[b] (List.mem_iff_getElem.2 ⟨b,by simp;omega,by simp⟩) hsee k
theorem bey_small {n:Nat} {hs:List RTx} (h:HistG n hs) (hN:hs.length≤1100000) (x:DX) (v:Vec):∀ nd,nd ∈ needsOf ((beyondL hs x v).map trOf)→nd.small:=by
 have h5:=h.n5
 have hU:=bey_up h x v
 intro nd hnd
 obtain ⟨m,hm⟩:=List.mem_iff_getElem?.1 hnd
 have hml:m<((beyondL hs x v).map trOf).length:=by
  have:=(List.getElem?_eq_some_iff.1 hm).1
  have e:(needsOf ((beyondL hs x v).map trOf)).length=((beyondL hs x v).map trOf).length:=needs_length _ _
  omega
 have hnd':nd=needAt _ m hml:=Option.some.inj (hm.symm.trans (needs_get _ noLat m hml))
 have hb:∀ u,u ∈ beyondL hs x v→u.seq≤1100000∧∀ k:Nat,(trOf u).saw.get k≤1100000:=fun u hu=>by
  obtain ⟨j,hj,rfl⟩:=List.mem_iff_getElem.1 (bey_mem hu)
  have hk:=h.tx j hj
  refine ⟨?_,fun k=>?_⟩
  ·have:=cntR_le (hs.take j) hs[j].rep.toNat
   rw [List.length_take] at this
   rw [hk.seq];omega
  ·rw [tr_saw h5 hk]
   have h2:=hk.saw.le k
   have h3:=cntR_le (hs.take j) k
   rw [List.length_take] at h3
   omega
 intro k hk
 rw [hnd']
 refine ⟨?_,?_⟩
 ·rw [needAt_eq]
  have:=hU.mono (((beyondL hs x v).map trOf)[m].rep) hk (Nat.zero_le (m+1)) (by omega)
  rw [List.take_zero] at this
  have e0:(latFold noLat [] (((beyondL hs x v).map trOf)[m].rep)).get k=0:=no_get k
  omega
 ·unfold maxSeq
  by_cases c:k=((beyondL hs x v).map trOf)[m].rep
  ·rw [c,hU.ownNeed hml]
   obtain ⟨u,hu,e⟩:=List.mem_map.1 (List.getElem_mem hml)
   rw [← e]
   have:=(hb u hu).1
   show u.seq - 1≤_
   omega
  ·rw [needAt_eq]
   refine Int.le_trans (lat_le _ hk c (B:=1100000) (by omega) _ fun p hp=>?_) (by omega)
   have hp':=List.mem_of_mem_take hp
   obtain ⟨u,hu,e⟩:=List.mem_map.1 hp'
   refine ⟨(hU.ok p hp').1,fun _=>?_⟩
   rw [← e];exact (hb u hu).2 k
theorem bey_ans {n i:Nat} (hi:i<n) {hs:List RTx} (h:HistG n hs) (hN:hs.length≤1100000) (x:DX) (v:Vec):AnsOk n i (vecOf (visOf n hs)) (ansF hs x v) (ansC hs x v):=by
 have h5:=h.n5
 have hvis:∀ k:Nat,(vecOf (visOf n hs)).get k=if k<n then (cntR hs k:Int) else 0:=fun k=>by
  rw [vecOf_get (by rw [visOf_len];exact h5),Int.toNat_natCast]
  by_cases c:k<n
  ·rw [visOf_get c,if_pos c]
  ·rw [visOf_out (by omega),if_neg c]
 refine ⟨h5,hi,fun k _=>?_,fun k hk=>by rw [hvis,if_neg (by omega)],fun k _=>?_,fun r j hr hj=>?_,by rw [ans_list];exact bey_sawOk h x v,?_⟩
 ·rw [hvis]
  have:=cntR_le hs k
  unfold maxSeq
  split <;> omega
 ·have hl:=held_len hs k (max (x.gone k) (v.get k).toNat)
  have hc:ansC hs x v k=(filR hs k).length - max (x.gone k) (v.get k).toNat:=hl
  rw [hvis]
  split
  ·rw [fil_len] at hc;omega
  ·rename_i c
   rw [fil_none h (by omega)] at hc
   simp at hc
   omega
 ·obtain ⟨m,hm,e1,e2,e3⟩:=seg_get h x v hj
  have hk:=h.tx m hm
  have hrn:r<n:=by have:=hk.rn;omega
  rw [e1]
  refine ⟨tr_rd h hN hm,by show hs[m].rep.toNat=r;rw [e2];simp,?_⟩
  show hs[m].seq=_
  rw [e3,hvis,if_pos hrn]
 ·rw [ans_list,List.length_map]
  have:(beyondL hs x v).length≤5 * hs.length:=segs_few hs x v 5
  omega
end Go.Proofs.YtiplgdkpnhamaaaGreatDoor.Tv
namespace Go.Proofs.YtiplgdkpnhamaaaGreatDoor.Tv
open Go.RowKit
theorem bey_gt {n:Nat} {hs:List RTx} (h:HistG n hs) (x:DX) (v:Vec) {u:RTx} (hu:u ∈ beyondL hs x v):u.rep.toNat<5∧((max (x.gone u.rep.toNat) (v.get u.rep.toNat).toNat:Nat):Int)<u.seq:=by
 obtain ⟨r,hr,hu⟩:=List.mem_flatMap.1 hu
 have hr5:r<5:=List.mem_range.1 hr
 have e:=(fil_mem (List.mem_of_mem_drop hu)).2
 have er:u.rep.toNat=r:=by rw [e];simp
 rw [er]
 refine ⟨hr5,?_⟩
 obtain ⟨i,hi,rfl⟩:=List.mem_iff_getElem.1 hu
 have hl:=held_len hs r (max (x.gone r) (v.get r).toNat)
 have hi':i<(heldOf hs r (max (x.gone r) (v.get r).toNat)).length:=hi
 have e1:(segB hs x v r)[i]=(filR hs r)[max (x.gone r) (v.get r).toNat+i]'(by omega):=held_get hi
 have f1:=(fil_seq h r _ (show max (x.gone r) (v.get r).toNat+i<(filR hs r).length by omega)).1
 have g1:=(congrArg RTx.seq e1).trans f1
 exact Int.lt_of_lt_of_le (by omega) (Int.le_of_eq g1.symm)
theorem bey_has {n:Nat} {hs:List RTx} (h:HistG n hs) (x:DX) (v:Vec) {r:Nat} (hr:r<5) {s:Int} (h1:((max (x.gone r) (v.get r).toNat:Nat):Int)<s) (h2:s≤cntR hs r):∃ u,u ∈ beyondL hs x v∧u.rep=(r:Int)∧u.seq=s:=by
 have hl:=held_len hs r (max (x.gone r) (v.get r).toNat)
 rw [fil_len] at hl
 have hi:s.toNat - 1 - max (x.gone r) (v.get r).toNat<(segB hs x v r).length:=by
  show _<(heldOf hs r _).length
  omega
 have hk:max (x.gone r) (v.get r).toNat+(s.toNat - 1 - max (x.gone r) (v.get r).toNat)<(filR hs r).length:=by rw [fil_len];omega
 have e1:(segB hs x v r)[s.toNat - 1 - max (x.gone r) (v.get r).toNat]=(filR hs r)[max (x.gone r) (v.get r).toNat+(s.toNat - 1 - max (x.gone r) (v.get r).toNat)]:=held_get hi
 have f1:=fil_seq h r _ hk
 refine ⟨_,List.mem_flatMap.2 ⟨r,List.mem_range.2 hr,List.getElem_mem hi⟩,?_,?_⟩
 ·rw [e1];exact f1.2
 ·rw [e1,f1.1];omega
theorem bey_full {n:Nat} {hs:List RTx} (h:HistG n hs) (x:DX) (v:Vec):∀ a,a ∈ (beyondL hs x v).map trOf→∀ b,b ∈ (beyondL hs x v).map trOf→b.seq≤a.saw.get b.rep→∃ c,c ∈ (beyondL hs x v).map trOf∧c.rep=b.rep∧c.seq=a.saw.get b.rep:=by
 have h5:=h.n5
 intro a ha b hb hab
 obtain ⟨u,hu,rfl⟩:=List.mem_map.1 ha
 obtain ⟨y,hy,rfl⟩:=List.mem_map.1 hb
 obtain ⟨j,hj,rfl⟩:=List.mem_iff_getElem.1 (bey_mem hu)
 have hk:=h.tx j hj
 have hg:=bey_gt h x v hy
 have hab':y.seq≤(trOf hs[j]).saw.get (y.rep.toNat:Nat):=hab
 have hs1:=tr_saw h5 hk y.rep.toNat
 have h2:=hk.saw.le y.rep.toNat
 have h3:=cntR_take_all hs (T:=j) y.rep.toNat
 obtain ⟨c,hc,c1,c2⟩:=bey_has h x v hg.1 (s:=(trOf hs[j]).saw.get (y.rep.toNat:Nat)) (by omega) (by omega)
 refine ⟨trOf c,List.mem_map.2 ⟨c,hc,rfl⟩,?_,c2⟩
 show c.rep.toNat=y.rep.toNat
 omega
theorem bey_dots {n:Nat} {hs:List RTx} (h:HistG n hs) (x:DX) (v:Vec):(beyondL hs x v).Pairwise fun a b=>¬ (a.rep.toNat=b.rep.toNat∧a.seq=b.seq):=by
 have:=(bey_up h x v).up
 rw [List.pairwise_map] at this
 refine this.imp fun {a b} hab ⟨e1,e2⟩=>?_
 have:a.seq<b.seq:=hab e1
 omega
theorem txIn_at {us:List RTx} {ys:List (Tr × Nat)} (hys:ys.map Prod.fst=us.map trOf) (hdots:us.Pairwise fun a b=>¬ (a.rep.toNat=b.rep.toNat∧a.seq=b.seq)) {k:Nat} (hk:k<us.length) (hw:k<(wtsOf ys).length):txIn us (wtsOf ys)[k]=us[k]:=by
 have hlen:ys.length=us.length:=by have:=congrArg List.length hys;simpa using this
 obtain ⟨-,h2,h3⟩:=txIn_ok hys hdots (List.getElem_mem hw)
 have ex:((wtsOf ys)[k]).x=ys[k]'(by omega):=by simp [wtsOf]
 have e1:(ys[k]'(by omega)).1=trOf us[k]:=by
  have:=congrArg (fun l=>l[k]?) hys
  simp only [List.getElem?_map,List.getElem?_eq_getElem hk,List.getElem?_eq_getElem (show k<ys.length by omega),Option.map_some,Option.some.injEq] at this
  exact this
 rw [ex,e1] at h3
 obtain ⟨m,hm,em⟩:=List.mem_iff_getElem.1 h2
 rw [← em] at h3 ⊢
 have a1:us[m].rep.toNat=us[k].rep.toNat:=congrArg Tr.rep h3
 have a2:us[m].seq=us[k].seq:=congrArg Tr.seq h3
 have hpw:=List.pairwise_iff_getElem.1 hdots
 by_cases c:m=k
 ·subst c;rfl
 ·by_cases c2:m<k
  ·exact absurd ⟨a1,a2⟩ (hpw m k hm hk c2)
  ·exact absurd ⟨a1.symm,a2.symm⟩ (hpw k m hk hm (by omega))
def wantsT (a b:RTx):Prop:=(b.rep.toNat=a.rep.toNat∧b.seq<a.seq)∨b.seq≤a.saw.getD b.rep.toNat 0
def RecD (d:DRep) (us:List RTx) (d':DRep):Prop:=∃ zs:List RTx,d'=passD d zs∧zs.Perm us∧zs.Pairwise fun a b=>¬ wantsT a b
theorem bey_rec {n:Nat} {hs:List RTx} (h:HistG n hs) (x:DX) (v:Vec) {us:List RTx} (hus:us=beyondL hs x v) (d:DRep) {ys:List (Tr × Nat)} {xs:List Wt} (hys:ys.map Prod.fst=us.map trOf) (hp:xs.Perm (wtsOf ys)) (hsort:xs.Pairwise fun a b=>wLt b a=false):RecD d us (passD d (xs.map (txIn us))):=by
 have h5:=h.n5
 have hdots:us.Pairwise fun a b=>¬ (a.rep.toNat=b.rep.toNat∧a.seq=b.seq):=by rw [hus];exact bey_dots h x v
 have hlen:ys.length=us.length:=by have:=congrArg List.length hys;simpa using this
 have hmap:(wtsOf ys).map (txIn us)=us:=by
  apply List.ext_getElem
  ·rw [List.length_map,wts_len,hlen]
  ·intro k h1 h2
   rw [List.getElem_map]
   exact txIn_at hys hdots h2 (by rw [wts_len];omega)
 refine ⟨_,rfl,by have:=hp.map (txIn us);rwa [hmap] at this,?_⟩
 rw [List.pairwise_map]
 refine List.Pairwise.imp_of_mem ?_ hsort
 intro a b ha hb hab hw
 obtain ⟨i,hi,rfl⟩:=List.mem_iff_getElem.1 (hp.mem_iff.1 ha)
 obtain ⟨j,hj,rfl⟩:=List.mem_iff_getElem.1 (hp.mem_iff.1 hb)
 have hiu:i<us.length:=by rw [wts_len] at hi;omega
 have hju:j<us.length:=by rw [wts_len] at hj;omega
 rw [txIn_at hys hdots hiu hi,txIn_at hys hdots hju hj] at hw
 have hU:UpL (us.map trOf):=by rw [hus];exact bey_up h x v
 have hS:SawOk (us.map trOf):=by rw [hus];exact bey_sawOk h x v
 have hF:∀ a,a ∈ us.map trOf→∀ b,b ∈ us.map trOf→b.seq≤a.saw.get b.rep→∃ c,c ∈ us.map trOf∧c.rep=b.rep∧c.seq=a.saw.get b.rep:=by rw [hus];exact bey_full h x v
 have hi2:i<(us.map trOf).length:=by simpa using hiu
 have hj2:j<(us.map trOf).length:=by simpa using hju
 have key:=hU.less hS hF hi2 hj2 (by
  rw [List.getElem_map,List.getElem_map]
  rcases hw with hw | hw
  ·exact Or.inl hw
  ·refine Or.inr ?_
   have hm:us[i] ∈ hs:=bey_mem (x:=x) (v:=v) (hus ▸ List.getElem_mem hiu)
   obtain ⟨m,hm',em⟩:=List.mem_iff_getElem.1 hm
   have hk:=h.tx m hm'
   rw [em] at hk
   show us[j].seq≤(trOf us[i]).saw.get ((us[j].rep.toNat:Nat):Int)
   rw [tr_saw h5 hk];exact hw)
 have nd:∀ k (hk:k<(wtsOf ys).length) (hk2:k<(us.map trOf).length),((wtsOf ys)[k]).nd=(needAt (us.map trOf) k hk2).count:=fun k hk hk2=>by
  have h3:=needs_get (us.map trOf) noLat k hk2
  unfold needAt
  have:(needsOf (ys.map Prod.fst))[k]? = some (needOf (latFold noLat ((us.map trOf).take k)) (us.map trOf)[k]):=by rw [hys];exact h3
  obtain ⟨hk3,e3⟩:=List.getElem?_eq_some_iff.1 this
  rw [← e3]
  simp [wtsOf]
 rw [wLt_no] at hab
 apply hab
 left
 rw [nd i hi hi2,nd j hj hj2]
 exact key
end Go.Proofs.YtiplgdkpnhamaaaGreatDoor.Tv
namespace Go.Proofs.YtiplgdkpnhamaaaGreatDoor.Tv
open Go.RowKit
theorem can_iff {d:DRep} {u:RTx} (h5:u.saw.length≤5) (hv:d.vis.length≤5):canD d u=true ↔ (d.vis.getD u.rep.toNat 0+1=u.seq∧∀ k,u.saw.getD k 0≤d.vis.getD k 0):=by
 unfold canD canF
 rw [Bool.and_eq_true,decide_eq_true_eq,incl_iff,vecOf_get hv,Int.toNat_natCast]
 constructor
 ·rintro ⟨h1,h2⟩
  refine ⟨h1.symm,fun k=>?_⟩
  by_cases c:k<5
  ·have:=h2 k c
   rwa [vecOf_get h5,vecOf_get hv,Int.toNat_natCast] at this
  ·rw [getD_out (by omega),getD_out (by omega)];exact Int.le_refl _
 ·rintro ⟨h1,h2⟩
  refine ⟨h1.symm,fun k _=>?_⟩
  rw [vecOf_get h5,vecOf_get hv,Int.toNat_natCast]
  exact h2 k
theorem passD_cons (d:DRep) (u:RTx) (us:List RTx):passD d (u :: us)=passD (stepD d u) us:=rfl
theorem step_vlen (d:DRep) (u:RTx):(stepD d u).vis.length=d.vis.length:=by
 unfold stepD
 split
 ·simp [showD]
 ·rfl
theorem passD_vlen (us:List RTx):∀ d:DRep,(passD d us).vis.length=d.vis.length:=by
 induction us with
 | nil=>intro d;rfl
 | cons u us ih=>intro d;rw [passD_cons,ih,step_vlen]
theorem passD_mem (us:List RTx):∀ (d:DRep) (v:RTx),v ∈ (passD d us).hs→v ∈ d.hs∨v ∈ us:=by
 induction us with
 | nil=>intro d v hv;exact Or.inl hv
 | cons u us ih=>
  intro d v hv
  rw [passD_cons] at hv
  rcases ih _ v hv with h | h
  ·unfold stepD at h
   split at h
   ·unfold showD at h
    rcases List.mem_append.1 h with h | h
    ·exact Or.inl h
    ·exact Or.inr (by rw [List.mem_singleton.1 h];simp)
   ·exact Or.inl h
  ·exact Or.inr (List.mem_cons_of_mem _ h)
theorem passD_pre (us:List RTx):∀ d:DRep,∃ l,(passD d us).hs=d.hs ++ l:=by
 induction us with
 | nil=>intro d;exact ⟨[],by simp [passD]⟩
 | cons u us ih=>
  intro d
  rw [passD_cons]
  obtain ⟨l,hl⟩:=ih (stepD d u)
  rw [hl]
  unfold stepD
  split
  ·exact ⟨u :: l,by simp [showD]⟩
  ·exact ⟨l,rfl⟩
theorem new_of_can {n:Nat} {ts hs:List RTx} (hT:HistG n ts) (hm:∀ v,v ∈ hs→v ∈ ts) {u:RTx} (hu:u ∈ ts) (c1:(visOf n hs).getD u.rep.toNat 0+1=u.seq) (c2:∀ k,u.saw.getD k 0≤(visOf n hs).getD k 0):NewOk n hs u:=by
 obtain ⟨a,ha,rfl⟩:=List.mem_iff_getElem.1 hu
 have hk:=hT.tx a ha
 refine ⟨hk.r0,hk.rn,?_,⟨hk.saw.len,hk.saw.pos,fun r=>?_,fun v hv hs' r=>?_⟩,hk.ops,hk.one⟩
 ·rw [visOf_get hk.rN] at c1;omega
 ·have:=c2 r
  by_cases c:r<n
  ·rwa [visOf_get c] at this
  ·rw [visOf_out (by omega)] at this;omega
 ·obtain ⟨b,hb,rfl⟩:=List.mem_iff_getElem.1 (hm v hv)
  have hba:=hT.back ha hb hs'
  exact hk.saw.clo ts[b] (List.mem_iff_getElem.2 ⟨b,by simp;omega,by simp⟩) hs' r
theorem hnew_of {n:Nat} {ts:List RTx} (hT:HistG n ts) {d:DRep} (hd:∀ v,v ∈ d.hs→v ∈ ts) {us:List RTx} (hus:∀ v,v ∈ us→v ∈ ts):∀ vs u,(∀ v,v ∈ vs→v ∈ us)→u ∈ us→HistG n (passD d vs).hs→(passD d vs).vis=visOf n (passD d vs).hs→canD (passD d vs) u=true→NewOk n (passD d vs).hs u:=by
 intro vs u hvs hu hH hvis hc
 have hsub:∀ v,v ∈ (passD d vs).hs→v ∈ ts:=fun v hv=>(passD_mem vs d v hv).elim (hd v) fun h=>hus v (hvs v h)
 obtain ⟨a,ha,e⟩:=List.mem_iff_getElem.1 (hus u hu)
 have hk:=hT.tx a ha
 rw [e] at hk
 have:=(can_iff (by rw [hk.saw.len];exact hT.n5) (by rw [hvis,visOf_len];exact hT.n5)).1 hc
 rw [hvis] at this
 exact new_of_can hT hsub (hus u hu) this.1 this.2
def visF (d:DRep):Nat→Int:=fun k=>d.vis.getD k 0
def dotP (u:RTx):Nat × Int:=(u.rep.toNat,u.seq)
theorem pass_passR (saw:Nat→Int→Nat→Int):∀ (us:List RTx) (d:DRep),d.vis.length≤5→(∀ u,u ∈ us→u.rep.toNat<d.vis.length∧u.saw.length≤5∧∀ k,saw u.rep.toNat u.seq k=u.saw.getD k 0)→PassR saw (visF d) (us.map dotP) (visF (passD d us)):=by
 intro us
 induction us with
 | nil=>intro d _ _;exact PassR.nil
 | cons u us ih=>
  intro d hv h
  obtain ⟨h1,h2,h3⟩:=h u (by simp)
  rw [passD_cons]
  have ih':=ih (stepD d u) (by rw [step_vlen];exact hv) fun v hv'=>by rw [step_vlen];exact h v (List.mem_cons_of_mem _ hv')
  by_cases c:canD d u=true
  ·obtain ⟨c1,c2⟩:=(can_iff h2 hv).1 c
   refine PassR.yes c1 (fun k=>by rw [h3];exact c2 k) ?_
   have e:visF (stepD d u)=bump (visF d) u.rep.toNat:=by
    funext k
    unfold stepD
    rw [if_pos c]
    unfold visF showD bump
    dsimp only
    rw [List.getD_eq_getElem?_getD,List.getElem?_set]
    by_cases ck:k=u.rep.toNat
    ·subst ck;rw [if_pos rfl,if_pos rfl,if_pos h1];rfl
    ·rw [if_neg (fun x=>ck x.symm),if_neg ck,← List.getD_eq_getElem?_getD]
   rw [← e]
   exact ih'
  ·refine PassR.no (fun ⟨c1,c2⟩=>c ((can_iff h2 hv).2 ⟨c1,fun k=>by have:=c2 k;rwa [h3] at this⟩)) ?_
   have e:stepD d u=d:=by unfold stepD;rw [if_neg c]
   rw [e] at ih' ⊢
   exact ih'
def sawT (ts:List RTx) (r:Nat) (s:Int) (k:Nat):Int:=((ts.find? fun u=>decide (u.rep.toNat=r∧u.seq=s)).getD ⟨0,0,[],[]⟩).saw.getD k 0
theorem HistG.one_ {n:Nat} {ts:List RTx} (hT:HistG n ts) {u v:RTx} (hu:u ∈ ts) (hv:v ∈ ts) (e1:u.rep.toNat=v.rep.toNat) (e2:u.seq=v.seq):u=v:=by
 obtain ⟨a,ha,rfl⟩:=List.mem_iff_getElem.1 hu
 obtain ⟨b,hb,rfl⟩:=List.mem_iff_getElem.1 hv
 have r1:=(hT.tx a ha).r0
 have r2:=(hT.tx b hb).r0
 have:=hT.inj ha hb (by omega) e2
 subst this;rfl
theorem sawT_eq {n:Nat} {ts:List RTx} (hT:HistG n ts) {u:RTx} (hu:u ∈ ts) (k:Nat):sawT ts u.rep.toNat u.seq k=u.saw.getD k 0:=by
 unfold sawT
 have hs:(ts.find? fun v=>decide (v.rep.toNat=u.rep.toNat∧v.seq=u.seq)).isSome:=by
  rw [List.find?_isSome];exact ⟨u,hu,by simp⟩
 obtain ⟨v,hv⟩:=Option.isSome_iff_exists.1 hs
 have h1:v.rep.toNat=u.rep.toNat∧v.seq=u.seq:=of_decide_eq_true (by simpa using List.find?_some hv)
 have h2:=List.mem_of_find?_eq_some hv
 rw [hv,hT.one_ h2 hu h1.1 h1.2];rfl
theorem RecD.stuck {n:Nat} {ts:List RTx} (hT:HistG n ts) {d d':DRep} {us:List RTx} (hv:d.vis.length=n) (hus:∀ u,u ∈ us→u ∈ ts) (h:RecD d us d'):PassR (sawT ts) (visF d) ((Classical.choose h).map dotP) (visF d')∧∀ u,u ∈ us→canD d' u=false:=by
 have h0:=Classical.choose_spec h
 generalize Classical.choose h=zs at h0
 obtain ⟨rfl,hp,hw⟩:=h0
 have hz:∀ u,u ∈ zs→u ∈ ts:=fun u hu=>hus u (hp.mem_iff.1 hu)
 have hn5:=hT.n5
 have fact:∀ u,u ∈ ts→u.rep.toNat<d.vis.length∧u.saw.length≤5∧∀ k,sawT ts u.rep.toNat u.seq k=u.saw.getD k 0:=fun u hu=>by
  obtain ⟨a,ha,e⟩:=List.mem_iff_getElem.1 hu
  have hk:=hT.tx a ha
  rw [e] at hk
  exact ⟨by rw [hv];exact hk.rN,by rw [hk.saw.len];exact hn5,sawT_eq hT hu⟩
 have hP:=pass_passR (sawT ts) zs d (by omega) fun u hu=>fact u (hz u hu)
 refine ⟨hP,fun u hu=>?_⟩
 have hst:=hP.stuck (by
  rw [List.pairwise_map]
  refine List.Pairwise.imp_of_mem ?_ hw
  intro a b ha _ hab hwn
  apply hab
  rcases hwn with hwn | hwn
  ·exact Or.inl hwn
  ·refine Or.inr ?_
   have h1:b.seq≤sawT ts a.rep.toNat a.seq b.rep.toNat:=hwn
   rwa [(fact a (hz a ha)).2.2] at h1) (dotP u) (List.mem_map.2 ⟨u,hp.mem_iff.2 hu,rfl⟩)
 obtain ⟨f1,f2,f3⟩:=fact u (hus u hu)
 cases c:canD (passD d zs) u with
 | false=>rfl
 | true=>
  exfalso
  obtain ⟨c1,c2⟩:=(can_iff f2 (by rw [passD_vlen];omega)).1 c
  exact hst ⟨c1,fun k=>by show sawT ts u.rep.toNat u.seq k≤_;rw [f3];exact c2 k⟩
end Go.Proofs.YtiplgdkpnhamaaaGreatDoor.Tv
namespace Go.Proofs.YtiplgdkpnhamaaaGreatDoor.Tv
open Go.RowKit
theorem HistG.seq_le {n:Nat} {hs:List RTx} (h:HistG n hs) {u:RTx} (hu:u ∈ hs):1≤u.seq∧u.seq≤cntR hs u.rep.toNat:=by
 obtain ⟨a,ha,rfl⟩:=List.mem_iff_getElem.1 hu
 have h1:=(h.tx a ha).seq
 have h2:=(h.seqLt (T:=hs.length) ha).2 ha
 rw [List.take_length] at h2
 exact ⟨by omega,h2⟩
theorem HistG.has {n:Nat} {hs:List RTx} (h:HistG n hs) {r:Nat} {s:Int} (h1:1≤s) (h2:s≤cntR hs r):∃ u,u ∈ hs∧u.rep=(r:Int)∧u.seq=s:=by
 have hk:s.toNat - 1<(filR hs r).length:=by rw [fil_len];omega
 have f:=fil_seq h r _ hk
 exact ⟨_,(fil_mem (List.getElem_mem hk)).1,f.2,by rw [f.1];omega⟩
theorem mem_seen {n:Nat} {ts hs:List RTx} (hT:HistG n ts) (hH:HistG n hs) (hm:∀ v,v ∈ hs→v ∈ ts) {u:RTx} (hu:u ∈ ts):u ∈ hs ↔ u.seq≤cntR hs u.rep.toNat:=by
 constructor
 ·exact fun h=>(hH.seq_le h).2
 ·intro h
  obtain ⟨v,h1,h2,h3⟩:=hH.has (hT.seq_le hu).1 h
  rw [hT.one_ hu (hm v h1) (by omega) h3.symm]
  exact h1
theorem RecD.full {n:Nat} {ts hs:List RTx} (hT:HistG n ts) (hH:HistG n hs) (hm:∀ v,v ∈ hs→v ∈ ts) {d d':DRep} (hd:d.vis=visOf n d.hs) {x:DX} {v:Vec} (hv:∀ k:Nat,k<n→v.get k≤cntR d.hs k) (hg:∀ k,k<n→x.gone k≤cntR d.hs k) (h:RecD d (beyondL hs x v) d'):∀ k,k<n→(cntR hs k:Int)≤d'.vis.getD k 0:=by
 have hn5:=hT.n5
 have hus:∀ u,u ∈ beyondL hs x v→u ∈ ts:=fun u hu=>hm u (bey_mem hu)
 obtain ⟨hP,hst⟩:=RecD.stuck hT (by rw [hd,visOf_len]) hus h
 have hlow:∀ k,k<n→(cntR d.hs k:Int)≤d'.vis.getD k 0:=fun k hk=>by
  have:=hP.low k
  unfold visF at this
  rw [hd,visOf_get hk] at this
  exact this
 have hlen:d'.vis.length=n:=by
  obtain ⟨zs,rfl,-,-⟩:=h
  rw [passD_vlen,hd,visOf_len]
 have key:∀ m,m≤hs.length→∀ k,k<n→(cntR (hs.take m) k:Int)≤d'.vis.getD k 0:=by
  intro m
  induction m with
  | zero=>intro _ k hk;have:=hlow k hk;rw [List.take_zero];show ((0:Nat):Int)≤_;omega
  | succ m ih=>
   intro hm' k hk
   have ihm:=ih (by omega)
   have hlt:m<hs.length:=by omega
   have hu:=hH.tx m hlt
   rw [cntR_at hlt]
   split
   ·rename_i c
    have ek:hs[m].rep.toNat=k:=by rw [c];simp
    by_cases c2:(cntR (hs.take m) k:Int)+1≤d'.vis.getD k 0
    ·omega
    ·exfalso
     have i1:=ihm k hk
     have hseq:=hu.seq
     rw [ek] at hseq
     have hl:=hlow k hk
     have hall:=cntR_take_all hs (T:=m+1) k
     rw [cntR_at hlt,if_pos c] at hall
     have hvk:=hv k hk
     have hgk:=hg k hk
     obtain ⟨u,u1,u2,u3⟩:=bey_has hH x v (r:=k) (s:=hs[m].seq) (by omega) (by omega) (by omega)
     have e:u=hs[m]:=hH.one_ (bey_mem u1) (List.getElem_mem hlt) (by omega) u3
     rw [e] at u1
     have hno:=hst _ u1
     have hyes:canD d' hs[m]=true:=(can_iff (by rw [hu.saw.len];exact hn5) (by omega)).2 ⟨by rw [ek];omega,fun q=>by
      by_cases cq:q<n
      ·have:=hu.saw.le q
       have:=ihm q cq
       omega
      ·rw [getD_out (by rw [hu.saw.len];omega),getD_out (by omega)];exact Int.le_refl _⟩
     rw [hyes] at hno
     cases hno
   ·have:=ihm k hk;omega
 intro k hk
 have:=key hs.length (Nat.le_refl _) k hk
 rwa [List.take_length] at this
theorem HistG.few {n:Nat} {hs ts:List RTx} (h:HistG n hs) (hm:∀ u,u ∈ hs→u ∈ ts):hs.length≤ts.length:=by
 classical
 refine nodup_len (l:=hs) (m:=ts) ?_ hm
 rw [List.Nodup,List.pairwise_iff_getElem]
 intro i j hi hj hij e
 have:=h.inj hi hj (by rw [e]) (by rw [e])
 omega
end Go.Proofs.YtiplgdkpnhamaaaGreatDoor.Tv
