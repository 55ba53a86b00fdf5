/- The texts U52, ZK15, U53, ZK16, ZK17, U54, joined. -/
import Derived.Test.YtiplgdkpnhamaaaGreatDoorE41
import Derived.Test.YtiplgdkpnhamaaaGreatDoorE36
import Derived.ControlIn
namespace Go.Proofs.YtiplgdkpnhamaaaGreatDoor
open Go.RowKit Go.Sort
def SeqEnd {α:Type} (S:List α→Prop) (J:(Nat→Prop)→List α→World→Prop) (e:Ending) (W':World):Prop:=(∃ v,e=.returned v)∧∃ xs,S xs∧J (fun _=>False) xs W'
def SeqX {α:Type} (n:Nat) (P:Program) (g:Nat) (lb:Array Value) (encs:α→Array Value) (L:List α) (S:List α→Prop) (w:World):Prop:=
 ∀ (l:Nat) (J:(Nat→Prop)→List α→World→Prop) (W:World),Below w.heap.size w W →
  (∀ X Y pre W1 W2,J X pre W1→Touch X W1 W2→(∀ q,Y q→(X q∨W1.heap.size≤q)∧q<W2.heap.size)→J Y pre W2) →
  (∀ X pre x W1,J X pre W1→x ∈ L→pre.length<L.length→YieldAt Fence.wide (n - 1) P l (encs x) W1 fun e W'=>e=.returned (.bool true)∧J X (pre ++ [x]) W'∧W1.heap.size≤W'.heap.size∧∀ q,X q→W'.heap[q]? = W1.heap[q]?) →
  J (fun _=>False) [] W→CallsIn Fence.wide n P g (#[.func (.yield l) #[] #[]] ++ lb) W (SeqEnd S J)
def wtsOf (ys:List (Tr × Nat)):List Wt:=List.zipWith (fun x v=>⟨x,v.count⟩) ys (needsOf (ys.map Prod.fst))
theorem wts_len (ys:List (Tr × Nat)):(wtsOf ys).length=ys.length:=by
 unfold wtsOf
 rw [List.length_zipWith]
 have:(needsOf (ys.map Prod.fst)).length=ys.length:=by
  show (needsFrom noLat (ys.map Prod.fst)).length=_
  rw [needs_length,List.length_map]
 omega
theorem wts_take {ys:List (Tr × Nat)} {k:Nat} (hk:k<ys.length) (hn:k<(needsOf (ys.map Prod.fst)).length):(wtsOf ys).take (k+1)=(wtsOf ys).take k ++ [⟨ys[k],(needsOf (ys.map Prod.fst))[k].count⟩]:=by
 rw [List.take_succ_eq_append_getElem (by rw [wts_len];exact hk)]
 simp [wtsOf]
theorem QX.mono {w:World} {qb:Nat} {l:List Wt} {X Y:Nat→Prop} (h:QX w qb l X) (hXY:∀ q,q<w.heap.size→X q→Y q):QX w qb l Y:=by
 obtain ⟨sv,h1,h2,h3,h4⟩:=h
 exact ⟨sv,h1,hXY _ h1.blk.lt h2,fun q hq=>hXY q (h1.row.lt q hq).2 (h3 q hq),h4⟩
theorem QX.move {w w':World} {qb:Nat} {l:List Wt} {X:Nat→Prop} (h:QX w qb l X) (hm:∀ q,X q→w'.heap[q]? = w.heap[q]?):QX w' qb l X:=by
 obtain ⟨sv,h1,h2,h3,h4⟩:=h
 exact ⟨sv,⟨h1.blk.move (hm _ h2),own_move h1.row fun q hq=>hm q (h3 q hq)⟩,h2,h3,h4⟩
theorem QX.later {w w':World} {qb:Nat} {l:List Wt} {X:Nat→Prop} (h:QX w qb l X) (hb:Below w.heap.size w w'):QX w' qb l X:=by
 obtain ⟨sv,h1,h2,h3,h4⟩:=h
 exact ⟨sv,h1.later hb,h2,h3,h4⟩
structure PushAt (W:World) (qb:Nat) (nv:Value) (ys:List (Tr × Nat)) (k:Nat) (wr:World):Prop where
 bel:Below W.heap.size W wr
 nds:wr.ownsRow W.heap.size 104 5 nv ys.length ((needsOf (ys.map Prod.fst)).flatMap Vec.cells)
 q:∃ l,l.Perm ((wtsOf ys).take k)∧QX wr qb l fun q=>W.heap.size≤q∧nv.ownBlock≠some q
theorem PushAt.later {W:World} {qb:Nat} {nv:Value} {ys:List (Tr × Nat)} {k:Nat} {wr w':World} (h:PushAt W qb nv ys k wr) (hb:Below wr.heap.size wr w'):PushAt W qb nv ys k w':=by
 obtain ⟨l,h1,h2⟩:=h.q
 exact ⟨h.bel.trans (hb.mono h.bel.size),ownsRow_below h.nds hb,l,h1,h2.later hb⟩
def qlen (w:World) (qb:Nat):Nat:=match w.cell? ⟨qb,0,none⟩ with | some (.slice _ n _)=>n | _=>0
theorem QX.cell {w:World} {qb:Nat} {l:List Wt} {X:Nat→Prop} (h:QX w qb l X):∃ a c,w.cell? ⟨qb,0,none⟩=some (.slice a l.length c)∧qb<w.heap.size:=by
 obtain ⟨sv,h1,-⟩:=h
 obtain ⟨a,c,rfl,-⟩:=Row.shape (ownsRow_low h1.row (Nat.zero_le _))
 exact ⟨a,c,h1.cell,h1.blk.lt⟩
theorem QX.qlen {w:World} {qb:Nat} {l:List Wt} {X:Nat→Prop} (h:QX w qb l X):qlen w qb=l.length:=by
 obtain ⟨a,c,e,-⟩:=h.cell
 unfold Go.Proofs.YtiplgdkpnhamaaaGreatDoor.qlen
 rw [e]
structure Pops (J:(Nat→Prop)→List Wt→World→Prop) (X:Nat→Prop) (qb:Nat) (L pre rest:List Wt) (wv:World):Prop where
 perm:(pre ++ rest).Perm L
 srt:pre.Pairwise fun a b=>wLt b a=false
 lo:∀ a,a ∈ pre→∀ b,b ∈ rest→wLt b a=false
 q:QX wv qb rest X
 j:J X pre wv
 xb:∀ q,X q→q<wv.heap.size
theorem field_wt (v0 v1 v2 v3 v4 v5 v6 v7 v8:Value) (W:World):(Instr.field 213 (.agg #[v0,v1,v2,v3,v4,v5,v6,v7,v8]) 0).run Tryz.prog W=.ok (.agg #[v0,v1,v2,v3,v4,v5,v6,v7]) W:=by kernel_rfl
set_option maxRecDepth 100000 in
set_option maxHeartbeats 4000000 in
theorem inorder_seq (n Lb base:Nat) (ys:List (Tr × Nat)) (lv:Value) (w:World) (hc0:w.cell? ⟨Lb,0,none⟩=some lv) (hrow0:w.ownsRow base 139 8 lv ys.length (ys.flatMap trCells)) (hl:ys.length≤50000000) (hf:∀ x,x ∈ ys→x.1.rep<5∧0≤x.1.seq∧x.1.seq≤9223372036854775807) (hsm:∀ v,v ∈ needsOf (ys.map Prod.fst)→v.small) :
  SeqX n Tryz.prog 124 #[bptr Lb] (fun y:Wt=>#[.agg #[.int .i64 y.x.1.rep,.int .i64 y.x.1.seq,.int .i64 y.x.1.saw.a,.int .i64 y.x.1.saw.b,.int .i64 y.x.1.saw.c,.int .i64 y.x.1.saw.d,.int .i64 y.x.1.saw.e,.map (some y.x.2)]]) (wtsOf ys) (fun xs=>xs.Perm (wtsOf ys)∧xs.Pairwise fun a b=>wLt b a=false) w:=by
 intro l J W hW hJ hY h0
 have hc:W.cell? ⟨Lb,0,none⟩=some lv:=cell_later hW hc0
 have hrow:=ownsRow_below hrow0 hW
 show CallsIn _ _ _ _ #[.func (.yield l) #[] #[],bptr Lb] W _
 refine callsIn_of_wp Tryz.func124 rfl trivial ?_ rfl
 simp only [Tryz.ntmps124,List.size_toArray,List.length_cons,List.length_nil,Nat.reduceAdd,Nat.reduceSub,Array.replicate_succ,Array.replicate_zero,List.push_toArray,List.append_toArray,List.nil_append,List.cons_append]
 refine wpIn_wide.2 ?_
 have HY:=hide hY
 have HJ:=hide (⟨hJ,h0⟩:_∧_)
 have HL:=hide (⟨hrow,hl,hf,hsm⟩:_∧_∧_∧_)
 clear hY hJ h0 hrow hc0 hrow0 hW hl hf hsm
 obtain ⟨ao,cap,rfl,-⟩:=Row.shape (ownsRow_low HL.out.1 (Nat.zero_le _))
 generalize hW2:(W.alloc (.cells #[] 213)).alloc (.cells #[.slice (some ⟨W.heap.size,0,none⟩) 0 0] 208)=W2
 have hB2:Below W.heap.size W W2:=by rw [← hW2];exact ((Below.refl _ _).alloc (Nat.le_refl _) _).alloc (by simp) _
 have hq2:QX W2 (W.heap.size+1) [] fun q=>W.heap.size≤q:=by
  refine ⟨.slice (some ⟨W.heap.size,0,none⟩) 0 0,⟨?_,rfl,.inr ⟨W.heap.size,0,#[],rfl,Nat.zero_le _,?_,Nat.le_refl _,Nat.zero_le _,rfl,rfl⟩⟩,Nat.le_succ _,fun q hq=>?_,fun k h1 h2=>by simp at h2⟩
  ·rw [← hW2,show W.heap.size+1=(W.alloc (.cells #[] 213)).heap.size by simp];exact heap_alloc_new _ _
  ·rw [← hW2];exact (Below.heap_alloc _ _ _ (by simp)).trans (heap_alloc_new W _)
  ·have e:q=W.heap.size:=by simp [Value.ownBlock] at hq;exact hq.symm
   omega
 have hc2:=cell_later hB2 hc
 have hnd:=needs_any W2 base ys (.slice ao ys.length cap) (ownsRow_below HL.out.1 hB2) HL.out.2.1 HL.out.2.2.1
 have HN:=hide hnd
 have H2:=hide (⟨hB2,hq2⟩:_∧_)
 have HW2:=hide hW2
 obtain ⟨qb,hqb⟩:∃ qb,W.heap.size+1=qb:=⟨_,rfl⟩
 have HQB:=hide hqb
 have HC:=hide hc
 clear hnd hB2 hq2 hc hW2
 go_upto_region 1 with (fail)
 rw [HW2.out]
 try simp only [hqb]
 clear hqb
 go_wp2_with (go_at_call 125;refine HN.out.mono ?_;rintro e w3 ⟨nv,rfl,hrn,hB3⟩;obtain ⟨an,cn,rfl,-⟩:=Row.shape (ownsRow_low hrn (Nat.zero_le _));have H3:=hide (⟨hrn,hB3⟩:_∧_);have hc3:=cell_later hB3 hc2;clear hrn hB3 hc2)
 have HP0:Hid (PushAt W qb (.slice an ys.length cn) ys 0 w3):=by
  refine ⟨H2.out.1.trans (H3.out.2.mono H2.out.1.size),ownsRow_low H3.out.1 H2.out.1.size,[],by simp,?_⟩
  have a:=H2.out.2
  rw [HQB.out] at a
  refine (a.mono fun q hq hX=>?_).later H3.out.2
  refine ⟨hX,fun e=>?_⟩
  have:=(H3.out.1.lt q e).1
  omega
 have hll:=HL.out.2.1
 clear H2 HN HW2 H3 hc3
 go_loopw [11] (fun iv wr=>∃ k:Nat,k≤ys.length∧iv=.int .i64 k∧Hid (PushAt W qb (.slice an ys.length cn) ys k wr)) (fun iv _=>ys.length - (intOf iv).toNat)
 case atStart=>exact ⟨0,Nat.zero_le _,rfl,HP0⟩
 case round=>
  obtain ⟨k,hk,rfl,HP⟩:=hrel
  by_cases hkl:k<ys.length
  ·have hnl:k<(needsOf (ys.map Prod.fst)).length:=by
    show k<(needsFrom noLat (ys.map Prod.fst)).length
    rw [needs_length,List.length_map];exact hkl
   have hbel:=HP.out.bel
   have hrw:=ownsRow_below HL.out.1 hbel
   obtain ⟨gn,cn',hv1,-,-,hgl,hcl,-⟩:=Row.pos (ownsRow_low HP.out.nds (Nat.zero_le _)) (by omega)
   obtain ⟨ga,ca',hv2,-,-,hal,hcl2,-⟩:=Row.pos (ownsRow_low hrw (Nat.zero_le _)) (by omega)
   cases hv1
   cases hv2
   have hcW:=cell_later hbel HC.out
   have hlb:=World.block_lt_of_cell? wr _ hcW
   have cv:=fun (j:Nat) (hj:j<5)=>(hcl (k * 5+j) (by omega)).trans (flat_get Vec.cells 5 (fun _=>rfl) _ k j hnl hj)
   have cx:=fun (j:Nat) (hj:j<8)=>(hcl2 (k * 8+j) (by omega)).trans (flat_get trCells 8 (fun _=>rfl) _ k j hkl hj)
   have hsmk:=HL.out.2.2.2 _ (List.getElem_mem hnl)
   have htk:=wts_take hkl hnl
   obtain ⟨v,hv⟩:∃ v,(needsOf (ys.map Prod.fst))[k]=v:=⟨_,rfl⟩
   obtain ⟨x,hx⟩:∃ x,ys[k]=x:=⟨_,rfl⟩
   rw [hv] at cv hsmk htk
   rw [hx] at cx htk
   obtain ⟨⟨r,sq,⟨s0,s1,s2,s3,s4⟩,wm⟩,mb⟩:=x
   have v0:wr.cell? ⟨gn,k * 5,none⟩=some (.int .i64 v.a):=cv 0 (by omega)
   have v1:wr.cell? ⟨gn,k * 5+1,none⟩=some (.int .i64 v.b):=cv 1 (by omega)
   have v2:wr.cell? ⟨gn,k * 5+2,none⟩=some (.int .i64 v.c):=cv 2 (by omega)
   have v3:wr.cell? ⟨gn,k * 5+3,none⟩=some (.int .i64 v.d):=cv 3 (by omega)
   have v4:wr.cell? ⟨gn,k * 5+4,none⟩=some (.int .i64 v.e):=cv 4 (by omega)
   generalize hW6:wr.alloc (.cells #[.int .i64 v.a,.int .i64 v.b,.int .i64 v.c,.int .i64 v.d,.int .i64 v.e] 104)=W6
   have hB6:Below wr.heap.size wr W6:=by rw [← hW6];exact (Below.refl _ _).alloc (Nat.le_refl _) _
   have b6:Blk W6 wr.heap.size v.cells 104:=by rw [← hW6];exact heap_alloc_new wr _
   have HCX:=hide cx
   have HCW:=hide hcW
   have H6:=hide (⟨hB6,b6,htk,hsmk⟩:_∧_∧_∧_)
   have HW6:=hide hW6
   clear cv cx hcl hcl2 hcW hrw hbel hB6 b6 hv hx htk hsmk hW6
   go_upto_region 4 with (fail)
   rw [HW6.out]
   obtain ⟨hB6,b6,htk,hsmk⟩:=H6.out
   have hcx:=HCX.out
   have y0:=Bel.cell (cell_later hB6 HCW.out)
   have x0:=Bel.cell (cell_later hB6 (show wr.cell? ⟨ga,k * 8,none⟩=some (.int .i64 r) from hcx 0 (by omega)))
   have x1:=Bel.cell (cell_later hB6 (show wr.cell? ⟨ga,k * 8+1,none⟩=some (.int .i64 sq) from hcx 1 (by omega)))
   have x2:=Bel.cell (cell_later hB6 (show wr.cell? ⟨ga,k * 8+2,none⟩=some (.int .i64 s0) from hcx 2 (by omega)))
   have x3:=Bel.cell (cell_later hB6 (show wr.cell? ⟨ga,k * 8+3,none⟩=some (.int .i64 s1) from hcx 3 (by omega)))
   have x4:=Bel.cell (cell_later hB6 (show wr.cell? ⟨ga,k * 8+4,none⟩=some (.int .i64 s2) from hcx 4 (by omega)))
   have x5:=Bel.cell (cell_later hB6 (show wr.cell? ⟨ga,k * 8+5,none⟩=some (.int .i64 s3) from hcx 5 (by omega)))
   have x6:=Bel.cell (cell_later hB6 (show wr.cell? ⟨ga,k * 8+6,none⟩=some (.int .i64 s4) from hcx 6 (by omega)))
   have x7:=Bel.cell (cell_later hB6 (show wr.cell? ⟨ga,k * 8+7,none⟩=some (.map (some mb)) from hcx 7 (by omega)))
   have z0:=Bel.cell (show W6.cell? ⟨wr.heap.size,0,none⟩=some (.int .i64 v.a) from b6.cell 0)
   have z1:=Bel.cell (show W6.cell? ⟨wr.heap.size,1,none⟩=some (.int .i64 v.b) from b6.cell 1)
   have z2:=Bel.cell (show W6.cell? ⟨wr.heap.size,2,none⟩=some (.int .i64 v.c) from b6.cell 2)
   have z3:=Bel.cell (show W6.cell? ⟨wr.heap.size,3,none⟩=some (.int .i64 v.d) from b6.cell 3)
   have z4:=Bel.cell (show W6.cell? ⟨wr.heap.size,4,none⟩=some (.int .i64 v.e) from b6.cell 4)
   have hct:∀ f:Fam (Bel W6),Calls Tryz.prog 127 #[v.val] f.w fun e w''=>e=.returned (.int .i64 v.count)∧∃ g:Fam (Bel W6),w''=g.w:=fun f=>Bel.call f (count_any f.w v hsmk)
   have HCT:=hide hct
   have HPU:Hid (∀ W7,Below W6.heap.size W6 W7→Calls Tryz.prog 126 #[qIface qb,.iface 213 (.agg #[.int .i64 r,.int .i64 sq,.int .i64 s0,.int .i64 s1,.int .i64 s2,.int .i64 s3,.int .i64 s4,.map (some mb),.int .i64 v.count])] W7 fun e w'=>e=.returned (.tuple #[])∧Hid (PushAt W qb (.slice (some ⟨gn,0,none⟩) ys.length cn) ys (k+1) w')):=fun W7 hB7=>by
    have hP7:=(HP.out.later hB6).later hB7
    obtain ⟨l7,hp7,hq7⟩:=hP7.q
    have hl7:l7.length≤50000000:=by
     have:=hp7.length_eq
     rw [List.length_take,wts_len] at this
     omega
    refine (heap_push W7 qb l7 ⟨(⟨r,sq,⟨s0,s1,s2,s3,s4⟩,wm⟩,mb),v.count⟩ _ hq7 (by omega)).mono ?_
    rintro e w8 ⟨rfl,l8,hp8,hq8,hT8⟩
    have hs7:W.heap.size≤W7.heap.size:=hP7.bel.size
    refine ⟨rfl,⟨⟨hT8.os.trans hP7.bel.os,hT8.tape.trans hP7.bel.tape,hT8.output.trans hP7.bel.output,Nat.le_trans hs7 hT8.size,fun q hq=>(hT8.block q (by omega) (fun c=>by omega)).trans (hP7.bel.block q hq)⟩,own_move hP7.nds fun q hq=>hT8.block q (hP7.nds.lt q hq).2 fun c=>c.2 hq,l8,?_,hq8.mono fun q _ c=>?_⟩⟩
    ·rw [htk]
     exact hp8.trans (List.Perm.append_right _ hp7)
    ·rcases c with c | c
     ·exact c
     ·exact ⟨by omega,fun e=>by have:=(hP7.nds.lt q e).2;omega⟩
   clear hct hcx hB6 b6 htk hsmk
   refine region_fam_tail (Bel W6) 10 (by kernel_rfl) (by kernel_rfl) (Below.refl _ _).drew ?_
   simp only [List.take_succ_cons,List.take_zero,List.drop_succ_cons,List.drop_zero]
   repeat (go_big_quiet_step (first | (go_at_call 127;exact HCT.out _)))
   refine wpQuiet_nil ?_
   intro _ hw'
   obtain ⟨fq,rfl⟩:=hw'
   obtain ⟨W7,hB7⟩:=fq
   try dsimp only
   have HB7:=hide hB7
   clear y0 x0 x1 x2 x3 x4 x5 x6 x7 z0 z1 z2 z3 z4 hB7
   go_wp2_with (go_at_call 126;refine (HPU.out W7 HB7.out).mono ?_;rintro e w8 ⟨rfl,hP8⟩)
   exact ⟨⟨k+1,by omega,by simp,hP8⟩,by simp only [intOf];omega⟩
  ·have hke:k=ys.length:=by omega
   subst hke
   go_wp2_with fail
   obtain ⟨l0,hp0,hq0⟩:=HP.out.q
   have hbel:=HP.out.bel
   have HS:Hid (Pops J (fun q=>W.heap.size≤q∧q<wr.heap.size) qb (wtsOf ys) [] l0 wr):=by
    refine ⟨?_,by simp,by simp,hq0.mono fun q hq hX=>⟨hX.1,hq⟩,?_,fun q hX=>hX.2⟩
    ·rw [List.take_of_length_le (by rw [wts_len];exact Nat.le_refl _)] at hp0
     simpa using hp0
    ·exact HJ.out.1 (fun _=>False) _ [] W wr HJ.out.2 (Touch.ofBelow hbel) fun q hX=>⟨Or.inr hX.1,hX.2⟩
   generalize (fun q=>W.heap.size≤q∧q<wr.heap.size)=X at HS
   clear hp0 hq0 hbel HP0 HP
   go_loopw [] (fun wv=>∃ pre rest,Hid (Pops J X qb (wtsOf ys) pre rest wv)) (fun wv=>qlen wv qb)
   case atStart=>exact ⟨[],l0,HS⟩
   case round=>
    obtain ⟨pre,rest,HR⟩:=hrel
    obtain ⟨a,c,hcell,hlt⟩:=HR.out.q.cell
    have hln:=fun W=>q_len W a rest.length c
    have HLN:=hide hln
    clear hln
    by_cases hr0:rest.length=0
    ·rw [hr0] at hcell HLN
     go_wp2_with (go_at_call 128;refine (HLN.out _).mono ?_;rintro e w2 ⟨rfl,rfl⟩)
     go_end0
     have hr:rest=[]:=List.length_eq_zero_iff.1 hr0
     have h1:=HR.out
     rw [hr] at h1
     refine ⟨⟨_,rfl⟩,pre,⟨by simpa using h1.perm,h1.srt⟩,HJ.out.1 X _ pre _ _ h1.j (Touch.refl _ _) fun q hX=>hX.elim⟩
    ·have hr1:(0:Int)<(rest.length:Nat):=by omega
     go_upto_region 7 with (go_at_call 128;refine (HLN.out _).mono ?_;rintro e w2 ⟨rfl,rfl⟩)
     have hrl:rest.length≤50000000:=by
      have:=HR.out.perm.length_eq
      rw [List.length_append,wts_len] at this
      omega
     have hpop:=heap_pop w2 qb rest X HR.out.q (by omega) (by omega)
     have HPOP:=hide hpop
     have hta:=as_wt
     have hfd:=field_wt
     clear hpop hcell hlt
     go_cut [40] (fun bv wc=>bv=.bool false∧∃ pre' rest',Hid (Pops J X qb (wtsOf ys) pre' rest' wc∧rest'.length<rest.length))
     case first=>
      refine (wpIn_wide (n:=n)).1 ?_
      gi_wp2
      refine ⟨trivial,fun h=>by simp [Fence.wide] at h,(callsIn_wide.2 HPOP.out).mono ?_⟩
      rintro e w3 ⟨y,rest',rfl,hpp,hmn,hqx,hT⟩
      have hym:y ∈ wtsOf ys:=HR.out.perm.mem_iff.1 (List.mem_append_right _ (hpp.mem_iff.1 (by simp)))
      have hJ3:J X pre w3:=HJ.out.1 X X pre w2 w3 HR.out.j hT fun q hX=>⟨Or.inl hX,Nat.lt_of_lt_of_le (HR.out.xb q hX) hT.size⟩
      obtain ⟨fn,tmps,assign,body,hy,hR⟩:=HY.out X pre y w3 hJ3 hym (by
       have:=HR.out.perm.length_eq
       rw [List.length_append] at this
       omega)
      have HRR:=hide hR
      have HPP:=hide (⟨hpp,hmn,hqx,hT⟩:_∧_∧_∧_)
      clear hR hpp hmn hqx hT hJ3 hym
      gi_wp2
      refine ⟨fun h=>by simp [Fence.wide] at h,HRR.out.mono ?_⟩
      rintro e W4 ⟨rfl,hJ4,hsz,hX4⟩
      have H4:=hide (⟨hJ4,hsz,hX4⟩:_∧_∧_)
      clear hJ4 hsz hX4 hy
      gi_wp2
      go_meet
      obtain ⟨hJ4,hsz,hX4⟩:=H4.out
      obtain ⟨hpp,hmn,hqx,hT⟩:=HPP.out
      refine ⟨rfl,pre ++ [y],rest',⟨?_,?_,?_,hqx.move hX4,hJ4,fun q hX=>?_⟩,?_⟩
      ·have e:pre ++ [y] ++ rest'=pre ++ (y :: rest'):=by simp
       rw [e]
       exact (List.Perm.append_left pre hpp).trans HR.out.perm
      ·rw [List.pairwise_append]
       refine ⟨HR.out.srt,by simp,fun a ha b hb=>?_⟩
       rw [List.mem_singleton] at hb
       subst hb
       exact HR.out.lo a ha b (hpp.mem_iff.1 (by simp))
      ·intro a ha b hb
       have hb':b ∈ rest:=hpp.mem_iff.1 (List.mem_cons_of_mem _ hb)
       rw [List.mem_append,List.mem_singleton] at ha
       rcases ha with ha | rfl
       ·exact HR.out.lo a ha b hb'
       ·exact hmn b hb'
      ·exact Nat.lt_of_lt_of_le (Nat.lt_of_lt_of_le (HR.out.xb q hX) hT.size) hsz
      ·have:=hpp.length_eq
       simp at this
       omega
     case rest=>
      obtain ⟨rfl,pre',rest',HR'⟩:=hcut
      go_wp2_with fail
      exact ⟨⟨pre',rest',HR'.out.1⟩,by rw [HR'.out.1.q.qlen,HR.out.q.qlen];exact HR'.out.2⟩
end Go.Proofs.YtiplgdkpnhamaaaGreatDoor
namespace Go.Proofs.YtiplgdkpnhamaaaGreatDoor.Tv
open Go.RowKit
theorem repCells_kn {i n:Int} {sb:Nat} {hv kn op:List Value} (h1:hv.length=5) (h2:kn.length=25) {k:Nat} (hk:k<25):(repCells i n sb hv kn op)[8+k]? = kn[k]?:=by
 unfold repCells
 rw [List.getElem?_append_left (by simp;omega),List.getElem?_append_right (by simp;omega)]
 congr 1
 simp;omega
theorem repCells_setK {i n:Int} {sb:Nat} {hv kn op:List Value} (h1:hv.length=5) (h2:kn.length=25) {k:Nat} (hk:k<25) (x:Value):(repCells i n sb hv kn op).set (8+k) x=repCells i n sb hv (kn.set k x) op:=by
 unfold repCells
 rw [List.set_append_left _ _ (by simp;omega),List.set_append_right _ _ (by simp;omega)]
 congr 3
 simp;omega
theorem RepP.reblk {xq xq':DX} {w w':World} {p:Nat→Own} {b n i:Nat} {d:DRep} {sb:Nat} {st:St} {sl tbs mbs:Nat→Nat} {hv kn kn':List Value} (h:RepP xq w p b n i d sb st sl tbs mbs hv kn) (q:QT (fun t=>t=Own.rep) w p w' p) (hb:Qb w' p .rep b (repCells i n sb hv kn' (opvs d tbs)) 114) (hk:kn'=latCells xq'.kn) (hg:xq'.gone=xq.gone):RepP xq' w' p b n i d sb st sl tbs mbs hv kn':=by
 obtain ⟨vb,cb,eb,ov,cv,ev,kv,hs⟩:=h.sto
 refine ⟨hb,h.hlen,by rw [hk];rfl,⟨vb,cb,eb,ov,cv,ev,kv,hs.touch q (fun u hu e=>by rw [e] at hu;exact hu)⟩,h.ok,fun r hr=>?_,fun k t e=>?_,h.snp,hk,fun r=>by rw [hg];exact h.gle r⟩
 ·rw [hg];exact (h.held r hr).touch q (by simp) (by simp)
 ·have hx:=h.tx k t e
  exact ⟨hx.blk.touch q (by simp),hx.ownT,hx.own.movet q (by rw [hx.ownT];simp)⟩
def learnX (x:DX) (j:Nat) (v:Vec):DX:={ x with kn:=latUpd x.kn j ((x.kn j).join v) }
set_option maxRecDepth 100000 in
set_option maxHeartbeats 4000000 in
theorem learn_any {xq:DX} {w:World} {p:Nat→Own} {b n i:Nat} {d:DRep} {sb:Nat} {st:St} {sl tbs mbs:Nat→Nat} {hv kn:List Value} (h:RepP xq w p b n i d sb st sl tbs mbs hv kn) {j:Nat} (hj:j<5) (v:Vec) :
  Calls Tryz.prog 76 #[bptr b,headVal j v] w fun e w'=>e=.returned (.tuple #[])∧RepIn (learnX xq j v) w' p b n i d∧QT (fun t=>t=.rep) w p w' p:=by
 obtain ⟨u,hu⟩:∃ u,xq.kn j=u:=⟨_,rfl⟩
 generalize hW0:w.alloc (.cells #[.int .i64 j,.int .i64 v.a,.int .i64 v.b,.int .i64 v.c,.int .i64 v.d,.int .i64 v.e] 144)=W0
 have hB0:Below w.heap.size w W0:=by rw [← hW0];exact (Below.refl _ _).alloc (Nat.le_refl _) _
 have bx:Blk W0 w.heap.size [.int .i64 j,.int .i64 v.a,.int .i64 v.b,.int .i64 v.c,.int .i64 v.d,.int .i64 v.e] 144:=by rw [← hW0];exact heap_alloc_new w _
 have h0:=h.below hB0
 have ck:∀ m,m<5→W0.cell? ⟨b,8+j * 5+m,none⟩=some (.int .i64 (u.get m)):=fun m hm=>by
  rw [h0.blk.blk.cell,show 8+j * 5+m=8+(j * 5+m) by omega,repCells_kn h.hlen h.klen (by omega),h.known,lat_cell _ hj hm,hu]
 have k0:=Bel.cell (show W0.cell? ⟨b,8+j * 5,none⟩=some (.int .i64 u.a) from ck 0 (by omega))
 have k1:=Bel.cell (show W0.cell? ⟨b,8+j * 5+1,none⟩=some (.int .i64 u.b) from ck 1 (by omega))
 have k2:=Bel.cell (show W0.cell? ⟨b,8+j * 5+2,none⟩=some (.int .i64 u.c) from ck 2 (by omega))
 have k3:=Bel.cell (show W0.cell? ⟨b,8+j * 5+3,none⟩=some (.int .i64 u.d) from ck 3 (by omega))
 have k4:=Bel.cell (show W0.cell? ⟨b,8+j * 5+4,none⟩=some (.int .i64 u.e) from ck 4 (by omega))
 have y0:=Bel.cell (show W0.cell? ⟨w.heap.size,0,none⟩=some (.int .i64 j) from bx.cell 0)
 have y1:=Bel.cell (show W0.cell? ⟨w.heap.size,1,none⟩=some (.int .i64 v.a) from bx.cell 1)
 have y2:=Bel.cell (show W0.cell? ⟨w.heap.size,2,none⟩=some (.int .i64 v.b) from bx.cell 2)
 have y3:=Bel.cell (show W0.cell? ⟨w.heap.size,3,none⟩=some (.int .i64 v.c) from bx.cell 3)
 have y4:=Bel.cell (show W0.cell? ⟨w.heap.size,4,none⟩=some (.int .i64 v.d) from bx.cell 4)
 have y5:=Bel.cell (show W0.cell? ⟨w.heap.size,5,none⟩=some (.int .i64 v.e) from bx.cell 5)
 have hjn:∀ f:Fam (Bel W0),Calls Tryz.prog 118 #[u.val,v.val] f.w fun e w''=>e=.returned (u.join v).val∧∃ g:Fam (Bel W0),w''=g.w:=fun f=>Bel.call f (join_any f.w u v)
 have HJN:=hide hjn
 have HW0:=hide hW0
 have HH:=hide (⟨h,hB0,h0,hu,ck⟩:_∧_∧_∧_∧_)
 have e1:¬ (j:Int)<0:=by omega
 have e2:(j:Int)<5:=by omega
 obtain ⟨jn,hjv⟩:∃ jn,u.join v=jn:=⟨_,rfl⟩
 rw [hjv] at HJN
 have HJV:=hide hjv
 clear h hB0 bx h0 hjn hW0 hu ck hjv
 go_enter Tryz.func76,Tryz.ntmps76
 go_upto_region 1 with (fail)
 rw [HW0.out]
 refine region_fam_tail (Bel W0) 16 (by kernel_rfl) (by kernel_rfl) (Below.refl _ _).drew ?_
 simp only [List.take_succ_cons,List.take_zero,List.drop_succ_cons,List.drop_zero]
 repeat (go_big_quiet_step (first | (go_at_call 118;exact HJN.out _)))
 refine wpQuiet_nil ?_
 intro _ hw'
 obtain ⟨fq,rfl⟩:=hw'
 obtain ⟨W1,hB1⟩:=fq
 try dsimp only
 have c0:=k0 ⟨W1,hB1⟩
 have c1:=k1 ⟨W1,hB1⟩
 have c2:=k2 ⟨W1,hB1⟩
 have c3:=k3 ⟨W1,hB1⟩
 have c4:=k4 ⟨W1,hB1⟩
 dsimp only at c0 c1 c2 c3 c4
 have hb1:=HH.out.2.2.1.below hB1
 have f0:W1.frozen? ⟨b,8+j * 5,none⟩=false:=hb1.blk.blk.frozen _
 have f1:W1.frozen? ⟨b,8+j * 5+1,none⟩=false:=hb1.blk.blk.frozen _
 have f2:W1.frozen? ⟨b,8+j * 5+2,none⟩=false:=hb1.blk.blk.frozen _
 have f3:W1.frozen? ⟨b,8+j * 5+3,none⟩=false:=hb1.blk.blk.frozen _
 have f4:W1.frozen? ⟨b,8+j * 5+4,none⟩=false:=hb1.blk.blk.frozen _
 have hlb:=hb1.blk.blk.lt
 have H1:=hide (⟨hb1,hB1⟩:_∧_)
 clear k0 k1 k2 k3 k4 y0 y1 y2 y3 y4 y5 hb1 hB1
 go_wp2_with fail
 go_end0
 obtain ⟨h,hB0,h0,hu,ck⟩:=HH.out
 obtain ⟨h1,hB1⟩:=H1.out
 have b5:=((((h1.blk.set (8+j * 5) (.int .i64 jn.a)).set (8+j * 5+1) (.int .i64 jn.b)).set (8+j * 5+2) (.int .i64 jn.c)).set (8+j * 5+3) (.int .i64 jn.d)).set (8+j * 5+4) (.int .i64 jn.e)
 have ec:(((((repCells i n sb hv kn (opvs d tbs)).set (8+j * 5) (.int .i64 jn.a)).set (8+j * 5+1) (.int .i64 jn.b)).set (8+j * 5+2) (.int .i64 jn.c)).set (8+j * 5+3) (.int .i64 jn.d)).set (8+j * 5+4) (.int .i64 jn.e)=repCells i n sb hv (latCells (learnX xq j v).kn) (opvs d tbs):=by
  rw [show 8+j * 5+1=8+(j * 5+1) by omega,show 8+j * 5+2=8+(j * 5+2) by omega,show 8+j * 5+3=8+(j * 5+3) by omega,show 8+j * 5+4=8+(j * 5+4) by omega]
  rw [repCells_setK h.hlen h.klen (by omega),repCells_setK h.hlen (by simp [h.klen]) (by omega),repCells_setK h.hlen (by simp [h.klen]) (by omega),repCells_setK h.hlen (by simp [h.klen]) (by omega),repCells_setK h.hlen (by simp [h.klen]) (by omega),h.known,lat_set _ hj]
  show repCells i n sb hv (latCells (latUpd xq.kn j jn)) _=repCells i n sb hv (latCells (latUpd xq.kn j ((xq.kn j).join v))) _
  rw [hu,HJV.out]
 rw [ec] at b5
 have tg:=h1.blk.tag
 have q5:=((((((QT.refl (fun t=>t=Own.rep) W1 p).set (p:=⟨b,8+j * 5,none⟩) tg (.int .i64 jn.a)).set (p:=⟨b,8+j * 5+1,none⟩) tg (.int .i64 jn.b)).set (p:=⟨b,8+j * 5+2,none⟩) tg (.int .i64 jn.c)).set (p:=⟨b,8+j * 5+3,none⟩) tg (.int .i64 jn.d)).set (p:=⟨b,8+j * 5+4,none⟩) tg (.int .i64 jn.e))
 have hB:=hB0.trans (hB1.mono hB0.size)
 exact ⟨rfl,⟨sb,st,sl,tbs,mbs,hv,_,h1.reblk q5 b5 rfl rfl⟩,(QT.ofBelow hB).trans q5⟩
end Go.Proofs.YtiplgdkpnhamaaaGreatDoor.Tv
namespace Go.Proofs.YtiplgdkpnhamaaaGreatDoor
open Go.RowKit Go.Sort
theorem touch_put {X:Nat→Prop} (W:World) {l:Nat} (o:Obj) (h:X l):Touch X W (W.putObj l o):=
 ⟨rfl,rfl,rfl,by simp,fun q _ hn=>World.putObj_heap_other fun e=>hn (by rw [e];exact h)⟩
theorem range_x {α:Type} {P:Program} {n gf:Nat} {lb:Array Value} {encs:α→Array Value} {L:List α} {S:List α→Prop} {w0:World} {g:Operand} {ps:Array Tmp} {assign body:Code} {Q:Exit→Act→World→Prop} {a:Act} {w:World}
  (h1:1≤n) (hg:a.eval g=.func (.func gf) #[] lb) (eg:∀ args w,(callFunc gf args).run P w=.ok (.enter gf args) w) (hseq:SeqX (n - 1) P gf lb encs L S w0) (hb0:Below w0.heap.size w0 w) (hps:∀ x,(encs x).size=ps.size)
  (I:(Nat→Prop)→List α→World→Prop) (hI:∀ X Y pre W1 W2,I X pre W1→Touch X W1 W2→(∀ q,Y q→(X q∨W1.heap.size≤q)∧q<W2.heap.size)→I Y pre W2) (hIb:∀ X pre W,I X pre W→∀ q,X q→q<W.heap.size) (h0:I (fun _=>False) [] w)
  (Ax:α→Act→World→(Nat→Prop)→Prop) (hAx:∀ x a' W X l r o,Ax x a' W X→W.heap[l]? = some (.loop r)→Ax x a' (W.putObj l o) X)
  (hassign:∀ (l:Nat) (X:Nat→Prop) (pre:List α) (x:α) (W:World) (K:Act→World→Prop),x ∈ L→pre.length<L.length→I X pre W→(∀ a' W' X',I X' pre W'→(∀ q,X q→X' q)→Touch (fun _=>False) W W'→Ax x a' W' X'→K a' W')→assign.wpIn (Fence.wide.inRound l) (n - 1 - 1) P (Exit.then K fun _ _ _=>False) { tmps:=(ps.zip (encs x)).foldl (fun t (p,v)=>t.setIfInBounds p v) a.tmps,defers:=[] } W)
  (hbody:∀ (l:Nat) (X:Nat→Prop) (pre:List α) (x:α) (a':Act) (W:World),x ∈ L→pre.length<L.length→I X pre W→Ax x a' W X→body.wpIn (Fence.wide.inRound l) (n - 1 - 1) P (fun e _ W'=>e=.normal∧I X (pre ++ [x]) W'∧W.heap.size≤W'.heap.size∧∀ q,X q→W'.heap[q]? = W.heap[q]?) a' W)
  (hdone:∀ (D:Nat) (xs:List α) (W:World),w.heap.size≤D→S xs→I (fun q=>q=D) xs W→W.heap[D]? = some (.deferred (some []))→Q .normal { a with defers:={ target:=.collected D,args:=#[] } :: a.defers } W) :
  (Code.rangeFunc g ps assign body).wpIn Fence.wide n P Q a w:=by
 refine wpIn_rangeFunc fun fn hfn=>?_
 let rc:LoopState→Loop:=fun st=>{ state:=st,pending:=none,fn,tmps:=a.tmps,params:=ps,assign,body,defers:=w.heap.size }
 obtain ⟨W1,hW1⟩:∃ W1,(w.alloc (.deferred (some []))).alloc (.loop (rc .ready))=W1:=⟨_,rfl⟩
 have hs1:W1.heap.size=w.heap.size+2:=by rw [← hW1];simp
 have hT1:Touch (fun _=>False) w W1:=by rw [← hW1];exact ((Touch.refl _ _).alloc _).alloc _
 have hl1:W1.heap[w.heap.size+1]? = some (.loop (rc .ready)):=by
  have:=World.alloc_heap_new (w.alloc (.deferred (some []))) (.loop (rc .ready))
  rw [World.size_alloc] at this
  rw [← hW1];exact this
 have hd1:W1.heap[w.heap.size]? = some (.deferred (some [])):=by
  rw [← hW1];exact (Below.heap_alloc _ _ _ (by simp)).trans (World.alloc_heap_new w _)
 let U:(Nat→Prop)→Nat→Prop:=fun X q=>X q∨q=w.heap.size∨q=w.heap.size+1
 let J:(Nat→Prop)→List α→World→Prop:=fun X pre W=>I (U X) pre W∧W.heap[w.heap.size+1]? = some (.loop (rc .ready))∧W.heap[w.heap.size]? = some (.deferred (some []))∧¬ X w.heap.size∧¬ X (w.heap.size+1)
 have hlt:∀ {W:World} {q:Nat} {o:Obj},W.heap[q]? = some o→q<W.heap.size:=fun h=>(Array.getElem?_eq_some_iff.1 h).1
 have hJ:∀ X Y pre A B,J X pre A→Touch X A B→(∀ q,Y q→(X q∨A.heap.size≤q)∧q<B.heap.size)→J Y pre B:=fun X Y pre A B hJ hT hY=>by
  obtain ⟨j1,j2,j3,j4,j5⟩:=hJ
  have l2:=hlt j2
  have l3:=hlt j3
  have hsz:=hT.size
  refine ⟨hI (U X) (U Y) pre A B j1 (hT.mono fun q _ h=>Or.inl h) fun q hq=>?_,(hT.block _ l2 j5).trans j2,(hT.block _ l3 j4).trans j3,fun c=>?_,fun c=>?_⟩
  ·rcases hq with hq | rfl | rfl
   ·obtain ⟨c,d⟩:=hY q hq
    exact ⟨c.imp Or.inl id,d⟩
   ·exact ⟨Or.inl (Or.inr (Or.inl rfl)),by omega⟩
   ·exact ⟨Or.inl (Or.inr (Or.inr rfl)),by omega⟩
  ·rcases (hY _ c).1 with d | d
   ·exact j4 d
   ·omega
  ·rcases (hY _ c).1 with d | d
   ·exact j5 d
   ·omega
 have hb1:Below w0.heap.size w0 W1:=by
  rw [← hW1];exact hb0.trans ((((Below.refl _ w).alloc (Nat.le_refl _) _).alloc (by simp) _).mono hb0.size)
 have hJ0:J (fun _=>False) [] W1:=⟨hI _ _ [] w W1 h0 hT1 (fun q hq=>by
  rcases hq with hq | rfl | rfl
  ·exact hq.elim
  ·exact ⟨Or.inr (Nat.le_refl _),by omega⟩
  ·exact ⟨Or.inr (Nat.le_succ _),by omega⟩),hl1,hd1,id,id⟩
 refine ⟨w.heap.size+1,[{ target:=.collected w.heap.size,args:=#[] }],W1,{ target:=.fn (.func gf) lb,args:=#[.func (.yield (w.heap.size+1)) #[] #[]] },W1,gf,#[.func (.yield (w.heap.size+1)) #[] #[]] ++ lb,W1,?_,?_,fun _ _=>trivial,?_,fun _=>h1,?_⟩
 ·rw [← hW1];exact run_enterLoop_outer _ _ _ _ _
 ·simp only [resolve,hg]
  simp [go_sem]
 ·simp [invoke,go_sem,eg]
 refine (hseq (w.heap.size+1) J W1 hb1 hJ (fun X pre x A hA hx hlen=>?_) hJ0).mono ?_
 ·obtain ⟨j1,j2,j3,j4,j5⟩:=hA
  refine ⟨fn,_,assign,body,run_yield j2 (hps x),roundIn_of_wpIn hfn (hassign _ (U X) pre x A _ hx hlen j1 fun a' Wa X' hIa hsub hTa hax=>?_)⟩
  have la:=(hTa.block _ (hlt j2) id).trans j2
  have da:=(hTa.block _ (hlt j3) id).trans j3
  have xl:X' (w.heap.size+1):=hsub _ (Or.inr (Or.inr rfl))
  have xd:X' w.heap.size:=hsub _ (Or.inr (Or.inl rfl))
  refine ⟨_,run_beginRound la rfl,?_⟩
  have hT5:=touch_put (X:=X') Wa (.loop { rc .ready with state:=.busy }) xl
  have hI5:=hI X' X' pre Wa _ hIa hT5 fun q hq=>⟨Or.inl hq,by rw [World.putObj_size];exact hIb _ _ _ hIa q hq⟩
  have l5:(Wa.putObj (w.heap.size+1) (.loop { rc .ready with state:=.busy })).heap[w.heap.size+1]? = some (.loop { rc .ready with state:=.busy }):=World.putObj_heap_same (hlt la)
  refine wpIn_mono (hbody _ X' pre x a' _ hx hlen hI5 (hAx _ _ _ _ _ _ _ hax la)) ?_
  rintro e a3 W6 ⟨rfl,hI6,hs6,hk6⟩
  have l6:=(hk6 _ xl).trans l5
  refine ⟨_,_,run_endRound none l6,rfl,⟨hI X' (U X) _ W6 _ hI6 (touch_put W6 _ xl) fun q hq=>⟨Or.inl (hsub q hq),by rw [World.putObj_size];exact hIb _ _ _ hI6 q (hsub q hq)⟩,World.putObj_heap_same (hlt l6),?_,j4,j5⟩,?_,fun q hq=>?_⟩
  ·rw [World.putObj_heap_other (by omega),hk6 _ xd,World.putObj_heap_other (by omega)];exact da
  ·rw [World.putObj_size];rw [World.putObj_size] at hs6;exact Nat.le_trans hTa.size hs6
  ·have hql:q≠w.heap.size+1:=fun e=>j5 (by rw [← e];exact hq)
   rw [World.putObj_heap_other hql,hk6 q (hsub q (Or.inl hq)),World.putObj_heap_other hql]
   exact hTa.block q (hIb _ _ _ j1 q (Or.inl hq)) id
 ·rintro e W2 ⟨⟨v,rfl⟩,xs,hS,j1,j2,j3,-,-⟩
  refine ⟨none,_,run_endLoop j2 (by simp [rc]),hdone w.heap.size xs _ (Nat.le_refl _) hS (hI _ _ xs W2 _ j1 (touch_put W2 _ (Or.inr (Or.inr rfl))) fun q hq=>?_) ((World.putObj_heap_other (by omega)).trans j3)⟩
  subst hq
  exact ⟨Or.inl (Or.inr (Or.inl rfl)),by rw [World.putObj_size];exact hlt j3⟩
set_option maxRecDepth 100000 in
theorem inorder_call (w:World) (ao:Option Addr) (m c:Nat):Calls Tryz.prog 81 #[.slice ao m c] w fun e w'=>e=.returned (.func (.func 124) #[] #[bptr w.heap.size])∧w'=w.alloc (.cells #[.slice ao m c] 106):=by
 have hmf:∀ (fn:Fn) (first cap:Array Value) (w:World),(Instr.makeFunc fn first cap).run Tryz.prog w=.ok (.func fn first cap) w:=fun _ _ _ _=>rfl
 go_enter Tryz.func81,Tryz.ntmps81
 go_wp2_with fail
 go_ret
 exact ⟨rfl,rfl⟩
end Go.Proofs.YtiplgdkpnhamaaaGreatDoor
namespace Go.Proofs.YtiplgdkpnhamaaaGreatDoor.Tv
open Go.RowKit
def canD (d:DRep) (u:RTx):Bool:=canF u.rep.toNat u.seq (vecOf u.saw) (vecOf d.vis)
def stepD (d:DRep) (u:RTx):DRep:=if canD d u=true then showD d u else d
def passD (d:DRep) (us:List RTx):DRep:=us.foldl stepD d
theorem passD_snoc (d:DRep) (us:List RTx) (u:RTx):passD d (us ++ [u])=stepD (passD d us) u:=by simp [passD]
theorem passD_opn (d:DRep):∀ us,(passD d us).opn=d.opn:=by
 intro us
 induction us using snoc_ind with
 | h0=>rfl
 | h1 us u ih=>
  rw [passD_snoc]
  unfold stepD
  split
  ·exact ih
  ·exact ih
structure RecI (xq:DX) (b n i:Nat) (d:DRep) (w0:World) (p0:Nat→Own) (bR B:Nat) (L:List Wt) (tx:Wt→RTx) (X:Nat→Prop) (pre:List Wt) (W:World):Prop where
 ex:∃ p,RepIn xq W p b n i (passD d (pre.map tx))∧QW w0 p0 W p∧(∀ q,X q→p q=.other)∧p bR=.other∧∀ z,z ∈ L→p z.x.2=.held 5
 box:Blk W bR [bptr b] 45
 tr:∀ z,z ∈ L→TrIn W z.x∧z.x.2<B
 mem:∀ z,z ∈ pre→z ∈ L
 xb:∀ q,X q→B≤q∧q<W.heap.size
 lt:bR<B
 w0B:w0.heap.size≤B
 BW:B≤W.heap.size
section
variable {xq:DX} {b n i:Nat} {d:DRep} {w0:World} {p0:Nat→Own} {bR B:Nat} {L:List Wt} {tx:Wt→RTx} {X Y:Nat→Prop} {pre:List Wt} {W W2:World}
theorem RecI.stable (h:RecI xq b n i d w0 p0 bR B L tx X pre W) (hT:Touch X W W2) (hY:∀ q,Y q→(X q∨W.heap.size≤q)∧q<W2.heap.size):RecI xq b n i d w0 p0 bR B L tx Y pre W2:=by
 obtain ⟨p,h1,h2,h3,h4,h5⟩:=h.ex
 have hBW:=h.BW
 have h0B:=h.w0B
 have hlow:∀ q,q<B→W2.heap[q]? = W.heap[q]?:=fun q hq=>hT.block q (by omega) fun c=>by have:=(h.xb q c).1;omega
 refine ⟨⟨own2q p W.heap.size others,h1.move fun q hq hne=>⟨hT.block q hq fun c=>hne (h3 q c),own2q_low hq⟩,⟨?_,fun q hq e=>?_⟩,fun q hq=>?_,?_,fun z hz=>?_⟩,h.box.move (hlow _ h.lt),fun z hz=>⟨MapIn.move (h.tr z hz).1 (hlow _ (h.tr z hz).2),(h.tr z hz).2⟩,h.mem,fun q hq=>⟨?_,(hY q hq).2⟩,h.lt,h0B,Nat.le_trans hBW hT.size⟩
 ·exact ⟨hT.os.trans h2.touch.os,hT.tape.trans h2.touch.tape,hT.output.trans h2.touch.output,Nat.le_trans h2.touch.size hT.size,fun q hq hne=>(hlow q (by omega)).trans (h2.touch.block q hq hne)⟩
 ·rw [own2q_low (by omega)] at e;exact h2.stay q hq e
 ·by_cases c:q<W.heap.size
  ·rw [own2q_low c]
   rcases (hY q hq).1 with c' | c'
   ·exact h3 q c'
   ·omega
  ·rw [own2q_high (by omega)]
 ·rw [own2q_low (by have:=h.lt;omega)];exact h4
 ·rw [own2q_low (by have:=(h.tr z hz).2;omega)];exact h5 z hz
 ·rcases (hY q hq).1 with c | c
  ·exact (h.xb q c).1
  ·omega
theorem RecI.no (h:RecI xq b n i d w0 p0 bR B L tx X pre W) {z:Wt} (hz:z ∈ L) (hc:canD (passD d (pre.map tx)) (tx z)=false) (hB:Below W.heap.size W W2):RecI xq b n i d w0 p0 bR B L tx X (pre ++ [z]) W2:=by
 have a:=h.stable (Y:=X) (Touch.ofBelow hB) fun q hq=>⟨Or.inl hq,Nat.lt_of_lt_of_le (h.xb q hq).2 hB.size⟩
 obtain ⟨p,h1,h2⟩:=a.ex
 refine ⟨⟨p,?_,h2⟩,a.box,a.tr,fun y hy=>?_,a.xb,a.lt,a.w0B,a.BW⟩
 ·rw [List.map_append,List.map_singleton,passD_snoc]
  unfold stepD
  rw [hc]
  exact h1
 ·rw [List.mem_append,List.mem_singleton] at hy
  rcases hy with hy | rfl
  ·exact h.mem y hy
  ·exact hz
theorem RecI.yes (h:RecI xq b n i d w0 p0 bR B L tx X pre W) {z:Wt} (hz:z ∈ L) (hz5:(tx z).rep.toNat<5) (hc:canD (passD d (pre.map tx)) (tx z)=true) {p:Nat→Own} (h2:QW w0 p0 W p) (h3:∀ q,X q→p q=.other) (h4:p bR=.other) (h5:∀ z,z ∈ L→p z.x.2=.held 5) {p':Nat→Own} (hs:RepIn xq W2 p' b n i (showD (passD d (pre.map tx)) (tx z))) (hq:QT (fun t=>stoTag t∨t=.rep∨t=.held (tx z).rep.toNat) W p W2 p') :
  RecI xq b n i d w0 p0 bR B L tx X (pre ++ [z]) W2∧∀ q,X q→W2.heap[q]? = W.heap[q]?:=by
 have hBW:=h.BW
 have hoth:∀ q,q<W.heap.size→p q=.other→W2.heap[q]? = W.heap[q]?:=fun q hq' e=>hq.touch.block q hq' (by rw [e];rintro (c | c | c);exact c;cases c;cases c)
 have hn:QT notOther W p W2 p':=hq.mono fun u hu=>by
  rcases hu with hu | hu | hu
  ·exact sto_not hu
  ·rw [hu];simp [notOther]
  ·rw [hu];simp [notOther]
 refine ⟨⟨⟨p',?_,h2.trans (QT.qw hn),fun q c=>(hq.same q (h.xb q c).2).trans (h3 q c),(hq.same _ (by have:=h.lt;omega)).trans h4,fun y hy=>(hq.same _ (by have:=(h.tr y hy).2;omega)).trans (h5 y hy)⟩,h.box.move (hoth _ (by have:=h.lt;omega) h4),fun y hy=>⟨?_,(h.tr y hy).2⟩,fun y hy=>?_,fun q c=>⟨(h.xb q c).1,Nat.lt_of_lt_of_le (h.xb q c).2 hq.size⟩,h.lt,h.w0B,Nat.le_trans hBW hq.size⟩,fun q c=>hoth q (h.xb q c).2 (h3 q c)⟩
 ·rw [List.map_append,List.map_singleton,passD_snoc]
  unfold stepD
  rw [hc]
  exact hs
 ·exact MapIn.movet (h.tr y hy).1 hq (by rw [h5 y hy];rintro (c | c | c);exact c;cases c;injection c with c;omega)
 ·rw [List.mem_append,List.mem_singleton] at hy
  rcases hy with hy | rfl
  ·exact h.mem y hy
  ·exact hz
end
end Go.Proofs.YtiplgdkpnhamaaaGreatDoor.Tv
namespace Go.Proofs.YtiplgdkpnhamaaaGreatDoor.Tv
open Go.RowKit
attribute [local go_sem] Oper.semAt_some
def txIn (us:List RTx) (z:Wt):RTx:=(us.find? fun u=>decide (u.rep.toNat=z.x.1.rep∧u.seq=z.x.1.seq)).getD ⟨0,0,[],[]⟩
theorem txIn_ok {us:List RTx} {ys:List (Tr × Nat)} (hys:ys.map Prod.fst=us.map trOf) (hdots:us.Pairwise fun a b=>¬ (a.rep.toNat=b.rep.toNat∧a.seq=b.seq)) {z:Wt} (hz:z ∈ wtsOf ys):z.x ∈ ys∧txIn us z ∈ us∧trOf (txIn us z)=z.x.1:=by
 obtain ⟨k,hk,rfl⟩:=List.mem_iff_getElem.1 hz
 rw [wts_len] at hk
 have hlen:ys.length=us.length:=by have:=congrArg List.length hys;simpa using this
 have hku:k<us.length:=by omega
 have ex:((wtsOf ys)[k]'(by rw [wts_len];exact hk)).x=ys[k]:=by simp [wtsOf]
 have e1:ys[k].1=trOf us[k]:=by
  have:=congrArg (fun l=>l[k]?) hys
  simp only [List.getElem?_map,List.getElem?_eq_getElem hk,List.getElem?_eq_getElem hku,Option.map_some,Option.some.injEq] at this
  exact this
 refine ⟨by rw [ex];exact List.getElem_mem hk,?_⟩
 have hp:decide (us[k].rep.toNat=((wtsOf ys)[k]'(by rw [wts_len];exact hk)).x.1.rep∧us[k].seq=((wtsOf ys)[k]'(by rw [wts_len];exact hk)).x.1.seq)=true:=by
  rw [ex,e1];simp [trOf]
 have hs:(us.find? fun u=>decide (u.rep.toNat=((wtsOf ys)[k]'(by rw [wts_len];exact hk)).x.1.rep∧u.seq=((wtsOf ys)[k]'(by rw [wts_len];exact hk)).x.1.seq)).isSome:=by
  rw [List.find?_isSome];exact ⟨us[k],List.getElem_mem hku,hp⟩
 obtain ⟨u,hu⟩:=Option.isSome_iff_exists.1 hs
 have hu1:=List.find?_some hu
 have hu2:=List.mem_of_find?_eq_some hu
 have eu:txIn us ((wtsOf ys)[k]'(by rw [wts_len];exact hk))=u:=by unfold txIn;rw [hu];rfl
 rw [eu]
 refine ⟨hu2,?_⟩
 rw [ex,e1] at hu1 ⊢
 have hu3:u.rep.toNat=us[k].rep.toNat∧u.seq=us[k].seq:=of_decide_eq_true hu1
 obtain ⟨m,hm,rfl⟩:=List.mem_iff_getElem.1 hu2
 have hpw:=List.pairwise_iff_getElem.1 hdots
 by_cases c:m=k
 ·subst c;rfl
 ·by_cases c2:m<k
  ·exact absurd hu3 (hpw m k hm hku c2)
  ·exact absurd ⟨hu3.1.symm,hu3.2.symm⟩ (hpw k m hku hm (by omega))
def RecEnd (xq:DX) (w:World) (p:Nat→Own) (b n i:Nat) (d:DRep) (us:List RTx) (e:Ending) (w':World):Prop:=
 e=.returned (.int .i64 0)∧∃ (p':Nat→Own) (ys:List (Tr × Nat)) (xs:List Wt),ys.map Prod.fst=us.map trOf∧xs.Perm (wtsOf ys)∧(xs.Pairwise fun a b=>wLt b a=false)∧RepIn xq w' p' b n i (passD d (xs.map (txIn us)))∧QW w p w' p'
set_option maxRecDepth 100000 in
set_option maxHeartbeats 4000000 in
theorem receive_ok {xq:DX} {w:World} {p:Nat→Own} {b n i:Nat} {d:DRep} (h:RepIn xq w p b n i d) (us:List RTx) (hU:us.length≤50000000) (hR:∀ vs,(∀ v,v ∈ vs→v ∈ us)→HistG n (passD d vs).hs→(passD d vs).hs.length≤1100000) (t:ByteArray) (j:Nat) (vis:Vec) (hj:j<5)
  (hread:∀ W,Below w.heap.size w W→Calls Tryz.prog 79 #[.func (.func 80) #[] #[],.string t,.int .i64 n] W fun e w'=>Below W.heap.size W w'∧∃ lv,e=.returned (.tuple #[ansVal j vis lv,.int .i64 0])∧GotL W (us.map trOf) lv w')
  (hus:∀ u,u ∈ us→u.rep.toNat<5∧0≤u.seq∧u.seq≤9223372036854775807) (hsm:∀ v,v ∈ needsOf (us.map trOf)→v.small) (hdots:us.Pairwise fun a b=>¬ (a.rep.toNat=b.rep.toNat∧a.seq=b.seq))
  (hnew:∀ vs u,(∀ v,v ∈ vs→v ∈ us)→u ∈ us→HistG n (passD d vs).hs→(passD d vs).vis=visOf n (passD d vs).hs→canD (passD d vs) u=true→NewOk n (passD d vs).hs u) :
  Calls Tryz.prog 41 #[bptr b,.string t] w (RecEnd (learnX xq j vis) w p b n i d us):=by
 refine callsIn_wide.1 (?_:CallsIn Fence.wide 6 _ _ _ _ _)
 refine callsIn_of_wp_marks Tryz.func41 rfl trivial ?_ rfl
 simp only [Tryz.ntmps41,List.size_toArray,List.length_cons,List.length_nil,Nat.reduceAdd,Nat.reduceSub,Array.replicate_succ,Array.replicate_zero,List.push_toArray,List.append_toArray,List.nil_append,List.cons_append]
 refine wpIn_wide.2 ?_
 generalize hW0:w.alloc (.cells #[bptr b] 45)=W0
 have hB0:Below w.heap.size w W0:=by rw [← hW0];exact (Below.refl _ _).alloc (Nat.le_refl _) _
 have bR:Blk W0 w.heap.size [bptr b] 45:=by rw [← hW0];exact heap_alloc_new w _
 obtain ⟨sb,st,sl,tbs,mbs,hv,kn,h⟩:=h
 have h0:=h.below hB0
 obtain ⟨-,c1,-⟩:=h0.cellOf
 have r0:W0.cell? ⟨w.heap.size,0,none⟩=some (bptr b):=bR.cell 0
 have hlb:=h0.blk.blk.lt
 have HRD:=hide (hread W0 hB0)
 have hsz0:W0.heap.size=w.heap.size+1:=by rw [← hW0];simp
 have HH:=hide (⟨h,⟨hU,hR⟩,hus,hsm,hdots,hnew,hB0,bR,h0,hsz0⟩:_∧(_∧_)∧_∧_∧_∧_∧_∧_∧_∧_)
 have HW0:=hide hW0
 clear h hU hR hus hsm hdots hnew hread hB0 bR h0 hW0 hsz0
 go_upto_region 1 with (fail)
 rw [HW0.out]
 go_upto_region 2 with (go_at_call 79;refine HRD.out.mono ?_;rintro e w2 ⟨hB2,lv,rfl,hG2⟩;obtain ⟨ao,m,cp,rfl⟩:=hG2.shape;have H2:=hide (⟨hB2,hG2⟩:_∧_);have r2:=cell_later hB2 r0;have l2:w.heap.size<w2.heap.size:=World.block_lt_of_cell? w2 _ r2;clear hB2 hG2 r0)
 generalize hW3:w2.alloc (.cells #[.int .i64 j,.int .i64 vis.a,.int .i64 vis.b,.int .i64 vis.c,.int .i64 vis.d,.int .i64 vis.e,.slice ao m cp] 154)=W3
 have hB3:Below w2.heap.size w2 W3:=by rw [← hW3];exact (Below.refl _ _).alloc (Nat.le_refl _) _
 have bA:Blk W3 w2.heap.size [.int .i64 j,.int .i64 vis.a,.int .i64 vis.b,.int .i64 vis.c,.int .i64 vis.d,.int .i64 vis.e,.slice ao m cp] 154:=by rw [← hW3];exact heap_alloc_new w2 _
 obtain ⟨ys,hys,hyr,hym⟩:=H2.out.2.ex
 classical
 obtain ⟨p1,hp1⟩:∃ p1:Nat→Own,p1=own2q p w.heap.size fun q=>if ∃ y ∈ ys,y.2=q then .held 5 else .other:=⟨_,rfl⟩
 have hB03:Below w.heap.size w W3:=(HH.out.2.2.2.2.2.2.1.trans (H2.out.1.mono HH.out.2.2.2.2.2.2.1.size)).trans (hB3.mono (Nat.le_trans HH.out.2.2.2.2.2.2.1.size H2.out.1.size))
 have hP3:RepP xq W3 p1 b n i d sb st sl tbs mbs hv kn:=HH.out.1.move fun q hq _=>⟨hB03.block q hq,by rw [hp1];exact own2q_low hq⟩
 have hln:=learn_any hP3 hj vis
 have HLN:=hide hln
 have r3:=cell_later hB3 r2
 have a0:W3.cell? ⟨w2.heap.size,0,none⟩=some (.int .i64 j):=bA.cell 0
 have a1:W3.cell? ⟨w2.heap.size,1,none⟩=some (.int .i64 vis.a):=bA.cell 1
 have a2:W3.cell? ⟨w2.heap.size,2,none⟩=some (.int .i64 vis.b):=bA.cell 2
 have a3:W3.cell? ⟨w2.heap.size,3,none⟩=some (.int .i64 vis.c):=bA.cell 3
 have a4:W3.cell? ⟨w2.heap.size,4,none⟩=some (.int .i64 vis.d):=bA.cell 4
 have a5:W3.cell? ⟨w2.heap.size,5,none⟩=some (.int .i64 vis.e):=bA.cell 5
 have l3:=bA.lt
 have l3':=World.block_lt_of_cell? W3 _ r3
 have H3:=hide (⟨hB3,bA,hys,hyr,hym,hp1,hB03,hP3⟩:_∧_∧_∧_∧_∧_∧_∧_)
 clear hln hB3 bA hW3 hys hyr hym hp1 hB03 hP3 HRD HW0 r2 c1 hlb l2
 go_upto_region 5 with (go_at_call 76;refine HLN.out.mono ?_;rintro e w4 ⟨rfl,hI4,hq4⟩;refine Hid.out ?_)
 refine Lib.hid ?_
 obtain ⟨hB3,bA,hys,hyr,hym,hp1,hB03,hP3⟩:=H3.out
 have hsW0:W0.heap.size=w.heap.size+1:=HH.out.2.2.2.2.2.2.2.2.2
 have hs2:W0.heap.size≤w2.heap.size:=H2.out.1.size
 have hs3:=hB3.size
 have hp1h:∀ q,w.heap.size≤q→p1 q=if ∃ y ∈ ys,y.2=q then .held 5 else .other:=fun q hq=>by rw [hp1];exact own2q_high hq
 have hk4:∀ q,w.heap.size≤q→q<W3.heap.size→w4.heap[q]? = W3.heap[q]?:=fun q hq hq3=>hq4.touch.block q hq3 (by rw [hp1h q hq];split <;> simp)
 have hyl:∀ y,y ∈ ys→W0.heap.size≤y.2∧y.2<w2.heap.size:=fun y hy=>⟨(hym y hy).1,(hym y hy).2.lt⟩
 have pR:p1 w.heap.size=.other:=by
  rw [hp1h _ (Nat.le_refl _),if_neg]
  rintro ⟨y,hy,e⟩
  have:=(hyl y hy).1;omega
 have pA:p1 w2.heap.size=.other:=by
  rw [hp1h _ (by omega),if_neg]
  rintro ⟨y,hy,e⟩
  have:=(hyl y hy).2;omega
 have bA4:=bA.move (hk4 _ (by omega) bA.lt)
 have bR4:Blk w4 w.heap.size [bptr b] 45:=((HH.out.2.2.2.2.2.2.2.1.below H2.out.1).below hB3).move (hk4 _ (Nat.le_refl _) (by omega))
 have hr4:w4.ownsRow 0 139 8 (.slice ao m cp) ys.length (ys.flatMap trCells):=by
  refine own_move (ownsRow_below (ownsRow_low hyr (Nat.zero_le _)) hB3) fun q hq=>hk4 q ?_ ?_
  ·have:=(hyr.lt q hq).1;omega
  ·have:=(hyr.lt q hq).2;omega
 have ht4:∀ y,y ∈ ys→TrIn w4 y∧p1 y.2=.held 5:=fun y hy=>by
  have h1:=hyl y hy
  refine ⟨MapIn.move (MapIn.move (hym y hy).2 (hB3.block _ h1.2)) (hk4 _ (by omega) (by omega)),?_⟩
  rw [hp1h _ (by omega),if_pos ⟨y,hy,rfl⟩]
 have hmy:m=ys.length:=by
  obtain ⟨a',c',e',-⟩:=Row.shape hr4
  cases e';rfl
 subst hmy
 have a6:w4.cell? ⟨w2.heap.size,6,none⟩=some (.slice ao ys.length cp):=bA4.cell 6
 have l4:=bA4.lt
 have hqw:QW w p w4 p1:=by
  refine ⟨?_,fun q hq e=>by rw [hp1,own2q_low hq] at e;exact e⟩
  refine (Touch.ofBelow hB03).trans (hq4.touch.mono fun q hq e=>?_)
  by_cases c:q<w.heap.size
  ·left
   rw [hp1,own2q_low c] at e
   rw [e];simp
  ·exact Or.inr (by omega)
 have hio:=inorder_call w4 ao ys.length cp
 have HIO:=hide hio
 have H4:=hide (⟨hI4,hys,hyl,pR,bR4,hr4,ht4,hqw,hs2⟩:_∧_∧_∧_∧_∧_∧_∧_∧_)
 have l4w:w.heap.size<w4.heap.size:=bR4.lt
 clear hI4 hq4 hB3 bA hys hyr hym hp1 hB03 hP3 hp1h hk4 hyl pR pA bA4 bR4 hr4 ht4 hqw hio H3 a0 a1 a2 a3 a4 a5 r3 l3 l3' HLN hs3 hs2
 go_wp2_with (go_at_call 81;refine HIO.out.mono ?_;rintro e w5 ⟨rfl,rfl⟩)
 obtain ⟨hI4,hys,hyl,pR,bR4,hr4,ht4,hqw,hs2⟩:=H4.out
 obtain ⟨-,⟨hU,hR⟩,hus,hsm,hdots,hnew,-⟩:=HH.out
 have hlen:ys.length=us.length:=by have:=congrArg List.length hys;simpa using this
 have hf:∀ x,x ∈ ys→x.1.rep<5∧0≤x.1.seq∧x.1.seq≤9223372036854775807:=fun x hx=>by
  have h1:x.1 ∈ us.map trOf:=by rw [← hys];exact List.mem_map.2 ⟨x,hx,rfl⟩
  obtain ⟨u,hu,e⟩:=List.mem_map.1 h1
  rw [← e];exact hus u hu
 have hzt:∀ z,z ∈ wtsOf ys→(z.x ∈ ys∧txIn us z ∈ us∧trOf (txIn us z)=z.x.1):=fun z hz=>txIn_ok hys hdots hz
 have hB5:Below w4.heap.size w4 (w4.alloc (.cells #[.slice ao ys.length cp] 106)):=(Below.refl _ _).alloc (Nat.le_refl _) _
 have hs5:(w4.alloc (.cells #[.slice ao ys.length cp] 106)).heap.size=w4.heap.size+1:=by simp
 have b5:Blk (w4.alloc (.cells #[.slice ao ys.length cp] 106)) w4.heap.size [.slice ao ys.length cp] 106:=heap_alloc_new w4 _
 generalize hW5:w4.alloc (.cells #[.slice ao ys.length cp] 106)=W5 at *
 have hseq:=inorder_seq 5 w4.heap.size 0 ys (.slice ao ys.length cp) W5 (b5.cell 0) (ownsRow_below hr4 hB5) (by omega) hf (by rw [hys];exact hsm)
 have h0:RecI (learnX xq j vis) b n i d w p w.heap.size W5.heap.size (wtsOf ys) (txIn us) (fun _=>False) [] W5:=by
  refine ⟨⟨p1,hI4.move fun q hq _=>⟨hB5.block q hq,rfl⟩,⟨hqw.touch.trans (Touch.ofBelow hB5),hqw.stay⟩,fun q hq=>hq.elim,pR,fun z hz=>(ht4 _ (hzt z hz).1).2⟩,bR4.below hB5,fun z hz=>⟨MapIn.move (ht4 _ (hzt z hz).1).1 (hB5.block _ (ht4 _ (hzt z hz).1).1.lt),?_⟩,fun z hz=>by simp at hz,fun q hq=>hq.elim,by omega,by omega,Nat.le_refl _⟩
  have:=(ht4 _ (hzt z hz).1).1.lt
  omega
 have HLEN:=hide hlen
 clear hlen hs5
 have hmo:Tryz.prog.follows .mixedOrders=true:=by kernel_rfl
 generalize Value.tuple #[ansVal (↑j) vis (Value.slice ao ys.length cp),Value.int IntKind.i64 0]=u8
 generalize ansVal (↑j) vis (Value.slice ao ys.length cp)=u15
 generalize Value.agg #[Value.int IntKind.i64 ↑j,Value.int IntKind.i64 vis.a,Value.int IntKind.i64 vis.b,Value.int IntKind.i64 vis.c,Value.int IntKind.i64 vis.d,Value.int IntKind.i64 vis.e]=u22
 have hf1:Fence.wide.fn 57:=trivial
 have hf2:Fence.wide.fn 82:=trivial
 have hf3:Fence.wide.fn 66:=trivial
 refine (wpIn_wide (n:=6)).1 ?_
 refine range_x (n:=6) (by omega) (gf:=124) (lb:=#[bptr w4.heap.size]) rfl (fun _ _=>rfl) hseq (Below.refl _ _) (fun _=>rfl) (RecI (learnX xq j vis) b n i d w p w.heap.size W5.heap.size (wtsOf ys) (txIn us)) (fun X Y pre W1 W2 h hT hY=>RecI.stable h hT hY) (fun X pre W h q hq=>(RecI.xb h q hq).2) h0
  (fun x a' W X=>∃ Bx,X Bx∧Blk W Bx (trCells x.x) 139∧a'={ tmps:=#[bptr b,Value.string t,Value.pointer (some { block:=w.heap.size,off:=0 }),undef,Value.int IntKind.i64 0,Value.pointer (some { block:=w2.heap.size,off:=0 }),Value.int IntKind.i64 0,Value.pointer (some { block:=Bx,off:=0 }),u8,Value.string t,bptr b,Value.pointer (some { block:=b,off:=0 }),Value.pointer (some { block:=b,off:=1 }),Value.int IntKind.i64 ↑n,u8,u15,Value.int IntKind.i64 0,Value.int IntKind.i64 0,Value.bool false,undef,bptr b,Value.pointer (some { block:=w2.heap.size,off:=0 }),u22,Value.tuple #[],Value.pointer (some { block:=w2.heap.size,off:=6 }),Value.slice ao ys.length cp,Value.func (Fn.func 124) #[] #[bptr w4.heap.size],.agg #[.int .i64 x.x.1.rep,.int .i64 x.x.1.seq,.int .i64 x.x.1.saw.a,.int .i64 x.x.1.saw.b,.int .i64 x.x.1.saw.c,.int .i64 x.x.1.saw.d,.int .i64 x.x.1.saw.e,.map (some x.x.2)],undef,undef,undef,undef,undef,undef,undef,undef,undef,undef],defers:=[] })
  ?hAx ?assign ?body ?done
 case hAx=>
  rintro x a' W X l r o ⟨Bx,h1,h2,h3⟩ hl
  refine ⟨Bx,h1,h2.move (World.putObj_heap_other fun e=>?_),h3⟩
  rw [← e] at hl
  rw [Blk,hl] at h2
  cases h2
 case assign=>
  rintro l X pre ⟨⟨⟨r,sq,⟨s0,s1,s2,s3,s4⟩,wm⟩,mb⟩,nd⟩ W K hx hlen' hI hK
  gi_wp2
  refine hK _ _ (fun q=>X q∨q=W.heap.size) (hI.stable (Touch.ofBelow ((Below.refl _ _).alloc (Nat.le_refl _) _)) fun q hq=>?_) (fun q hq=>Or.inl hq) ((Touch.refl _ _).alloc _) ⟨W.heap.size,Or.inr rfl,heap_alloc_new W _,rfl⟩
  rcases hq with hq | rfl
  ·exact ⟨Or.inl hq,by have:=(hI.xb q hq).2;simp;omega⟩
  ·exact ⟨Or.inr (Nat.le_refl _),by simp⟩
 case body=>
  rintro l X pre ⟨⟨⟨r,sq,⟨s0,s1,s2,s3,s4⟩,wm⟩,mb⟩,nd⟩ a' W hx hlen' hI ⟨Bx,hXB,bB,rfl⟩
  obtain ⟨p2,hRI,h2,h3,h4,h5⟩:=hI.ex
  obtain ⟨sb2,st2,sl2,tbs2,mbs2,hv2,kn2,hRP⟩:=hRI
  obtain ⟨-,-,c2⟩:=hRP.cellOf
  have r0:W.cell? ⟨w.heap.size,0,none⟩=some (bptr b):=hI.box.cell 0
  obtain ⟨-,hum,htr⟩:=hzt _ hx
  obtain ⟨u,hu⟩:∃ u,txIn us ⟨(⟨r,sq,⟨s0,s1,s2,s3,s4⟩,wm⟩,mb),nd⟩=u:=⟨_,rfl⟩
  rw [hu] at hum htr
  have er:u.rep.toNat=r:=congrArg Tr.rep htr
  have es:u.seq=sq:=congrArg Tr.seq htr
  have ew:vecOf u.saw=⟨s0,s1,s2,s3,s4⟩:=congrArg Tr.saw htr
  obtain ⟨d2,hd2⟩:∃ d2,passD d (pre.map (txIn us))=d2:=⟨_,rfl⟩
  have hl2:d2.hs.length≤1100000:=by
   rw [← hd2]
   exact hR (pre.map (txIn us)) (fun v hv'=>by
    obtain ⟨z,hz,rfl⟩:=List.mem_map.1 hv'
    exact (hzt z (hI.mem z hz)).2.1) hRP.ok.hist
  rw [hd2] at hRP
  have hr5:r<5:=by rw [← er];exact (hus u hum).1
  have hv64:=hRP.vis64 hl2 r
  obtain ⟨v,hvv⟩:∃ v,vecOf d2.vis=v:=⟨_,rfl⟩
  have hvc:=fun W' (hB:Below W.heap.size W W')=>(hRP.below hB).visCall
  rw [hvv] at hvc hv64
  have hcb:canD d2 u=canF r sq ⟨s0,s1,s2,s3,s4⟩ v:=by unfold canD;rw [er,es,ew,hvv]
  have hlX:Bx<W.heap.size:=bB.lt
  have HV:Hid (CallsIn (Fence.wide.inRound l) 3 Tryz.prog 57 #[bptr sb2] W.drew fun e w'=>e=.returned v.val∧(w'.cell? ⟨Bx,0,none⟩=some (.int .i64 r)∧w'.cell? ⟨Bx,1,none⟩=some (.int .i64 sq)∧w'.cell? ⟨Bx,2,none⟩=some (.int .i64 s0)∧w'.cell? ⟨Bx,3,none⟩=some (.int .i64 s1)∧w'.cell? ⟨Bx,4,none⟩=some (.int .i64 s2)∧w'.cell? ⟨Bx,5,none⟩=some (.int .i64 s3)∧w'.cell? ⟨Bx,6,none⟩=some (.int .i64 s4)∧w'.cell? ⟨Bx,7,none⟩=some (.map (some mb))∧Bx<w'.heap.size)∧Hid (Below W.heap.size W w')):=
   CallsIn.inRound l ((callsIn_wide.2 (hvc W.drew (Below.refl _ _).drew)).mono (by
    rintro e w' ⟨rfl,hB⟩
    have hB':Below W.heap.size W w':=(Below.refl _ _).drew.trans hB
    have b':=bB.below hB'
    exact ⟨rfl,⟨b'.cell 0,b'.cell 1,b'.cell 2,b'.cell 3,b'.cell 4,b'.cell 5,b'.cell 6,b'.cell 7,b'.lt⟩,hB'⟩))
  have HC:Hid (∀ W',Below W.heap.size W W'→CallsIn (Fence.wide.inRound l) 3 Tryz.prog 82 #[.agg #[.int .i64 r,.int .i64 sq,.int .i64 s0,.int .i64 s1,.int .i64 s2,.int .i64 s3,.int .i64 s4,.map (some mb)],v.val] W' fun e w'=>e=.returned (.bool (canF r sq ⟨s0,s1,s2,s3,s4⟩ v))∧Hid (Below W'.heap.size W' w')):=fun W' _=>
   CallsIn.inRound l (callsIn_wide.2 (can_follow W' r sq ⟨s0,s1,s2,s3,s4⟩ v (.map (some mb)) hr5 (by omega) (by omega)))
  have x0:W.cell? ⟨Bx,0,none⟩=some (.int .i64 r):=bB.cell 0
  have x1:W.cell? ⟨Bx,1,none⟩=some (.int .i64 sq):=bB.cell 1
  have x2:W.cell? ⟨Bx,2,none⟩=some (.int .i64 s0):=bB.cell 2
  have x3:W.cell? ⟨Bx,3,none⟩=some (.int .i64 s1):=bB.cell 3
  have x4:W.cell? ⟨Bx,4,none⟩=some (.int .i64 s2):=bB.cell 4
  have x5:W.cell? ⟨Bx,5,none⟩=some (.int .i64 s3):=bB.cell 5
  have x6:W.cell? ⟨Bx,6,none⟩=some (.int .i64 s4):=bB.cell 6
  have x7:W.cell? ⟨Bx,7,none⟩=some (.map (some mb)):=bB.cell 7
  have hlb:=hRP.blk.blk.lt
  have hlR:=hI.box.lt
  have H7:=hide (⟨hI,bB,hRP,h2,h3,h4,h5,hu,hum,htr,er,es,ew,hd2,hl2,hcb,hx⟩:_∧_∧_∧_∧_∧_∧_∧_∧_∧_∧_∧_∧_∧_∧_∧_∧_)
  obtain ⟨cb,hcbv⟩:∃ cb,canF r sq ⟨s0,s1,s2,s3,s4⟩ v=cb:=⟨_,rfl⟩
  rw [hcbv] at HC
  have H8:=hide hcbv
  clear hI bB hRP h2 h3 h4 h5 hu hum htr er es ew hd2 hl2 hcb hcbv hvc hvv hv64 hr5 hlen' hx
  gi_wp2
  gi_region_with_o (first | (gi_at_call 57;refine HV.out.mono ?_;rintro e w6 ⟨rfl,⟨z0,z1,z2,z3,z4,z5,z6,z7,z8⟩,hB6⟩) | (gi_at_call 82;refine (HC.out _ hB6.out).mono ?_;rintro e w7 ⟨rfl,hB7⟩))
  all_goals
   have hBB:Below W.heap.size W w7:=hB6.out.trans (hB7.out.mono hB6.out.size)
   obtain ⟨hI,bB,hRP,h2,h3,h4,h5,hu,hum,htr,er,es,ew,hd2,hl2,hcb,hx⟩:=H7.out
   rw [H8.out] at hcb
   have r7:=cell_later hBB r0
   have b7:=bB.below hBB
   have y0:w7.cell? ⟨Bx,0,none⟩=some (.int .i64 r):=b7.cell 0
   have y1:w7.cell? ⟨Bx,1,none⟩=some (.int .i64 sq):=b7.cell 1
   have y2:w7.cell? ⟨Bx,2,none⟩=some (.int .i64 s0):=b7.cell 2
   have y3:w7.cell? ⟨Bx,3,none⟩=some (.int .i64 s1):=b7.cell 3
   have y4:w7.cell? ⟨Bx,4,none⟩=some (.int .i64 s2):=b7.cell 4
   have y5:w7.cell? ⟨Bx,5,none⟩=some (.int .i64 s3):=b7.cell 5
   have y6:w7.cell? ⟨Bx,6,none⟩=some (.int .i64 s4):=b7.cell 6
   have y7:w7.cell? ⟨Bx,7,none⟩=some (.map (some mb)):=b7.cell 7
   have hlx7:=b7.lt
   have hlr7:=World.block_lt_of_cell? w7 _ r7
   have HBB:=hide hBB
   cases cb with
   | false=>
    have hno:RecI (learnX xq j vis) b n i d w p w.heap.size W5.heap.size (wtsOf ys) (txIn us) X (pre ++ [⟨(⟨r,sq,⟨s0,s1,s2,s3,s4⟩,wm⟩,mb),nd⟩]) w7:=hI.no hx (by rw [hd2,hu];exact hcb) hBB
    have HNO:=hide (⟨hno,fun q hq=>hBB.block q (hI.xb q hq).2⟩:_∧∀ q,X q→w7.heap[q]? = W.heap[q]?)
    clear hI bB hRP h2 h3 h4 h5 hu hum htr er es ew hd2 hl2 hcb hx hno hBB b7 hB6 hB7 z0 z1 z2 z3 z4 z5 z6 z7 z8 x0 x1 x2 x3 x4 x5 x6 x7 r0 c2
    gi_wp2
    exact ⟨HNO.out.1,HBB.out.size,HNO.out.2⟩
   | true=>
    have hTr:=(hI.tr _ hx).1
    have hnk:NewOk n d2.hs u:=by
     have a:=hnew (pre.map (txIn us)) u (fun v hv'=>by
      obtain ⟨z,hz,rfl⟩:=List.mem_map.1 hv'
      exact (hzt z (hI.mem z hz)).2.1) hum
     rw [hd2] at a
     exact a hRP.ok.hist hRP.ok.vis hcb
    have hsh:=show_any (u:=u) (mb:=mb) (hRP.below hBB) hl2 hnk (by rw [htr];exact MapIn.move hTr (hBB.block _ hTr.lt)) (h5 _ hx)
    rw [er,es,ew] at hsh
    have HSH:Hid (CallsIn (Fence.wide.inRound l) 3 Tryz.prog 66 _ w7 _):=CallsIn.inRound l (callsIn_wide.2 hsh)
    clear hsh hnk hTr bB hRP b7 hB6 hB7 z0 z1 z2 z3 z4 z5 z6 z7 z8 x0 x1 x2 x3 x4 x5 x6 x7 r0 c2
    have H9:=hide (⟨hI,h2,h3,h4,h5,hu,er,hd2,hcb,hx⟩:_∧_∧_∧_∧_∧_∧_∧_∧_∧_)
    clear hI h2 h3 h4 h5 hu er hd2 hcb hx hum htr es ew hl2 hBB
    gi_wp2_with (gi_at_call 66;refine HSH.out.mono ?_;rintro e w8 ⟨rfl,p8,hI8,hq8⟩;have HS8:=hide (⟨hI8,hq8⟩:_∧_);clear hI8 hq8)
    obtain ⟨hI,h2,h3,h4,h5,hu,er,hd2,hcb,hx⟩:=H9.out
    obtain ⟨hI8,hq8⟩:=HS8.out
    have hBB:=HBB.out
    have hI7:=hI.stable (Y:=X) (Touch.ofBelow hBB) fun q hq=>⟨Or.inl hq,Nat.lt_of_lt_of_le (hI.xb q hq).2 hBB.size⟩
    have hy:=RecI.yes hI7 (W2:=w8) (p:=p2) (p':=p8) hx (by rw [hu];exact (hus u (hu ▸ (hzt _ hx).2.1)).1) (by rw [hd2,hu];exact hcb) ⟨h2.touch.trans (Touch.ofBelow hBB),h2.stay⟩ h3 h4 h5 (by rw [hd2,hu];exact hI8) (by rw [hu,er];exact hq8)
    exact ⟨hy.1,Nat.le_trans hBB.size hq8.size,fun q hq=>(hy.2 q hq).trans (hBB.block q (hI.xb q hq).2)⟩
 case done=>
  rintro D xs W hD ⟨hperm,hsrt⟩ hI hK
  have H9:=hide (⟨hperm,hsrt,hI⟩:_∧_∧_)
  clear hperm hsrt hI
  go_wp2_with fail
  refine ⟨by simp,.inl ⟨_,_,rfl,run_takeDeferred hK,?_⟩⟩
  obtain ⟨hperm,hsrt,hI⟩:=H9.out
  obtain ⟨p9,g1,g2,-⟩:=(hI.stable (Y:=fun _=>False) (touch_put (X:=fun q=>q=D) W (.deferred none) rfl) fun q hq=>hq.elim).ex
  exact ⟨_,results_tmp rfl _ _ _,rfl,p9,ys,xs,hys,hperm,hsrt,g1,g2⟩
end Go.Proofs.YtiplgdkpnhamaaaGreatDoor.Tv
namespace Go.Proofs.YtiplgdkpnhamaaaGreatDoor
open Go.RowKit Go.Sort
set_option maxRecDepth 100000 in
set_option maxHeartbeats 2000000 in
theorem search_cov (w:World) (Bv Bl:Nat) (n:Nat) (pr:Nat→Bool) (hn:n≤100000000) (hf:∀ W i,Below w.heap.size w W→i<n→Calls Tryz.prog 168 #[.int .i64 i,bptr Bv,bptr Bl] W fun e w'=>e=.returned (.bool (pr i))∧Below W.heap.size W w') (k:Nat) (hk:k≤n) (hlo:∀ i,i<k→pr i=false) (hhi:∀ i,k≤i→i<n→pr i=true) :
  Calls Tryz.prog 167 #[.int .i64 n,.func (.func 168) #[] #[bptr Bv,bptr Bl]] w fun e w'=>e=.returned (.int .i64 k)∧Below w.heap.size w w':=by
 have HF:=hide hf
 have HK:=hide (⟨hk,hlo,hhi⟩:_∧_∧_)
 clear hf hk hlo hhi
 go_enter Tryz.func167,Tryz.ntmps167
 go_wp2
 go_loopw [5,6] (fun lv hv wr=>∃ lo hi:Nat,lo≤hi∧hi≤n∧lv=.int .i64 lo∧hv=.int .i64 hi∧Hid (lo≤k∧k≤hi∧Below w.heap.size w wr)) (fun lv hv _=>(intOf hv).toNat - (intOf lv).toNat)
 case atStart=>exact ⟨0,n,Nat.zero_le _,Nat.le_refl _,rfl,rfl,Nat.zero_le _,HK.out.1,Below.refl _ _⟩
 case round=>
  obtain ⟨lo,hi,hlh,hhn,rfl,rfl,HR⟩:=hrel
  by_cases hlt:lo<hi
  ·obtain ⟨m,hm⟩:∃ m,(lo+hi) / 2=m:=⟨_,rfl⟩
   have hm1:lo≤m:=by omega
   have hm2:m<hi:=by omega
   go_upto_region 3 with (fail)
   go_cut [7] (fun mv wc=>mv=.int .i64 m∧wc=wr)
   case first=>
    go_wp2_with fail
    go_meet
    exact ⟨congrArg _ (by omega),rfl⟩
   case rest=>
    obtain ⟨rfl,rfl⟩:=hcut
    have hc:=HF.out wc m HR.out.2.2 (by omega)
    cases hp:pr m with
    | false=>
     rw [hp] at hc
     have HC:=hide hc
     have HP:=hide hp
     clear hc hp hm
     go_wp2_with (go_at_call 168;refine HC.out.mono ?_;rintro e w1 ⟨rfl,hB1⟩;have HB1:=hide hB1;clear hB1)
     refine ⟨⟨m+1,hi,by omega,hhn,by simp,rfl,?_,HR.out.2.1,HR.out.2.2.trans (HB1.out.mono HR.out.2.2.size)⟩,by simp only [intOf];omega⟩
     by_cases c:m+1≤k
     ·exact c
     ·have:=HK.out.2.2 m (by omega) (by omega);rw [HP.out] at this;cases this
    | true=>
     rw [hp] at hc
     have HC:=hide hc
     have HP:=hide hp
     clear hc hp hm
     go_wp2_with (go_at_call 168;refine HC.out.mono ?_;rintro e w1 ⟨rfl,hB1⟩;have HB1:=hide hB1;clear hB1)
     refine ⟨⟨lo,m,hm1,by omega,rfl,rfl,HR.out.1,?_,HR.out.2.2.trans (HB1.out.mono HR.out.2.2.size)⟩,by simp only [intOf];omega⟩
     by_cases c:k≤m
     ·exact c
     ·have:=HK.out.2.1 m (by omega);rw [HP.out] at this;cases this
  ·have he:lo=k:=by have:=HR.out.1;have:=HR.out.2.1;omega
   subst he
   go_wp2_with fail
   go_ret
   exact ⟨rfl,HR.out.2.2⟩
set_option maxRecDepth 100000 in
set_option maxHeartbeats 2000000 in
theorem covers_at (w:World) (Bv Bl base:Nat) (v:Vec) (ys:List (Tr × Nat)) (lv:Value) (bv:Blk w Bv v.cells 104) (bl:Blk w Bl [lv] 106) (hrow:w.ownsRow base 139 8 lv ys.length (ys.flatMap trCells)) (hl:ys.length≤100000000) (i:Nat) (hi:i<ys.length) (h5:ys[i].1.rep<5) :
  Calls Tryz.prog 168 #[.int .i64 i,bptr Bv,bptr Bl] w fun e w'=>e=.returned (.bool (!v.covers ys[i].1.dot))∧Below w.heap.size w w':=by
 obtain ⟨g,cap,rfl,-,-,hg,hc,-⟩:=Row.pos (ownsRow_low hrow (Nat.zero_le _)) (by omega)
 have cx:=fun (j:Nat) (hj:j<8)=>(hc (i * 8+j) (by omega)).trans (flat_get trCells 8 (fun _=>rfl) _ i j hi hj)
 have y0:=Bel.cell (show w.cell? ⟨g,i * 8,none⟩=some (.int .i64 ys[i].1.rep) from cx 0 (by omega))
 have y1:=Bel.cell (show w.cell? ⟨g,i * 8+1,none⟩=some (.int .i64 ys[i].1.seq) from cx 1 (by omega))
 have z0:=Bel.cell (show w.cell? ⟨Bv,0,none⟩=some (.int .i64 v.a) from bv.cell 0)
 have z1:=Bel.cell (show w.cell? ⟨Bv,1,none⟩=some (.int .i64 v.b) from bv.cell 1)
 have z2:=Bel.cell (show w.cell? ⟨Bv,2,none⟩=some (.int .i64 v.c) from bv.cell 2)
 have z3:=Bel.cell (show w.cell? ⟨Bv,3,none⟩=some (.int .i64 v.d) from bv.cell 3)
 have z4:=Bel.cell (show w.cell? ⟨Bv,4,none⟩=some (.int .i64 v.e) from bv.cell 4)
 have l0:=Bel.cell (show w.cell? ⟨Bl,0,none⟩=some (.slice (some ⟨g,0,none⟩) ys.length cap) from bl.cell 0)
 have hcv:∀ f:Fam (Bel w),Calls Tryz.prog 169 #[v.val,.agg #[.int .i64 ys[i].1.rep,.int .i64 ys[i].1.seq]] f.w fun e w''=>e=.returned (.bool (v.covers ys[i].1.dot))∧∃ g:Fam (Bel w),w''=g.w:=fun f=>Bel.call f (covers_any f.w v ys[i].1.dot (by show (0:Int)≤(ys[i].1.rep:Nat);omega) (by show ((ys[i].1.rep:Nat):Int)<5;omega))
 generalize v.covers ys[i].1.dot=cv at *
 generalize ys[i].1.rep=r at *
 generalize ys[i].1.seq=s at *
 have HCV:=hide hcv
 obtain ⟨n,hn⟩:∃ n,ys.length=n:=⟨_,rfl⟩
 rw [hn] at l0
 have hi':i<n:=by omega
 have hl':n≤100000000:=by omega
 clear hcv cx hc bv bl hrow hi hl hn
 go_enter Tryz.func168,Tryz.ntmps168
 go_upto_region 1 with (fail)
 refine region_fam (Bel w) (by kernel_rfl) (by kernel_rfl) (Below.refl _ _).drew ?_
 repeat (go_big_quiet_step (first | (go_at_call 169;exact HCV.out _)))
 refine wpQuiet_nil ?_
 intro _ hw'
 obtain ⟨f1,rfl⟩:=hw'
 go_wp2_with fail
 go_ret
 exact ⟨rfl,f1.ok⟩
set_option maxRecDepth 100000 in
set_option maxHeartbeats 2000000 in
theorem covered_any (w:World) (base:Nat) (v:Vec) (ys:List (Tr × Nat)) (lv:Value) (hrow:w.ownsRow base 139 8 lv ys.length (ys.flatMap trCells)) (hl:ys.length≤100000000) (h5:∀ y,y ∈ ys→y.1.rep<5) (k:Nat) (hk:k≤ys.length) (hlo:∀ i (hi:i<ys.length),i<k→v.covers ys[i].1.dot=true) (hhi:∀ i (hi:i<ys.length),k≤i→v.covers ys[i].1.dot=false) :
  Calls Tryz.prog 121 #[lv,v.val] w fun e w'=>e=.returned (.int .i64 k)∧Below w.heap.size w w':=by
 have hmf:∀ (fn:Fn) (first cap:Array Value) (w:World),(Instr.makeFunc fn first cap).run Tryz.prog w=.ok (.func fn first cap) w:=fun _ _ _ _=>rfl
 obtain ⟨ao,cap,rfl,-⟩:=Row.shape (ownsRow_low hrow (Nat.zero_le _))
 generalize hW1:(w.alloc (.cells #[.slice ao ys.length cap] 106)).alloc (.cells #[.int .i64 v.a,.int .i64 v.b,.int .i64 v.c,.int .i64 v.d,.int .i64 v.e] 104)=W1
 have hB1:Below w.heap.size w W1:=by rw [← hW1];exact ((Below.refl _ _).alloc (Nat.le_refl _) _).alloc (by simp) _
 have bl:Blk W1 w.heap.size [.slice ao ys.length cap] 106:=by rw [← hW1];exact Blk.alloc (heap_alloc_new w _) _
 have bv:Blk W1 (w.heap.size+1) v.cells 104:=by
  rw [← hW1,show w.heap.size+1=(w.alloc (.cells #[.slice ao ys.length cap] 106)).heap.size by simp];exact heap_alloc_new _ _
 have hr1:=ownsRow_below hrow hB1
 have hs:=search_cov W1 (w.heap.size+1) w.heap.size ys.length (fun i=>if h:i<ys.length then !v.covers ys[i].1.dot else true) hl (fun W i hB hi=>by
  have a:=covers_at W (w.heap.size+1) w.heap.size base v ys _ (bv.below hB) (bl.below hB) (ownsRow_below hr1 hB) hl i hi (h5 _ (List.getElem_mem hi))
  simp only [hi,dif_pos]
  exact a) k hk (fun i hi=>by
  have h2:i<ys.length:=by omega
  simp only [h2,dif_pos,hlo i h2 hi,Bool.not_true]) (fun i h1 h2=>by simp only [h2,dif_pos,hhi i h2 h1,Bool.not_false])
 have l0:W1.cell? ⟨w.heap.size,0,none⟩=some (.slice ao ys.length cap):=bl.cell 0
 have hl0:=bl.lt
 have HS:=hide hs
 have HB1:=hide hB1
 have HW1:=hide hW1
 clear hs hB1 hW1 bl bv hr1 hrow hlo hhi hk h5
 go_enter Tryz.func121,Tryz.ntmps121
 go_upto_region 1 with (fail)
 rw [HW1.out]
 go_wp2_with (go_at_call 167;refine HS.out.mono ?_;rintro e w2 ⟨rfl,hB2⟩;have HB2:=hide hB2;clear hB2)
 go_ret
 exact ⟨rfl,HB1.out.trans (HB2.out.mono HB1.out.size)⟩
end Go.Proofs.YtiplgdkpnhamaaaGreatDoor
