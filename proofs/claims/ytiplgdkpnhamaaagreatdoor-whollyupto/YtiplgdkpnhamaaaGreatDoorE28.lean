/- The texts U2, U3, U4, U5, U6, U7, U8, joined. -/
import Derived.Test.YtiplgdkpnhamaaaGreatDoorE09
import Derived.Test.YtiplgdkpnhamaaaGreatDoorE05
import Derived.Test.YtiplgdkpnhamaaaGreatDoorE26
import Derived.Test.YtiplgdkpnhamaaaGreatDoorE27
import Derived.Lib.AppendIntMem
import Derived.Lib.OthersKept
import Derived.Lib.Hide
import Derived.Laws.IdiomStrings
import Derived.OwnWalk
import Derived.BigCall
import Derived.Lib.AppendStr
import Derived.Laws.Bits64b
namespace Go.Proofs.YtiplgdkpnhamaaaGreatDoor
open Go.RowKit
theorem info_byte:(Tryz.prog.info? 5).map (fun i=>(i.zero,i.size,i.bytes))=some (some (.int .u8 0),1,1):=by kernel_rfl
abbrev PowTab (B:Nat) (w:World):Prop:=Lib.TabBelow Tryz.prog B w "internal/strconv.uint64pow10" .u64 Lib.pow10Tab
structure WrSt (B:Nat) (w:World) (wb n:Nat) (xs:List UInt8) (sv:Value):Prop where
 blk:Blk w wb [.int .i64 n,sv] 193
 hB:B ≤ wb
 own:w.ownsRow B 5 1 sv xs.length (Lib.byteCells xs)
def WrIn (B:Nat) (w:World) (wb n:Nat) (xs:List UInt8):Prop:=∃ sv,WrSt B w wb n xs sv
def numT (k:Int):List UInt8:=Lib.itoa k ++ [32]
abbrev Keeps (wb:Nat) (w w':World):Prop:=Lib.OthersKept 5 (some wb) w w'
theorem own_bytes {w:World} {B:Nat} {v:Value} {n:Nat} {xs:List Value} (h:w.ownsRow B 5 1 v n xs):∀ g,v.ownBlock=some g → ∃ c fz,w.heap[g]? = some (.cells c 5 fz):=by
 rcases h.2 with ⟨e,-⟩ | ⟨g,cap,cur,rfl,-,hg,-⟩
 ·rw [e]; intro g hg; simp [Value.ownBlock] at hg
 ·intro g' hg'
  have:g=g':=by simpa [Value.ownBlock] using hg'
  subst this
  exact ⟨_,_,hg⟩
theorem own_move {w w':World} {B:Nat} {e:TypeId} {size:Nat} {v:Value} {n:Nat} {xs:List Value} (h:w.ownsRow B e size v n xs) (hm:∀ g,v.ownBlock=some g → w'.heap[g]? = w.heap[g]?):w'.ownsRow B e size v n xs:=by
 obtain ⟨h1,h2⟩:=h
 refine ⟨h1,?_⟩
 rcases h2 with a | ⟨g,cap,cur,rfl,a1,a2,a3⟩
 ·exact Or.inl a
 ·exact Or.inr ⟨g,cap,cur,rfl,a1,(hm g rfl).trans a2,a3⟩
theorem own_shape {w:World} {B:Nat} {e:TypeId} {size:Nat} {v:Value} {n:Nat} {xs:List Value} (h:w.ownsRow B e size v n xs):∃ a l k,v=.slice a l k:=by
 rcases h.2 with ⟨e,-⟩ | ⟨g,cap,cur,rfl,-⟩
 ·exact ⟨_,_,_,e⟩
 ·exact ⟨_,_,_,rfl⟩
theorem own_apart {B:Nat} {w:World} {wb:Nat} {cs:List Value} {sv:Value} {m:Nat} {xs:List Value} (hb:Blk w wb cs 193) (h:w.ownsRow B 5 1 sv m xs):sv.ownBlock ≠ some wb:=by
 rcases h.2 with ⟨e,-⟩ | ⟨g,cap,cur,rfl,-,hg,-⟩
 ·rw [e]; simp [Value.ownBlock]
 ·intro e
  have:g=wb:=by simpa [Value.ownBlock] using e
  subst this
  rw [Blk,hg] at hb
  injection hb with hb
  injection hb with _ hb
  exact absurd hb (by decide)
theorem WrSt.put {B:Nat} {w w2:World} {wb n:Nat} {xs ys:List UInt8} {sv v2:Value} (h:WrSt B w wb n xs sv) (hown:w2.ownsRow B 5 1 v2 ys.length (Lib.byteCells ys)) (hb:w2.heap[wb]? = w.heap[wb]?) :
  WrSt B (w2.setCell ⟨wb,1,none⟩ v2) wb n ys v2:=by
 have hb2:Blk w2 wb [.int .i64 n,sv] 193:=h.blk.move hb
 refine ⟨hb2.set 1 v2,h.hB,own_move hown fun g hg=>Below.heap_setCell _ _ _ _ fun e=>?_⟩
 exact own_apart hb2 hown (by rw [hg]; exact congrArg some e)
set_option maxRecDepth 100000 in
set_option maxHeartbeats 2000000 in
theorem wr_letter (B:Nat) (w:World) (wb n:Nat) (xs:List UInt8) (c:UInt8) (h:WrIn B w wb n xs) (hl:xs.length ≤ 100000000000) :
  Calls Tryz.prog 156 #[bptr wb,.int .u8 c.toNat] w fun e w'=>e=.returned (.tuple #[]) ∧ WrIn B w' wb n (xs ++ [c]) ∧ Below B w w' ∧ Keeps wb w w':=by
 obtain ⟨sv,h⟩:=h
 obtain ⟨i0,hi,hz0,hz1,hz2⟩:=info_parts info_byte
 have c1:w.cell? ⟨wb,1,none⟩=some sv:=h.blk.cell 1
 have f1:w.frozen? ⟨wb,1,none⟩=false:=h.blk.frozen 1
 have hlt:=h.blk.lt
 have HH:=hide h
 clear h
 go_enter Tryz.func156,Tryz.ntmps156
 go_wp2_with (at_builtin; refine wpList_append_own _ rfl _ _ 135 rfl B 5 i0 (.int .u8 0) 1 1 Tryz.underlying135 hi hz0 hz1 hz2 rfl (by decide) _ _ _ rfl (HH.out.own.alloc _) ⟨w.heap.size,0,none⟩ 1 1 [Value.int .u8 c.toNat] rfl rfl (by intro j u' hj; match j,hj with | 0,hj=>simp at hj; subst hj; simp [Addr.add]) (by intro u' hu'; simp at hu'; subst hu'; rfl) (by unfold maxLen; omega) (by omega) (by have:=HH.out.hB; simp; omega) ?_)
 intro v2 w2 hown2 hgrow hne
 have hkeep:w2.heap[wb]? = w.heap[wb]?:=(hgrow.block wb (by simp; omega) (fun e=>own_apart HH.out.blk HH.out.own e.symm)).trans (Below.heap_alloc w _ wb hlt)
 have hB2:Below B w w2:=((Below.refl B w).alloc (by have:=HH.out.hB; omega) _).grown hgrow (by have:=HH.out.hB; simp; omega) (fun k hk=>(HH.out.own.lt k hk).1)
 have hK2:Keeps wb w w2:=((Lib.OthersKept.refl _ _ w).alloc _).grown hgrow (own_bytes (HH.out.own.alloc _))
 have e1:xs.length + 1=(xs ++ [c]).length:=by simp
 have e2:Lib.byteCells xs ++ [Value.int .u8 c.toNat]=Lib.byteCells (xs ++ [c]):=by simp [Lib.byteCells]
 rw [e1,e2] at hown2
 obtain ⟨a2,l2,k2,rfl⟩:=own_shape hown2
 have HN:=hide (HH.out.put hown2 hkeep)
 have f2:w2.frozen? ⟨wb,1,none⟩=false:=(World.frozen?_of_block (w:=w) hkeep).trans f1
 have c2:w2.cell? ⟨wb,1,none⟩=some sv:=(World.cell?_of_block (w:=w) hkeep).trans c1
 have HB:=hide (hB2.setCell (p:=⟨wb,1,none⟩) HH.out.hB (.slice a2 l2 k2))
 have HK:=hide (hK2.setCell ⟨wb,1,none⟩ rfl (.slice a2 l2 k2))
 clear hown2 hgrow hne hkeep hB2 hK2 e1 e2 c1 f1
 go_wp2_with fail
 go_end0
 exact ⟨rfl,⟨_,HN.out⟩,HB.out,HK.out⟩
end Go.Proofs.YtiplgdkpnhamaaaGreatDoor
namespace Go.Proofs.YtiplgdkpnhamaaaGreatDoor
open Go.RowKit
theorem append_int (B n:Nat) (i:Int) (h0:-9223372036854775808 ≤ i) (h1:i ≤ 9223372036854775807) (sv:Value) (xs:List Value) (w:World) (hown:w.ownsRow B 5 1 sv n xs) (hBw:B ≤ w.heap.size) (hlim:n + 21 ≤ 140737488355328) (htab:PowTab B w) :
  Calls Tryz.prog 194 #[sv,.int .i64 i,.int .i64 10] w fun e w'=>∃ v',e=.returned v' ∧ w'.ownsRow B 5 1 v' (n + (Lib.itoa i).length) (xs ++ Lib.byteCells (Lib.itoa i)) ∧ Below B w w' ∧ Lib.OthersKept 5 none w w':=
 Any.strconv_AppendInt_10 Tryz.appendInt B n i h0 h1 sv xs w hown hBw hlim htab
set_option maxRecDepth 100000 in
set_option maxHeartbeats 4000000 in
theorem wr_number (B:Nat) (w:World) (wb n:Nat) (xs:List UInt8) (k:Int) (h:WrIn B w wb n xs) (hl:xs.length ≤ 100000000000) (h0:-9223372036854775808 ≤ k) (h1:k ≤ 9223372036854775807) (htab:PowTab B w) :
  Calls Tryz.prog 157 #[bptr wb,.int .i64 k] w fun e w'=>e=.returned (.tuple #[]) ∧ WrIn B w' wb n (xs ++ numT k) ∧ Below B w w' ∧ Keeps wb w w':=by
 obtain ⟨sv,h⟩:=h
 obtain ⟨i0,hi,hz0,hz1,hz2⟩:=info_parts info_byte
 have c1:w.cell? ⟨wb,1,none⟩=some sv:=h.blk.cell 1
 have f1:w.frozen? ⟨wb,1,none⟩=false:=h.blk.frozen 1
 have hlt:=h.blk.lt
 have la:=Lib.itoa_length_le k h0 h1
 obtain ⟨a0,l0,k0,rfl⟩:=own_shape h.own
 have HH:=hide h
 have HA:=hide (append_int B xs.length k h0 h1 _ _ w h.own (by have:=h.hB; omega) (by omega) htab)
 clear h
 go_enter Tryz.func157,Tryz.ntmps157
 go_wp2_with (go_at_call 194; refine HA.out.mono ?_; rintro e w1 ⟨v1,rfl,hown1,hnx1,hok1⟩; refine Hid.out ?_)
 refine Lib.hid ?_
 have hkeep1:w1.heap[wb]? = w.heap[wb]?:=(hok1 wb _ HH.out.blk (by simp) (fun c fz e=>by injection e with _ e; exact absurd e (by decide))).trans HH.out.blk.symm
 have hb1:Blk w1 wb [.int .i64 n,.slice a0 l0 k0] 193:=HH.out.blk.move hkeep1
 have hlt1:=hb1.lt
 obtain ⟨a1,l1,k1,rfl⟩:=own_shape hown1
 have HO1:=hide hown1
 have HX1:=hide hnx1
 have HK1:=hide hkeep1
 have HQ1:Hid (Keeps wb w w1):=fun k o a _ b=>hok1 k o a (by simp) b
 have HB1:=hide hb1
 clear hown1 hnx1 hok1 hkeep1 hb1 HA
 go_wp2_with (at_builtin; refine wpList_append_own _ rfl _ _ 135 rfl B 5 i0 (.int .u8 0) 1 1 Tryz.underlying135 hi hz0 hz1 hz2 rfl (by decide) _ _ _ rfl (HO1.out.alloc _) ⟨w1.heap.size,0,none⟩ 1 1 [Value.int .u8 32] rfl rfl (by intro j u' hj; match j,hj with | 0,hj=>simp at hj; subst hj; simp [Addr.add]) (by intro u' hu'; simp at hu'; subst hu'; rfl) (by unfold maxLen; omega) (by omega) (by have:=HH.out.hB; simp; omega) ?_)
 intro v2 w2 hown2 hgrow hne
 have hkeep:w2.heap[wb]? = w.heap[wb]?:=((hgrow.block wb (by simp; omega) (fun e=>own_apart HB1.out HO1.out e.symm)).trans (Below.heap_alloc w1 _ wb hlt1)).trans HK1.out
 have hB2:Below B w w2:=(HX1.out.alloc (by have:=HH.out.hB; omega) _).grown hgrow (by have:=HH.out.hB; simp; omega) (fun k hk=>(HO1.out.lt k hk).1)
 have hK2:Keeps wb w w2:=(HQ1.out.alloc _).grown hgrow (own_bytes (HO1.out.alloc _))
 have e1:xs.length + (Lib.itoa k).length + 1=(xs ++ numT k).length:=by simp [numT]; omega
 have e2:Lib.byteCells xs ++ (Lib.byteCells (Lib.itoa k) ++ [Value.int .u8 32])=Lib.byteCells (xs ++ numT k):=by simp [Lib.byteCells,numT]
 rw [e1,e2] at hown2
 obtain ⟨a2,l2,k2,rfl⟩:=own_shape hown2
 have HN:=hide (HH.out.put hown2 hkeep)
 have f2:w2.frozen? ⟨wb,1,none⟩=false:=(World.frozen?_of_block (w:=w) hkeep).trans f1
 have c2:w2.cell? ⟨wb,1,none⟩=some (.slice a0 l0 k0):=(World.cell?_of_block (w:=w) hkeep).trans c1
 have HB:=hide (hB2.setCell (p:=⟨wb,1,none⟩) HH.out.hB (.slice a2 l2 k2))
 have HK:=hide (hK2.setCell ⟨wb,1,none⟩ rfl (.slice a2 l2 k2))
 clear hown2 hgrow hne hkeep hB2 hK2 e1 e2 c1 f1 HO1 HX1 HK1 HB1 HQ1
 go_wp2_with fail
 go_end0
 exact ⟨rfl,⟨_,HN.out⟩,HB.out,HK.out⟩
def bytesT (s:ByteArray):List UInt8:=numT s.size ++ s.data.toList
set_option maxRecDepth 100000 in
set_option maxHeartbeats 4000000 in
theorem wr_bytes (B:Nat) (w:World) (wb n:Nat) (xs:List UInt8) (s:ByteArray) (h:WrIn B w wb n xs) (hl:xs.length ≤ 90000000000) (hs:s.size ≤ 1000000) (htab:PowTab B w) :
  Calls Tryz.prog 204 #[bptr wb,.string s] w fun e w'=>e=.returned (.tuple #[]) ∧ WrIn B w' wb n (xs ++ bytesT s) ∧ Below B w w' ∧ Keeps wb w w':=by
 have HA:=hide (wr_number B w wb n xs s.size h (by omega) (by omega) (by omega) htab)
 obtain ⟨i0,hi,hz0,hz1,hz2⟩:=info_parts info_byte
 clear h htab
 go_enter Tryz.func204,Tryz.ntmps204
 go_wp2_with (go_at_call 157; refine HA.out.mono ?_; rintro e w1 ⟨rfl,hw1,hnx1,hq1⟩; refine Hid.out ?_)
 refine Lib.hid ?_
 obtain ⟨sv,h⟩:=hw1
 have hln:(xs ++ numT s.size).length ≤ 100000000000:=by
  have:=Lib.itoa_length_le s.size (by omega) (by omega)
  simp [numT]; omega
 obtain ⟨a0,l0,k0,rfl⟩:=own_shape h.own
 have c1:w1.cell? ⟨wb,1,none⟩=some (.slice a0 l0 k0):=h.blk.cell 1
 have f1:w1.frozen? ⟨wb,1,none⟩=false:=h.blk.frozen 1
 have hlt:=h.blk.lt
 have HH:=hide h
 have HX:=hide hnx1
 have HQ:=hide hq1
 clear h hnx1 hq1 HA
 go_wp2_with (at_builtin; refine Lib.wpList_append_own_string w1 rfl _ _ 135 9 rfl B 5 i0 Tryz.underlying135 Tryz.underlying9 hi hz0 hz1 hz2 _ _ _ rfl HH.out.own s rfl (by unfold maxLen; omega) (by omega) (by have:=HH.out.hB; omega) ?_)
 intro v2 w2 hown2 hgrow hne
 have hkeep:w2.heap[wb]? = w1.heap[wb]?:=hgrow.block wb hlt (fun e=>own_apart HH.out.blk HH.out.own e.symm)
 have hB2:Below B w w2:=HX.out.grown hgrow (by have:=HH.out.hB; omega) (fun k hk=>(HH.out.own.lt k hk).1)
 have hK2:Keeps wb w w2:=HQ.out.grown hgrow (own_bytes HH.out.own)
 have e1:xs.length + (numT s.size).length + s.size=(xs ++ bytesT s).length:=by simp [bytesT]; omega
 have e2:Lib.byteCells (xs ++ numT s.size) ++ Lib.strCells s=Lib.byteCells (xs ++ bytesT s):=by simp [Lib.byteCells,bytesT,Lib.strCells]
 rw [e1,e2] at hown2
 obtain ⟨a2,l2,k2,rfl⟩:=own_shape hown2
 have HN:=hide (HH.out.put hown2 hkeep)
 have f2:w2.frozen? ⟨wb,1,none⟩=false:=(World.frozen?_of_block (w:=w1) hkeep).trans f1
 have c2:w2.cell? ⟨wb,1,none⟩=some (.slice a0 l0 k0):=(World.cell?_of_block (w:=w1) hkeep).trans c1
 have HB:=hide (hB2.setCell (p:=⟨wb,1,none⟩) HH.out.hB (.slice a2 l2 k2))
 have HK:=hide (hK2.setCell ⟨wb,1,none⟩ rfl (.slice a2 l2 k2))
 clear hown2 hgrow hne hkeep hB2 hK2 e1 e2 c1 f1
 go_wp2_with fail
 go_end0
 exact ⟨rfl,⟨_,HN.out⟩,HB.out,HK.out⟩
end Go.Proofs.YtiplgdkpnhamaaaGreatDoor
namespace Go.Proofs.YtiplgdkpnhamaaaGreatDoor
open Go.RowKit
def vecT (l:List Int):List UInt8:=l.flatMap numT
theorem num_len {k:Int} (h0:-9223372036854775808 ≤ k) (h1:k ≤ 9223372036854775807):(numT k).length ≤ 22:=by
 have:=Lib.itoa_length_le k h0 h1
 simp [numT]; omega
theorem vec_len:∀ (l:List Int),(∀ k,k ∈ l → -9223372036854775808 ≤ k ∧ k ≤ 9223372036854775807) → (vecT l).length ≤ 22 * l.length
 | [],_=>by simp [vecT]
 | a :: l,h=>by
  have h1:=vec_len l fun k hk=>h k (by simp [hk])
  have h2:=num_len (h a (by simp)).1 (h a (by simp)).2
  simp only [vecT,List.flatMap_cons,List.length_append,List.length_cons] at h1 ⊢
  omega
theorem vec_take_len {l:List Int} {k:Nat} (h:∀ k,k ∈ l → -9223372036854775808 ≤ k ∧ k ≤ 9223372036854775807) (hk:k ≤ 5):(vecT (l.take k)).length ≤ 110:=by
 have h1:=vec_len (l.take k) fun x hx=>h x (List.mem_of_mem_take hx)
 have h2:(l.take k).length ≤ k:=by simp; omega
 omega
theorem vec_step {l:List Int} {k:Nat} (hk:k < l.length):vecT (l.take (k + 1))=vecT (l.take k) ++ numT l[k]:=by
 unfold vecT
 rw [List.take_succ_eq_append_getElem hk,List.flatMap_append,List.flatMap_cons,List.flatMap_nil,List.append_nil]
set_option maxRecDepth 100000 in
set_option maxHeartbeats 4000000 in
theorem wr_vector (B:Nat) (w:World) (wb n:Nat) (xs:List UInt8) (v:Vec) (h:WrIn B w wb n xs) (hn:n ≤ 5) (hl:xs.length ≤ 90000000000) (hv:∀ k,k ∈ v.list → -9223372036854775808 ≤ k ∧ k ≤ 9223372036854775807) (htab:PowTab B w) :
  Calls Tryz.prog 119 #[bptr wb,.agg #[.int .i64 v.a,.int .i64 v.b,.int .i64 v.c,.int .i64 v.d,.int .i64 v.e]] w fun e w'=>e=.returned (.tuple #[]) ∧ WrIn B w' wb n (xs ++ vecT (v.list.take n)) ∧ Below B w w' ∧ Keeps wb w w':=by
 obtain ⟨sv,h⟩:=h
 have c0:w.cell? ⟨wb,0,none⟩=some (.int .i64 n):=h.blk.cell 0
 have hlt:=h.blk.lt
 have HH:=hide h
 have g1:¬ (n:Int) < 0:=by omega
 have g2:(n:Int) ≤ 5:=by omega
 have g3:¬ (5:Int) < n:=by omega
 clear h
 go_enter Tryz.func119,Tryz.ntmps119
 go_wp2_with fail
 generalize hW1:w.alloc (.cells #[.int .i64 v.a,.int .i64 v.b,.int .i64 v.c,.int .i64 v.d,.int .i64 v.e] 104)=W1
 have hB1:Below w.heap.size w W1:=by rw [← hW1]; exact (Below.refl _ _).alloc (Nat.le_refl _) _
 have b1:Blk W1 w.heap.size v.cells 104:=by rw [← hW1]; exact heap_alloc_new w _
 have hk1:Keeps wb w W1:=by rw [← hW1]; exact (Lib.OthersKept.refl _ _ w).alloc _
 have hwr:WrIn B W1 wb n xs:=⟨sv,HH.out.blk.below hB1,HH.out.hB,own_move HH.out.own fun g hg=>hB1.block g (HH.out.own.lt g hg).2⟩
 have HB1:Hid (Below B w W1):=hB1.mono (by have:=HH.out.hB; omega)
 have HR:Hid (WrIn B W1 wb n xs ∧ Blk W1 w.heap.size v.cells 104 ∧ Keeps wb w W1):=⟨hwr,b1,hk1⟩
 have hbB:B ≤ w.heap.size:=by have:=HH.out.hB; omega
 clear hB1 b1 hk1 hwr hW1 c0
 go_loopw [5,12] (fun _ i wr=>∃ k:Nat,k ≤ n ∧ i=.int .i64 k ∧ Hid (WrIn B wr wb n (xs ++ vecT (v.list.take k)) ∧ Below B w wr ∧ Blk wr w.heap.size v.cells 104 ∧ Keeps wb w wr)) (fun _ i _=>n - (intOf i).toNat)
 case atStart=>exact ⟨0,Nat.zero_le _,rfl,by simpa [vecT] using HR.out.1,HB1.out,HR.out.2.1,HR.out.2.2⟩
 case round=>
  clear HR HB1 HH
  obtain ⟨k,hk,rfl,HS⟩:=hrel
  by_cases hlt2:k < n
  ·have hk5:k < v.list.length:=by simp [Vec.list]; omega
   have cv:wr.cell? ⟨w.heap.size,k,none⟩=some (.int .i64 v.list[k]):=by
    rw [HS.out.2.2.1.cell k]
    simp only [Vec.list] at hk5 ⊢
    simp only [List.length_cons,List.length_nil] at hk5
    have:k=0 ∨ k=1 ∨ k=2 ∨ k=3 ∨ k=4:=by omega
    rcases this with rfl | rfl | rfl | rfl | rfl <;> rfl
   have hlx:(xs ++ vecT (v.list.take k)).length ≤ 100000000000:=by
    have:=vec_take_len hv (k:=k) (by omega)
    rw [List.length_append]; omega
   have hN:=wr_number B wr wb n _ v.list[k] HS.out.1 hlx (hv _ (List.getElem_mem hk5)).1 (hv _ (List.getElem_mem hk5)).2 (htab.on HS.out.2.1)
   rw [List.append_assoc,← vec_step hk5] at hN
   have HN:=hide hN
   clear hN hlx
   generalize v.list[k]=x at *
   go_wp2_with (go_at_call 157; refine HN.out.mono ?_; rintro e w2 ⟨rfl,hw2,hb2,hq2⟩; have HR:Hid (WrIn B w2 wb n (xs ++ vecT (v.list.take (k + 1))) ∧ Below B w w2 ∧ Blk w2 w.heap.size v.cells 104 ∧ Keeps wb w w2):=⟨hw2,HS.out.2.1.trans hb2,hq2 _ _ HS.out.2.2.1 (by simp; omega) (fun c fz e=>by injection e with _ e; exact absurd e (by decide)),HS.out.2.2.2.trans hq2⟩; clear hw2 hb2 hq2)
   exact ⟨⟨k + 1,by omega,by go_num,HR.out⟩,by simp [intOf]; omega⟩
  ·have hkn:k=n:=by omega
   subst hkn
   go_wp2_with fail
   go_end0
   exact ⟨rfl,HS.out.1,HS.out.2.1,HS.out.2.2.2⟩
end Go.Proofs.YtiplgdkpnhamaaaGreatDoor
namespace Go.Proofs.YtiplgdkpnhamaaaGreatDoor
open Go.RowKit
def headT (letter:UInt8) (n i:Nat) (l:List Int):List UInt8:=letter :: (numT n ++ (numT i ++ vecT l))
abbrev headVal (i:Nat) (v:Vec):Value:=.agg #[.int .i64 i,.int .i64 v.a,.int .i64 v.b,.int .i64 v.c,.int .i64 v.d,.int .i64 v.e]
theorem WrIn.later {B:Nat} {w w':World} {wb n:Nat} {xs:List UInt8} (h:WrIn B w wb n xs) (hb:Below w.heap.size w w'):WrIn B w' wb n xs:=by
 obtain ⟨sv,h⟩:=h
 exact ⟨sv,h.blk.below hb,h.hB,own_move h.own fun g hg=>hb.block g (h.own.lt g hg).2⟩
theorem WrIn.hB {B:Nat} {w:World} {wb n:Nat} {xs:List UInt8} (h:WrIn B w wb n xs):B ≤ wb ∧ wb < w.heap.size ∧ w.cell? ⟨wb,0,none⟩=some (.int .i64 n):=by
 obtain ⟨sv,h⟩:=h
 exact ⟨h.hB,h.blk.lt,h.blk.cell 0⟩
theorem Keeps.blk {wb:Nat} {w w':World} (h:Keeps wb w w') {b:Nat} {cs:List Value} {t:TypeId} (hb:Blk w b cs t) (hne:b ≠ wb) (ht:t ≠ 5):Blk w' b cs t:=
 h b _ hb (by simpa using hne) (fun c fz e=>by injection e with _ e; exact ht e)
structure WrAt (B:Nat) (w0:World) (wb n:Nat) (xs:List UInt8) (w:World):Prop where
 wr:WrIn B w wb n xs
 bel:Below B w0 w
 kp:Keeps wb w0 w
theorem WrAt.step {B:Nat} {w0 w w':World} {wb n:Nat} {xs ys:List UInt8} (h:WrAt B w0 wb n xs w) (k:WrIn B w' wb n ys ∧ Below B w w' ∧ Keeps wb w w'):WrAt B w0 wb n ys w':=⟨k.1,h.bel.trans k.2.1,h.kp.trans k.2.2⟩
theorem WrAt.start {B:Nat} {w:World} {wb n:Nat} {xs:List UInt8} (h:WrIn B w wb n xs) (o:Obj):WrAt B w wb n xs (w.alloc o):=
 ⟨h.later ((Below.refl _ _).alloc (Nat.le_refl _) _),(Below.refl B w).alloc (by have:=h.hB; omega) _,(Lib.OthersKept.refl _ _ w).alloc _⟩
set_option maxRecDepth 100000 in
set_option maxHeartbeats 4000000 in
theorem wr_head (B:Nat) (w:World) (wb n i:Nat) (xs:List UInt8) (c:UInt8) (v:Vec) (h:WrIn B w wb n xs) (hn:n ≤ 5) (hi:i ≤ 5) (hl:xs.length ≤ 80000000000) (hv:∀ k,k ∈ v.list → -9223372036854775808 ≤ k ∧ k ≤ 9223372036854775807) (htab:PowTab B w) :
  Calls Tryz.prog 113 #[bptr wb,.int .u8 c.toNat,headVal i v] w fun e w'=>e=.returned (.tuple #[]) ∧ WrIn B w' wb n (xs ++ headT c n i (v.list.take n)) ∧ Below B w w' ∧ Keeps wb w w':=by
 generalize hW1:w.alloc (.cells #[.int .i64 i,.int .i64 v.a,.int .i64 v.b,.int .i64 v.c,.int .i64 v.d,.int .i64 v.e] 144)=W1
 have b1:Blk W1 w.heap.size [.int .i64 i,.int .i64 v.a,.int .i64 v.b,.int .i64 v.c,.int .i64 v.d,.int .i64 v.e] 144:=by rw [← hW1]; exact heap_alloc_new w _
 have H1:Hid (WrAt B w wb n xs W1):=by rw [← hW1]; exact WrAt.start h _
 have hne:w.heap.size ≠ wb:=by have:=h.hB; omega
 have HB1:=hide b1
 have HW1:=hide hW1
 have HL:=hide (wr_letter B W1 wb n xs c H1.out.wr (by omega))
 clear h b1 hW1
 go_enter Tryz.func113,Tryz.ntmps113
 go_wp2_with (go_at_call 156; rw [HW1.out]; refine HL.out.mono ?_; rintro e w2 ⟨rfl,hp⟩; refine Hid.out ?_)
 refine Lib.hid ?_
 have H2:=hide (H1.out.step hp)
 have HB2:=hide (hp.2.2.blk HB1.out hne (by decide))
 have HN2:=hide (wr_number B w2 wb n _ n H2.out.wr (by simp; omega) (by omega) (by omega) (htab.on H2.out.bel))
 have c2:=H2.out.wr.hB.2.2
 clear hp HL H1 HB1 HW1
 go_wp2_with (go_at_call 157; refine HN2.out.mono ?_; rintro e w3 ⟨rfl,hp⟩; refine Hid.out ?_)
 refine Lib.hid ?_
 have H3:=hide (H2.out.step hp)
 have HB3:=hide (hp.2.2.blk HB2.out hne (by decide))
 have ln:(numT n).length ≤ 22:=num_len (by omega) (by omega)
 have li:(numT i).length ≤ 22:=num_len (by omega) (by omega)
 have HN3:=hide (wr_number B w3 wb n _ i H3.out.wr (by simp only [List.length_append,List.length_cons,List.length_nil]; omega) (by omega) (by omega) (htab.on H3.out.bel))
 have c3:w3.cell? ⟨w.heap.size,0,none⟩=some (.int .i64 i):=HB3.out.cell 0
 clear hp HN2 H2 HB2 c2
 go_wp2_with (go_at_call 157; refine HN3.out.mono ?_; rintro e w4 ⟨rfl,hp⟩; refine Hid.out ?_)
 refine Lib.hid ?_
 have H4:=hide (H3.out.step hp)
 have HB4:=hide (hp.2.2.blk HB3.out hne (by decide))
 have HN4:=hide (wr_vector B w4 wb n _ v H4.out.wr hn (by simp only [List.length_append,List.length_cons,List.length_nil]; omega) hv (htab.on H4.out.bel))
 have d1:w4.cell? ⟨w.heap.size,1,none⟩=some (.int .i64 v.a):=HB4.out.cell 1
 have d2:w4.cell? ⟨w.heap.size,2,none⟩=some (.int .i64 v.b):=HB4.out.cell 2
 have d3:w4.cell? ⟨w.heap.size,3,none⟩=some (.int .i64 v.c):=HB4.out.cell 3
 have d4:w4.cell? ⟨w.heap.size,4,none⟩=some (.int .i64 v.d):=HB4.out.cell 4
 have d5:w4.cell? ⟨w.heap.size,5,none⟩=some (.int .i64 v.e):=HB4.out.cell 5
 clear hp HN3 H3 HB3 c3
 go_wp2_with (go_at_call 119; refine HN4.out.mono ?_; rintro e w5 ⟨rfl,hp⟩; have H5:=hide (H4.out.step hp); clear hp)
 go_end0
 have e:xs ++ [c] ++ numT n ++ numT i ++ vecT (v.list.take n)=xs ++ headT c n i (v.list.take n):=by simp [headT]
 exact ⟨rfl,by rw [← e]; exact H5.out.wr,H5.out.bel,H5.out.kp⟩
end Go.Proofs.YtiplgdkpnhamaaaGreatDoor
namespace Go.Proofs.YtiplgdkpnhamaaaGreatDoor
open Go.RowKit
set_option maxRecDepth 100000 in
set_option maxHeartbeats 4000000 in
theorem tz64_16 (w:World) (h:w.cell? ⟨5,15,none⟩=some (.int .u8 4)) :
  Calls Tryz.prog 272 #[.int .u64 16] w fun e w'=>e=.returned (.int .i64 4) ∧ w'=w:=by
 have e1:bits BinOp.and IntKind.u64 16 (IntKind.u64.wrap (-16))=16:=by kernel_rfl
 have e2:IntKind.u64.wrap (16 * 285870213051353865) / 288230376151711744=15:=by kernel_rfl
 go_enter Tryz.func272,Tryz.ntmps272
 go_wp2_with fail
 go_ret
 exact ⟨rfl,rfl⟩
set_option maxRecDepth 100000 in
set_option maxHeartbeats 4000000 in
theorem tz16 (w:World) (h:w.cell? ⟨5,15,none⟩=some (.int .u8 4)) :
  Calls Tryz.prog 264 #[.int .u64 16] w fun e w'=>e=.returned (.int .i64 4) ∧ w'=w:=by
 have HT:=hide (tz64_16 w h)
 go_enter Tryz.func264,Tryz.ntmps264
 go_wp2_with (go_at_call 272; refine HT.out.mono ?_; rintro e w1 ⟨rfl,rfl⟩)
 go_ret
 exact ⟨rfl,rfl⟩
set_option maxRecDepth 100000 in
set_option maxHeartbeats 4000000 in
theorem pow16 (w:World):Calls Tryz.prog 263 #[.int .i64 16] w fun e w'=>e=.returned (.bool true) ∧ w'=w:=by
 have e1:bits BinOp.and IntKind.i64 16 15=0:=by kernel_rfl
 go_enter Tryz.func263,Tryz.ntmps263
 go_wp2_with fail
 go_ret
 exact ⟨rfl,rfl⟩
def hexDig (d:Nat):UInt8:=UInt8.ofNat (if d < 10 then 48 + d else 87 + d)
def hexF:Nat → Nat → List UInt8 → List UInt8
 | 0,u,acc=>hexDig u :: acc
 | f + 1,u,acc=>if u < 16 then hexDig u :: acc else hexF f (u / 16) (hexDig (u % 16) :: acc)
def hexT (u:Nat):List UInt8:=hexF 16 u []
theorem hexF_low {u:Nat} (h:u < 16):∀ f acc,hexF f u acc=hexDig u :: acc
 | 0,_=>rfl
 | f + 1,acc=>by simp only [hexF]; rw [if_pos h]
theorem and15 (u:Nat) (h:u < 18446744073709551616):bits .and .u64 (u:Int) 15=((u % 16:Nat):Int):=by
 have:=bits_and_u64_nat u 15 h (by omega)
 rw [show ((15:Nat):Int)=15 from rfl] at this
 rw [this,show (15:Nat)=2 ^ 4 - 1 from rfl,Nat.and_two_pow_sub_one_eq_mod]
theorem zeros65:Tryz.zeroCells347=(List.replicate 65 (Value.int .u8 0)).toArray:=by kernel_rfl
theorem put_dig (j:Nat) (acc:List UInt8) (d:UInt8):(List.replicate (j + 1) (Value.int .u8 0) ++ Lib.byteCells acc).set j (.int .u8 d.toNat)=List.replicate j (Value.int .u8 0) ++ Lib.byteCells (d :: acc):=by
 rw [List.replicate_succ',List.append_assoc,List.set_append_right _ _ (by simp)]
 simp [Lib.byteCells]
theorem pow_step {u k:Nat} (h:u < 16 ^ (16 - k)) (h16:16 ≤ u) (hk:k ≤ 15):k + 1 ≤ 15 ∧ u / 16 < 16 ^ (16 - (k + 1)):=by
 have h1:k + 1 ≤ 15:=by
  by_cases c:k=15
  ·subst c; simp at h; omega
  ·omega
 refine ⟨h1,?_⟩
 have e:16 - k=(16 - (k + 1)) + 1:=by omega
 rw [e,Nat.pow_succ] at h
 exact Nat.div_lt_of_lt_mul (by rw [Nat.mul_comm]; exact h)
set_option maxRecDepth 100000 in
set_option maxHeartbeats 8000000 in
theorem bits16 (w:World) (u:Nat) (hu:u < 18446744073709551616) (h:w.cell? ⟨5,15,none⟩=some (.int .u8 4)) :
  Calls Tryz.prog 240 #[.slice none 0 0,.int .u64 u,.int .i64 16,.bool false,.bool false] w fun e w'=>e=.returned (.tuple #[.slice none 0 0,.string ⟨(hexT u).toArray⟩]) ∧ Below w.heap.size w w':=by
 have hlt:=World.block_lt_of_cell? w _ h
 have h':(w.alloc (Obj.cells Tryz.zeroCells347 347)).cell? ⟨5,15,none⟩=some (.int .u8 4):=by rw [World.cell?_alloc_past _ _ _ hlt]; exact h
 have HP:=hide (pow16 (w.alloc (Obj.cells Tryz.zeroCells347 347)))
 have HT:=hide (tz16 (w.alloc (Obj.cells Tryz.zeroCells347 347)) h')
 clear h h' hlt
 go_enter Tryz.func240,Tryz.ntmps240
 go_wp2_with (first | (go_at_call 263; refine HP.out.mono ?_; rintro e w1 ⟨rfl,rfl⟩) | (go_at_call 264; refine HT.out.mono ?_; rintro e w1 ⟨rfl,rfl⟩))
 generalize hW1:w.alloc (Obj.cells Tryz.zeroCells347 347)=W1
 have HB1:Hid (Below w.heap.size w W1):=by rw [← hW1]; exact (Below.refl _ _).alloc (Nat.le_refl _) _
 have HK1:Hid (Blk W1 w.heap.size (List.replicate 65 (Value.int .u8 0)) 347):=by rw [← hW1,zeros65]; exact heap_alloc_new w _
 clear hW1 HP HT
 go_loopw [1,13] (fun uu ii wr=>∃ (j u':Nat) (acc:List UInt8),ii=.int .i64 j ∧ uu=.int .u64 u' ∧ j + acc.length=65 ∧ acc.length ≤ 15 ∧ u' < 18446744073709551616 ∧ Hid (u' < 16 ^ (16 - acc.length) ∧ hexF (16 - acc.length) u' acc=hexT u ∧ Blk wr w.heap.size (List.replicate j (Value.int .u8 0) ++ Lib.byteCells acc) 347 ∧ Below w.heap.size w wr)) (fun uu _ _=>(intOf uu).toNat)
 case atStart=>exact ⟨65,u,[],rfl,rfl,rfl,by simp,hu,by simpa using hu,rfl,by simpa [Lib.byteCells] using HK1.out,HB1.out⟩
 case round=>
  clear HB1 HK1 hu
  obtain ⟨j,u',acc,rfl,rfl,hj,ha,hu',HS⟩:=hrel
  by_cases h16:16 ≤ u'
  ·obtain ⟨q1,q2⟩:=pow_step HS.out.1 h16 ha
   obtain ⟨j',rfl⟩:∃ j',j=j' + 1:=⟨j - 1,by omega⟩
   have hd:=and15 u' hu'
   have HN:Hid (hexF (16 - (acc.length + 1)) (u' / 16) (hexDig (u' % 16) :: acc)=hexT u):=by
    have e:=HS.out.2.1
    rw [show 16 - acc.length=(16 - (acc.length + 1)) + 1 by omega] at e
    simp only [hexF] at e
    rw [if_neg (by omega)] at e
    exact e
   have HQ:=hide q2
   have hdm:u' % 16 < 16:=by omega
   generalize u' % 16=dm at *
   have c0:wr.cell? ⟨w.heap.size,j',none⟩=some (.int .u8 0):=by
    rw [HS.out.2.2.1.cell j',List.getElem?_append_left (by simp)]
    simp
   have f0:wr.frozen? ⟨w.heap.size,j',none⟩=false:=HS.out.2.2.1.frozen j'
   have key:∀ x:UInt8,x=hexDig dm → Blk (wr.setCell ⟨w.heap.size,j',none⟩ (.int .u8 x.toNat)) w.heap.size (List.replicate j' (Value.int .u8 0) ++ Lib.byteCells (hexDig dm :: acc)) 347 ∧ Below w.heap.size w (wr.setCell ⟨w.heap.size,j',none⟩ (.int .u8 x.toNat)):=by
    rintro x rfl
    refine ⟨?_,HS.out.2.2.2.setCell (p:=⟨w.heap.size,j',none⟩) (Nat.le_refl _) _⟩
    rw [← put_dig]
    exact HS.out.2.2.1.set j' _
   have HKY:=hide key
   clear key
   go_wp2_with fail
   refine ⟨⟨j',u' / 16,hexDig dm :: acc,rfl,by go_num,by simp; omega,by simpa using q1,by omega,by simpa using HQ.out,by simpa using HN.out,HKY.out _ ?_⟩,by simp [intOf]; omega⟩
   have:dm=0 ∨ dm=1 ∨ dm=2 ∨ dm=3 ∨ dm=4 ∨ dm=5 ∨ dm=6 ∨ dm=7 ∨ dm=8 ∨ dm=9 ∨ dm=10 ∨ dm=11 ∨ dm=12 ∨ dm=13 ∨ dm=14 ∨ dm=15:=by omega
   rcases this with rfl | rfl | rfl | rfl | rfl | rfl | rfl | rfl | rfl | rfl | rfl | rfl | rfl | rfl | rfl | rfl <;> rfl
  ·have h15:u' < 16:=by omega
   have HE:Hid (hexDig u' :: acc=hexT u):=by
    rw [← hexF_low h15 (16 - acc.length) acc]; exact HS.out.2.1
   obtain ⟨j',rfl⟩:∃ j',j=j' + 1:=⟨j - 1,by omega⟩
   have c0:wr.cell? ⟨w.heap.size,j',none⟩=some (.int .u8 0):=by
    rw [HS.out.2.2.1.cell j',List.getElem?_append_left (by simp)]
    simp
   have f0:wr.frozen? ⟨w.heap.size,j',none⟩=false:=HS.out.2.2.1.frozen j'
   have key:∀ x:UInt8,x=hexDig u' → Blk (wr.setCell ⟨w.heap.size,j',none⟩ (.int .u8 x.toNat)) w.heap.size (List.replicate j' (Value.int .u8 0) ++ Lib.byteCells (hexT u)) 347 ∧ Below w.heap.size w (wr.setCell ⟨w.heap.size,j',none⟩ (.int .u8 x.toNat)):=by
    rintro x rfl
    refine ⟨?_,HS.out.2.2.2.setCell (p:=⟨w.heap.size,j',none⟩) (Nat.le_refl _) _⟩
    rw [← HE.out,← put_dig]
    exact HS.out.2.2.1.set j' _
   have hlen:(hexT u).length=65 - j':=by rw [← HE.out]; simp; omega
   have hcv:∀ W:World,Blk W w.heap.size (List.replicate j' (Value.int .u8 0) ++ Lib.byteCells (hexT u)) 347 → (convert 135 9 (.slice (some ⟨w.heap.size,j',none⟩) (65 - j') (65 - j'))).run Tryz.prog W=.ok (.string ⟨(hexT u).toArray⟩) W:=by
    intro W hb
    rw [← hlen]
    exact run_convert_bytes_back (P:=Tryz.prog) W 135 9 5 ⟨w.heap.size,j',none⟩ _ (hexT u) Tryz.underlying135 Tryz.underlying5 Tryz.underlying9 (fun k hk=>by
     rw [Addr.add_lit,hb.cell (j' + k),List.getElem?_append_right (by simp)]
     simp [Lib.byteCells,hk])
   have HKY:=hide key
   have HCV:=hide hcv
   have g1:¬ (65:Int) < j':=by omega
   have g2:(j':Int) ≤ 65:=by omega
   have g3:¬ 65=j':=by omega
   clear key hcv hlen
   go_upto_region 30 with (fail)
   generalize hxd:@GetElem.getElem ByteArray Nat UInt8 _ _ _ u' _=xd
   have hx:xd=hexDig u':=by
    rw [← hxd]
    have:u'=0 ∨ u'=1 ∨ u'=2 ∨ u'=3 ∨ u'=4 ∨ u'=5 ∨ u'=6 ∨ u'=7 ∨ u'=8 ∨ u'=9 ∨ u'=10 ∨ u'=11 ∨ u'=12 ∨ u'=13 ∨ u'=14 ∨ u'=15:=by omega
    clear hxd
    rcases this with rfl | rfl | rfl | rfl | rfl | rfl | rfl | rfl | rfl | rfl | rfl | rfl | rfl | rfl | rfl | rfl <;> rfl
   obtain ⟨k1,k2⟩:=HKY.out xd hx
   generalize World.setCell _ _ _=W2 at *
   have hcv:=HCV.out W2 k1
   have HB:=hide k2
   clear k1 k2 HKY HCV hxd hx
   go_wp2_with fail
   go_ret2
   exact ⟨rfl,HB.out⟩
end Go.Proofs.YtiplgdkpnhamaaaGreatDoor
namespace Go.Proofs.YtiplgdkpnhamaaaGreatDoor
open Go.RowKit
abbrev BruijnTab (w:World):Prop:=w.cell? ⟨5,15,none⟩=some (.int .u8 4)
set_option maxRecDepth 100000 in
set_option maxHeartbeats 4000000 in
theorem fmt16i (w:World) (u:Nat) (hu:u < 18446744073709551616) (h:BruijnTab w) :
  Calls Tryz.prog 217 #[.int .u64 u,.int .i64 16] w fun e w'=>e=.returned (.string ⟨(hexT u).toArray⟩) ∧ Below w.heap.size w w':=by
 have HB:=hide (bits16 w u hu h)
 go_enter Tryz.func217,Tryz.ntmps217
 go_wp2_with (go_at_call 240; refine HB.out.mono ?_; rintro e w1 ⟨rfl,hb⟩)
 go_ret
 exact ⟨rfl,hb⟩
set_option maxRecDepth 100000 in
set_option maxHeartbeats 4000000 in
theorem fmt16 (w:World) (u:Nat) (hu:u < 18446744073709551616) (h:BruijnTab w) :
  Calls Tryz.prog 195 #[.int .u64 u,.int .i64 16] w fun e w'=>e=.returned (.string ⟨(hexT u).toArray⟩) ∧ Below w.heap.size w w':=by
 have HB:=hide (fmt16i w u hu h)
 go_enter Tryz.func195,Tryz.ntmps195
 go_wp2_with (go_at_call 217; refine HB.out.mono ?_; rintro e w1 ⟨rfl,hb⟩)
 go_ret
 exact ⟨rfl,hb⟩
theorem xor_nat (a b:Nat) (ha:a < 18446744073709551616) (hb:b < 18446744073709551616):bits .xor .u64 (a:Int) (b:Int)=((a ^^^ b:Nat):Int):=by
 have hx:a ^^^ b < 2 ^ 64:=Nat.xor_lt_two_pow (by omega) (by omega)
 have h1:(BitVec.ofInt 64 (a:Int)).toNat=a:=by
  rw [BitVec.ofInt_natCast,BitVec.toNat_ofNat]; exact Nat.mod_eq_of_lt (by omega)
 have h2:(BitVec.ofInt 64 (b:Int)).toNat=b:=by
  rw [BitVec.ofInt_natCast,BitVec.toNat_ofNat]; exact Nat.mod_eq_of_lt (by omega)
 show IntKind.u64.wrap ((BitVec.ofInt 64 (a:Int) ^^^ BitVec.ofInt 64 (b:Int)).toNat:Int)=_
 rw [BitVec.toNat_xor,h1,h2,IntKind.wrap_u64]
 omega
def fnvStep (s:Nat) (b:UInt8):Nat:=((s ^^^ b.toNat) * 1099511628211) % 18446744073709551616
def fnv0:Nat:=14695981039346656037
theorem fnv0_int:(14695981039346656037:Int)=(fnv0:Nat):=by unfold fnv0; omega
theorem fnv0_lt:fnv0 < 18446744073709551616:=by unfold fnv0; omega
def sealN (l:List UInt8):Nat:=l.foldl fnvStep fnv0
def sealT (l:List UInt8):List UInt8:=hexT (sealN l)
theorem fnv_lt (s:Nat) (b:UInt8):fnvStep s b < 18446744073709551616:=Nat.mod_lt _ (by omega)
theorem fnv_wrap (s:Nat) (b:UInt8):IntKind.u64.wrap (((s ^^^ b.toNat:Nat):Int) * 1099511628211)=(fnvStep s b:Nat):=by
 rw [IntKind.wrap_u64]; unfold fnvStep; omega
theorem bytes_get (s:ByteArray) (k:Nat) (h:k < s.size):s.data.toList[k]'(by simpa using h)=s[k]:=by simp; rfl
def SealAt (s:ByteArray) (k:Nat) (a:Int):Prop:=∃ m:Nat,a=m ∧ m < 18446744073709551616 ∧ (s.data.toList.take k).foldl fnvStep fnv0=m
theorem sealAt_zero (s:ByteArray):SealAt s 0 14695981039346656037:=⟨fnv0,fnv0_int,fnv0_lt,by simp⟩
theorem sealAt_step {s:ByteArray} {k:Nat} {a:Int} (hlt:k < s.size) (h:SealAt s k a):SealAt s (k + 1) (IntKind.u64.wrap (bits BinOp.xor IntKind.u64 a (IntKind.u64.wrap (s[k].toNat:Int)) * 1099511628211)):=by
 obtain ⟨m,rfl,hm,e⟩:=h
 have hb:=s[k].toNat_lt
 refine ⟨fnvStep m s[k],?_,fnv_lt m s[k],?_⟩
 ·rw [show IntKind.u64.wrap (s[k].toNat:Int)=(s[k].toNat:Nat) by rw [IntKind.wrap_u64]; omega,xor_nat m s[k].toNat hm (by omega),fnv_wrap m s[k]]
 ·have hl:k < s.data.toList.length:=by simpa using hlt
  rw [List.take_succ_eq_append_getElem hl,List.foldl_append,e,bytes_get s k hlt,List.foldl_cons,List.foldl_nil]
set_option maxRecDepth 100000 in
set_option maxHeartbeats 4000000 in
theorem seal_any (w:World) (s:ByteArray) (hs:s.size ≤ 200000000000) (h:BruijnTab w) :
  Calls Tryz.prog 158 #[.string s] w fun e w'=>e=.returned (.string ⟨(sealT s.data.toList).toArray⟩) ∧ Below w.heap.size w w':=by
 have HT:=hide h
 clear h
 go_enter Tryz.func158,Tryz.ntmps158
 go_wp2_with fail
 go_loopw [3,4,7] (fun uu _ ii wr=>∃ (k:Nat) (a:Int),k ≤ s.size ∧ ii=.int .i64 k ∧ uu=.int .u64 a ∧ wr=w ∧ Hid (SealAt s k a)) (fun _ _ ii _=>s.size - (intOf ii).toNat)
 case atStart=>exact ⟨0,_,Nat.zero_le _,rfl,rfl,rfl,sealAt_zero s⟩
 case round=>
  obtain ⟨k,a,hk,rfl,rfl,rfl,HS⟩:=hrel
  by_cases hlt:k < s.size
  ·have HN:=hide (sealAt_step hlt HS.out)
   go_wp2_with fail
   exact ⟨⟨k + 1,_,by omega,by go_num,rfl,trivial,HN.out⟩,by simp [intOf]; omega⟩
  ·have hkn:k=s.size:=by omega
   subst hkn
   have HF:Hid (Calls Tryz.prog 195 #[.int .u64 a,.int .i64 16] wr fun e w'=>e=.returned (.string ⟨(sealT s.data.toList).toArray⟩) ∧ Below wr.heap.size wr w'):=by
    obtain ⟨m,rfl,hm,e⟩:=HS.out
    rw [List.take_of_length_le (by simp)] at e
    have:=fmt16 wr m hm HT.out
    unfold sealT sealN
    rw [e]; exact this
   go_wp2_with (go_at_call 195; refine HF.out.mono ?_; rintro e w1 ⟨rfl,hb⟩; have HB:=hide hb; clear hb)
   go_ret
   exact ⟨rfl,HB.out⟩
end Go.Proofs.YtiplgdkpnhamaaaGreatDoor
namespace Go.Proofs.YtiplgdkpnhamaaaGreatDoor
open Go.RowKit
def sealed (l:List UInt8):List UInt8:=l ++ sealT l
theorem bytes_app (a b:List UInt8):(⟨a.toArray⟩:ByteArray) ++ (⟨b.toArray⟩:ByteArray)=⟨(a ++ b).toArray⟩:=by
 apply ByteArray.ext
 simp [ByteArray.data_append]
theorem hexF_len:∀ (f u:Nat) (acc:List UInt8),(hexF f u acc).length ≤ f + 1 + acc.length
 | 0,u,acc=>by simp [hexF]; omega
 | f + 1,u,acc=>by
  simp only [hexF]
  split
  ·simp; omega
  ·have:=hexF_len f (u / 16) (hexDig (u % 16) :: acc)
   simp at this; omega
theorem seal_len (l:List UInt8):(sealT l).length ≤ 17:=by
 have:=hexF_len 16 (sealN l) []
 simpa [sealT,hexT] using this
set_option maxRecDepth 100000 in
set_option maxHeartbeats 4000000 in
theorem wr_end (B:Nat) (w:World) (wb n:Nat) (xs:List UInt8) (h:WrIn B w wb n xs) (hx:xs ≠ []) (hl:xs.length ≤ 190000000000) (ht:BruijnTab w) :
  Calls Tryz.prog 114 #[bptr wb] w fun e w'=>e=.returned (.string ⟨(sealed xs).toArray⟩) ∧ Below w.heap.size w w':=by
 obtain ⟨sv,h⟩:=h
 have hpos:0 < xs.length:=List.length_pos_iff.2 hx
 rcases h.own.2 with ⟨-,e0⟩ | ⟨g,cap,cur,rfl,-⟩
 ·omega
 have hcv:=run_convert_bytes_back (P:=Tryz.prog) w 135 9 5 ⟨g,0,none⟩ cap xs Tryz.underlying135 Tryz.underlying5 Tryz.underlying9 (fun j hj=>h.own.cells (g:=g) rfl j _ (by simp [Lib.byteCells,hj]))
 have c1:w.cell? ⟨wb,1,none⟩=some (.slice (some ⟨g,0,none⟩) xs.length cap):=h.blk.cell 1
 have hlt:=h.blk.lt
 have HS:=hide (seal_any w ⟨xs.toArray⟩ (by show xs.toArray.size ≤ _; simp; omega) ht)
 have hsz:¬ 9223372036854775807 < xs.length + (sealT xs).length:=by have:=seal_len xs; omega
 clear h ht
 go_enter Tryz.func114,Tryz.ntmps114
 go_wp2_with (go_at_call 158; refine HS.out.mono ?_; rintro e w1 ⟨rfl,hb⟩; have HB:=hide hb; clear hb)
 go_ret
 exact ⟨congrArg (fun x=>Ending.returned (Value.string x)) (bytes_app xs (sealT xs)),HB.out⟩
def sumT (n i:Nat) (l:List Int):List UInt8:=sealed (headT 115 n i l)
structure Tabs (w:World):Prop where
 pow:Lib.TabIs Tryz.prog w "internal/strconv.uint64pow10" .u64 Lib.pow10Tab
 bru:BruijnTab w
theorem Tabs.later {w w':World} (h:Tabs w) (hb:Below w.heap.size w w'):Tabs w':=
 ⟨(Lib.tabBelow_of_tabIs h.pow) w' hb,cell_later hb h.bru⟩
theorem pow_glob:Tryz.prog.globalNamed "internal/strconv.uint64pow10"=some 0:=by kernel_rfl
theorem Tabs.kept {w w':World} (h:Tabs w) (hb:∀ q,q < 6 → w'.heap[q]? = w.heap[q]?):Tabs w':=by
 refine ⟨?_,?_⟩
 ·have hp:=h.pow
  unfold Lib.TabIs World.var? at hp ⊢
  rw [pow_glob] at hp ⊢
  simp only [Option.bind_some] at hp ⊢
  rw [hb _ (by omega)]; exact hp
 ·exact (World.cell?_of_block (w:=w) (hb _ (by show 5 < 6; omega))).trans h.bru
theorem Tabs.room {w:World} (h:Tabs w):6 ≤ w.heap.size:=World.block_lt_of_cell? w _ h.bru
set_option maxRecDepth 100000 in
set_option maxHeartbeats 4000000 in
theorem write_summary (w:World) (n i:Nat) (v:Vec) (hn:n ≤ 5) (hi:i ≤ 5) (hv:∀ k,k ∈ v.list → -9223372036854775808 ≤ k ∧ k ≤ 9223372036854775807) (ht:Tabs w) :
  Calls Tryz.prog 71 #[.int .i64 n,headVal i v] w fun e w'=>e=.returned (.string ⟨(sumT n i (v.list.take n)).toArray⟩) ∧ Below w.heap.size w w':=by
 generalize hW1:(w.alloc (.cells #[.int .i64 i,.int .i64 v.a,.int .i64 v.b,.int .i64 v.c,.int .i64 v.d,.int .i64 v.e] 144)).alloc (.cells #[.int .i64 n,.slice none 0 0] 193)=W1
 have hB1:Below w.heap.size w W1:=by rw [← hW1]; exact ((Below.refl _ _).alloc (Nat.le_refl _) _).alloc (by simp) _
 have hr1:WrIn w.heap.size W1 (w.heap.size + 1) n []:=by
  refine ⟨.slice none 0 0,?_,Nat.le_succ _,World.ownsRow_nil _ _ _ _⟩
  rw [← hW1,show w.heap.size + 1=(w.alloc (.cells #[.int .i64 i,.int .i64 v.a,.int .i64 v.b,.int .i64 v.c,.int .i64 v.d,.int .i64 v.e] 144)).heap.size by simp]
  exact heap_alloc_new _ _
 have hp:=Lib.tabBelow_of_tabIs ht.pow
 have hh:=wr_head w.heap.size W1 (w.heap.size + 1) n i [] 115 v hr1 hn hi (by simp) hv (hp.on hB1)
 rw [show ((115:UInt8).toNat:Int)=115 from rfl,List.nil_append] at hh
 have HH:=hide hh
 have HB1:=hide hB1
 have HW1:=hide hW1
 have HT:=hide ht
 clear hW1 hB1 hr1 hp ht hh
 go_enter Tryz.func71,Tryz.ntmps71
 go_wp2_with (go_at_call 113; rw [HW1.out]; refine HH.out.mono ?_; rintro e w2 ⟨rfl,hw2,hb2,-⟩; refine Hid.out ?_)
 refine Lib.hid ?_
 have hB2:Below w.heap.size w w2:=HB1.out.trans hb2
 have hln:(headT 115 n i (v.list.take n)).length ≤ 1000:=by
  have h1:=vec_take_len hv (k:=n) hn
  have h2:=num_len (k:=n) (by omega) (by omega)
  have h3:=num_len (k:=i) (by omega) (by omega)
  simp only [headT,List.length_cons,List.length_append]; omega
 have HE:=hide (wr_end w.heap.size w2 (w.heap.size + 1) n _ hw2 (by simp [headT]) (by omega) (HT.out.later hB2).bru)
 have HB2:=hide hB2
 clear hw2 hb2 hB2 hln HH HW1 HB1
 go_wp2_with (go_at_call 114; refine HE.out.mono ?_; rintro e w3 ⟨rfl,hb3⟩; have HB3:=hide hb3; clear hb3)
 go_ret
 exact ⟨rfl,HB2.out.trans (HB3.out.mono HB2.out.size)⟩
end Go.Proofs.YtiplgdkpnhamaaaGreatDoor
