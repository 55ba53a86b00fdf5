/- The texts U37, U38, U39, U40, U41, U42, U43, U44, U45, U46, U47, U48, U49, U50, ZF2, joined. -/
import Derived.Test.YtiplgdkpnhamaaaGreatDoorE37
import Derived.Test.YtiplgdkpnhamaaaGreatDoorE33
import Derived.Recover
import Derived.Defers
import Derived.Tactics2
import Derived.Laws.Pointers
namespace Go.Proofs.YtiplgdkpnhamaaaGreatDoor
open Go.RowKit Go.Sort
structure TrRd (n:Nat) (vis:Vec) (t:Tr):Prop where
 rep:t.rep<n
 s1:1≤t.seq
 saw:∀ k:Nat,k<5→0≤t.saw.get k∧t.saw.get k≤(vis.put t.rep (t.seq - 1)).get k∧t.saw.get k≤maxSeq
 out:∀ k:Nat,n≤k→t.saw.get k=0
 keys:KeysOf t.wr (keysOf t.wr)
 ord:(keysOf t.wr).Pairwise placeLt
 k1:1≤(keysOf t.wr).length
 k16:(keysOf t.wr).length≤16
 wr:∀ p x,t.wr p=some x→WrRd p x
theorem list_get (v:Vec) {k:Nat} (hk:k<v.list.length):v.list[k]=v.get k:=by
 simp only [Vec.list,List.length_cons,List.length_nil] at hk
 have:k=0∨k=1∨k=2∨k=3∨k=4:=by omega
 rcases this with rfl | rfl | rfl | rfl | rfl <;> rfl
theorem list_getD (v:Vec) {k:Nat} (hk:k<5):v.list.getD k 0=v.get k:=by
 have:k=0∨k=1∨k=2∨k=3∨k=4:=by omega
 rcases this with rfl | rfl | rfl | rfl | rfl <;> rfl
theorem vec_take_back (v:Vec) {n:Nat} (h:∀ k:Nat,n≤k→v.get k=0):vecOf (v.list.take n)=v:=by
 refine vec_ext fun k hk=>?_
 have h1:(vecOf (v.list.take n)).get k=(v.list.take n).getD k 0:=by
  have:k=0∨k=1∨k=2∨k=3∨k=4:=by omega
  rcases this with rfl | rfl | rfl | rfl | rfl <;> rfl
 rw [h1]
 by_cases c:k<n
 ·rw [← list_getD v hk]
  simp [List.getD,c]
 ·rw [h k (by omega)]
  exact getD_out (by simp;omega)
def segL (F:Nat→Nat→Tr) (cnt:Nat→Nat) (r:Nat):List Tr:=(List.range (cnt r)).map (F r)
def upToL (F:Nat→Nat→Tr) (cnt:Nat→Nat) (r:Nat):List Tr:=(List.range r).flatMap (segL F cnt)
def restL (F:Nat→Nat→Tr) (cnt:Nat→Nat) (r:Nat):List Tr:=((List.range 5).drop r).flatMap (segL F cnt)
theorem restL_zero (F:Nat→Nat→Tr) (cnt:Nat→Nat):restL F cnt 0=upToL F cnt 5:=rfl
theorem restL_five (F:Nat→Nat→Tr) (cnt:Nat→Nat):restL F cnt 5=[]:=rfl
theorem restL_step (F:Nat→Nat→Tr) (cnt:Nat→Nat) {r:Nat} (hr:r<5):restL F cnt r=segL F cnt r ++ restL F cnt (r+1):=by
 have:r=0∨r=1∨r=2∨r=3∨r=4:=by omega
 rcases this with rfl | rfl | rfl | rfl | rfl <;> rfl
theorem upToL_step (F:Nat→Nat→Tr) (cnt:Nat→Nat) (r:Nat):upToL F cnt (r+1)=upToL F cnt r ++ segL F cnt r:=by
 unfold upToL
 rw [List.range_succ,List.flatMap_append,List.flatMap_cons,List.flatMap_nil,List.append_nil]
theorem seg_take (F:Nat→Nat→Tr) (cnt:Nat→Nat) (r:Nat) {j:Nat} (hj:j<cnt r):(segL F cnt r).take (j+1)=(segL F cnt r).take j ++ [F r j]:=by
 rw [List.take_succ_eq_append_getElem (by simpa [segL] using hj)]
 simp [segL]
theorem seg_drop (F:Nat→Nat→Tr) (cnt:Nat→Nat) (r:Nat) {j:Nat} (hj:j<cnt r):(segL F cnt r).drop j=F r j :: (segL F cnt r).drop (j+1):=by
 rw [List.drop_eq_getElem_cons (by simpa [segL] using hj)]
 simp [segL]
theorem txs_app (n:Nat) (a b:List Tr):txsT n (a ++ b)=txsT n a ++ txsT n b:=by simp [txsT]
theorem txs_one (n:Nat) (t:Tr):txsT n [t]=txT n t.saw t.wr:=by simp [txsT]
structure GotL (w:World) (L:List Tr) (lv:Value) (wr:World):Prop where
 ex:∃ ys:List (Tr × Nat),ys.map Prod.fst=L∧wr.ownsRow w.heap.size 139 8 lv ys.length (ys.flatMap trCells)∧∀ y,y ∈ ys→w.heap.size≤y.2∧TrIn wr y
theorem GotL.keep {w:World} {L:List Tr} {lv:Value} {wr w':World} (h:GotL w L lv wr) (hk:∀ q,w.heap.size≤q→q<wr.heap.size→w'.heap[q]? = wr.heap[q]?):GotL w L lv w':=by
 obtain ⟨ys,h1,h2,h3⟩:=h.ex
 refine ⟨ys,h1,own_move h2 fun g hg=>hk g (h2.lt g hg).1 (h2.lt g hg).2,fun y hy=>?_⟩
 obtain ⟨a,b⟩:=h3 y hy
 exact ⟨a,b.move (hk y.2 a b.lt)⟩
structure LRead (w:World) (rb n:Nat) (t:ByteArray) (m:Bool) (a':Nat) (u:List UInt8) (vis:Vec) (L:List Tr) (lv:Value) (wr:World):Prop where
 rd:RdIn wr rb n t a'
 rem:Rem m (t.data.toList.drop a') u
 tch:Touch (fun q=>q=rb) w wr
 vis:Blk wr w.heap.size vis.cells 104
 got:GotL w L lv wr
theorem LRead.later {w:World} {rb n:Nat} {t:ByteArray} {m:Bool} {a':Nat} {u:List UInt8} {vis:Vec} {L:List Tr} {lv:Value} {wr w2:World} (h:LRead w rb n t m a' u vis L lv wr) (hb:Below wr.heap.size wr w2):LRead w rb n t m a' u vis L lv w2:=
 ⟨h.rd.later hb,h.rem,h.tch.then (Touch.ofBelow hb),h.vis.below hb,h.got.keep fun q _ hq=>hb.block q hq⟩
def EndsL (w:World) (rb n:Nat) (t:ByteArray) (m:Bool) (a':Nat) (u:List UInt8) (L:List Tr) (e:Ending) (w':World):Prop:=
 Touch (fun q=>q=rb) w w'∧((∃ lv,e=.returned lv∧GotL w L lv w'∧RdIn w' rb n t a'∧Rem m (t.data.toList.drop a') u)∨(m=false∧e=fault))
theorem info_tx:(Tryz.prog.info? 139).map (fun i=>(i.zero,i.size,i.bytes))=some (some (.agg #[.int .i64 0,.int .i64 0,.int .i64 0,.int .i64 0,.int .i64 0,.int .i64 0,.int .i64 0,.map none]),8,64):=by kernel_rfl
end Go.Proofs.YtiplgdkpnhamaaaGreatDoor
namespace Go.Proofs.YtiplgdkpnhamaaaGreatDoor
open Go.RowKit Go.Sort
set_option maxRecDepth 100000 in
set_option maxHeartbeats 8000000 in
theorem transactions_at (w:World) (rb n:Nat) (t:ByteArray) (a:Nat) (cl:List Int) (vis:Vec) (F:Nat→Nat→Tr) (cnt:Nat→Nat) (m:Bool) (u:List UInt8) (h:RdIn w rb n t a) (hn:n≤5) (hcl:cl.length=n) (hcv:∀ k:Nat,k<5→(vecOf cl).get k=cnt k) (hcb:∀ k (hk:k<cl.length),0≤cl[k]∧cl[k]≤vis.list.getD k 0∧cl[k]≤9223372036854775807) (hvs:vis.small) (hcn:∀ k:Nat,k<5→(cnt k:Int)≤vis.get k) (hF:∀ r j,r<5→j<cnt r→TrRd n vis (F r j)∧(F r j).rep=r∧(F r j).seq=vis.get r - cnt r+1+j) (hso:SawOk (upToL F cnt 5)) (htot:(upToL F cnt 5).length≤50000000) (hx:Rem m (t.data.toList.drop a) (vecT cl ++ (txsT n (upToL F cnt 5) ++ u))) (ht:Tabs w) :
  Calls Tryz.prog 123 #[bptr rb,vis.val] w (EndsL w rb n t m (a+(vecT cl).length+(txsT n (upToL F cnt 5)).length) u (upToL F cnt 5)):=by
 have hrb:=h.blk.lt
 obtain ⟨i0,hi,hz0,hz1,hz2⟩:=info_parts info_tx
 generalize hW0:w.alloc (.cells #[.int .i64 vis.a,.int .i64 vis.b,.int .i64 vis.c,.int .i64 vis.d,.int .i64 vis.e] 104)=W0
 have hB0:Below w.heap.size w W0:=by rw [← hW0];exact (Below.refl _ _).alloc (Nat.le_refl _) _
 have v0:Blk W0 w.heap.size vis.cells 104:=by rw [← hW0];exact heap_alloc_new w _
 have H0:Hid (LRead w rb n t m a (vecT cl ++ (txsT n (upToL F cnt 5) ++ u)) vis [] (.slice none 0 0) W0):=
  ⟨h.later hB0,hx,Touch.ofBelow hB0,v0,[],rfl,World.ownsRow_nil _ _ _ _,fun y hy=>by simp at hy⟩
 have c0:W0.cell? ⟨w.heap.size,0,none⟩=some (.int .i64 vis.a):=v0.cell 0
 have c1:W0.cell? ⟨w.heap.size,1,none⟩=some (.int .i64 vis.b):=v0.cell 1
 have c2:W0.cell? ⟨w.heap.size,2,none⟩=some (.int .i64 vis.c):=v0.cell 2
 have c3:W0.cell? ⟨w.heap.size,3,none⟩=some (.int .i64 vis.d):=v0.cell 3
 have c4:W0.cell? ⟨w.heap.size,4,none⟩=some (.int .i64 vis.e):=v0.cell 4
 have HV:=hide (vector_at W0 rb n t a cl vis m _ H0.out.rd hn hcl H0.out.rem hcb (ht.later hB0))
 have HH:=hide h
 have HW0:=hide hW0
 have HT:=hide ht
 have HFF:=hide (⟨hcv,hvs,hcn,hF,hso,htot⟩:_∧_∧_∧_∧_∧_)
 clear h hx hW0 hB0 ht v0 hcv hvs hcn hF hso htot hcb
 go_enter Tryz.func123,Tryz.ntmps123
 go_upto_region 1 with (fail)
 rw [HW0.out]
 clear HW0
 go_wp2_with (go_at_call 162;refine HV.out.mono ?_;rintro e w2 ⟨T2,⟨rfl,h2,r2⟩ | ⟨hm,rfl⟩⟩ <;> refine Hid.out ?_)
 all_goals refine Lib.hid ?_
 rotate_left
 ·exact ⟨rfl,H0.out.tch.then T2,Or.inr ⟨by first | exact hm | rfl,rfl⟩⟩
 have hvz:w.heap.size<W0.heap.size:=H0.out.vis.lt
 have H2:Hid (LRead w rb n t m (a+(vecT cl).length) (txsT n (upToL F cnt 5) ++ u) vis [] (.slice none 0 0) w2):=
  ⟨h2,r2,H0.out.tch.then T2,H0.out.vis.touch T2 (by omega),[],rfl,World.ownsRow_nil _ _ _ _,fun y hy=>by simp at hy⟩
 clear T2 h2 r2 HV H0 c0 c1 c2 c3 c4
 have HCV:Hid (∀ k:Nat,k<5→(vecOf cl).get k=cnt k):=HFF.out.1
 generalize vecOf cl=cv at *
 have hz2':w.heap.size<w2.heap.size:=H2.out.vis.lt
 go_upto_region 4 with (fail)
 generalize hW3:w2.alloc (.cells #[.int .i64 cv.a,.int .i64 cv.b,.int .i64 cv.c,.int .i64 cv.d,.int .i64 cv.e] 104)=W3
 have hB3:Below w2.heap.size w2 W3:=by rw [← hW3];exact (Below.refl _ _).alloc (Nat.le_refl _) _
 have H3:=hide (H2.out.later hB3)
 clear hW3 hB3 H2
 obtain ⟨ac,hac⟩:∃ ac,a+(vecT cl).length=ac:=⟨_,rfl⟩
 rw [hac] at H3
 have HAC:=hide hac
 clear hac
 go_loopw [6,7,8,9,14] (fun lv _ _ _ rr wr=>∃ (r:Nat) (ao:Option Addr) (ln cp:Nat),r≤5∧rr=.int .i64 r∧lv=.slice ao ln cp∧Hid (LRead w rb n t m (ac+(txsT n (upToL F cnt r)).length) (txsT n (restL F cnt r) ++ u) vis (upToL F cnt r) (.slice ao ln cp) wr)) (fun _ _ _ _ rr _=>5 - (intOf rr).toNat)
 case atStart=>exact ⟨0,_,_,_,Nat.zero_le _,rfl,rfl,by simpa [upToL,restL_zero,txsT] using H3⟩
 case round=>
  clear H3
  obtain ⟨r,ao,ln,cp,hr,rfl,rfl,HS⟩:=hrel
  by_cases hlt:r<5
  ·have hix:=idx5_at cv r hlt
   rw [HCV.out r hlt] at hix
   have hcr:=HFF.out.2.2.1 r hlt
   have hvr:=HFF.out.2.1 r hlt
   have cvs:wr.cell? ⟨w.heap.size,r,none⟩=some (.int .i64 (vis.get r)):=by rw [HS.out.vis.cell r];exact vec_cell _ hlt
   have HFr:Hid (∀ j,j<cnt r→TrRd n vis (F r j)∧(F r j).rep=r∧(F r j).seq=vis.get r - cnt r+1+j):=fun j hj=>HFF.out.2.2.2.1 r j hlt hj
   have g1:(r:Int)<5:=by omega
   obtain ⟨vr,hvr'⟩:∃ vr,vis.get r=vr:=⟨_,rfl⟩
   rw [hvr'] at cvs hcr hvr HFr
   have h0:0≤vr:=hvr.1
   have h1:vr≤1844674407370955161:=hvr.2
   obtain ⟨c,hc⟩:∃ c,cnt r=c:=⟨_,rfl⟩
   rw [hc] at hix hcr HFr
   have HC:=hide (⟨hc,hvr'⟩:_∧_)
   clear hc hvr hvr'
   go_upto_region 7 with (fail)
   have hls:(segL F cnt r).length=c:=by rw [← HC.out.1];simp [segL]
   go_loopw [6,9] (fun lv ss wj=>∃ (j:Nat) (ao:Option Addr) (ln cp:Nat),j≤c∧ss=.int .i64 (vr - c+1+j)∧lv=.slice ao ln cp∧Hid (LRead w rb n t m (ac+(txsT n (upToL F cnt r ++ (segL F cnt r).take j)).length) (txsT n ((segL F cnt r).drop j ++ restL F cnt (r+1)) ++ u) vis (upToL F cnt r ++ (segL F cnt r).take j) (.slice ao ln cp) wj)) (fun _ ss _=>(vr+1 - intOf ss).toNat)
   case atStart=>exact ⟨0,_,_,_,Nat.zero_le _,by simp,rfl,by simpa [restL_step F cnt hlt] using HS⟩
   case round=>
    clear HS cvs
    obtain ⟨j,ao,ln,cp,hj,rfl,rfl,HS⟩:=hrel
    have cvs:wr.cell? ⟨w.heap.size,r,none⟩=some (.int .i64 vr):=by rw [HS.out.vis.cell r,← HC.out.2];exact vec_cell _ hlt
    by_cases hjc:j<c
    ·have hTR:=HFr.out j hjc
     obtain ⟨sq,hsq⟩:∃ sq:Int,vr - c+1+j=sq:=⟨_,rfl⟩
     rw [hsq] at hTR ⊢
     have hle:sq≤vr:=by omega
     have hlo:1≤sq:=by omega
     have hjc':j<cnt r:=by rw [HC.out.1];exact hjc
     have hrem:=HS.out.rem
     have etx:txsT n ((segL F cnt r).drop j ++ restL F cnt (r+1))=txT n (F r j).saw (F r j).wr ++ txsT n ((segL F cnt r).drop (j+1) ++ restL F cnt (r+1)):=by rw [seg_drop F cnt r hjc'];simp [txsT]
     rw [etx,List.append_assoc] at hrem
     clear etx
     have hst:=seg_take F cnt r hjc'
     generalize F r j=tr at *
     obtain ⟨rep,seq,saw,mm⟩:=tr
     obtain ⟨tr1,tr2,tr3⟩:=hTR
     simp only at tr2 tr3
     subst tr2
     subst tr3
     have hsw:vecOf (saw.list.take n)=saw:=vec_take_back saw tr1.out
     have hln:(saw.list.take n).length=n:=by simp [Vec.list];omega
     have hTA:=transaction_at wr rb n t _ rep seq (saw.list.take n) mm vis (keysOf mm) m _ HS.out.rd hn hlt (by omega) (by omega) hln (fun k hk=>by
      have hk5:k<5:=by omega
      have e1:(saw.list.take n)[k]=saw.get k:=by rw [List.getElem_take];exact list_get saw _
      have h2:=tr1.saw k hk5
      rw [e1,list_getD _ hk5]
      exact ⟨h2.1,h2.2.1,Int.le_trans h2.2.2 (by decide)⟩) tr1.keys tr1.ord tr1.k1 tr1.k16 tr1.wr (by simpa [txT] using hrem) (HH.out.tabs HT.out HS.out.tch)
     rw [hsw] at hTA
     have HTA:=hide hTA
     have HG:=hide (⟨hst,hsq⟩:_∧_)
     have d0:wr.cell? ⟨w.heap.size,0,none⟩=some (.int .i64 vis.a):=HS.out.vis.cell 0
     have d1:wr.cell? ⟨w.heap.size,1,none⟩=some (.int .i64 vis.b):=HS.out.vis.cell 1
     have d2:wr.cell? ⟨w.heap.size,2,none⟩=some (.int .i64 vis.c):=HS.out.vis.cell 2
     have d3:wr.cell? ⟨w.heap.size,3,none⟩=some (.int .i64 vis.d):=HS.out.vis.cell 3
     have d4:wr.cell? ⟨w.heap.size,4,none⟩=some (.int .i64 vis.e):=HS.out.vis.cell 4
     clear hTA hrem hst hsw tr1 hsq
     go_wp2_with (go_at_call 170;refine HTA.out.mono ?_;rintro e w5 ⟨T5,⟨b,rfl,hb5,hm5,h5,r5⟩ | ⟨hm,rfl⟩⟩ <;> refine Hid.out ?_)
     all_goals refine Lib.hid ?_
     rotate_left
     ·exact ⟨rfl,HS.out.tch.then T5,Or.inr ⟨by first | exact hm | rfl,rfl⟩⟩
     have H5:Hid (LRead w rb n t m (ac+(txsT n (upToL F cnt rep ++ (segL F cnt rep).take j)).length+(vecT (saw.list.take n)).length+(numT (keysOf mm).length).length+(wrsT mm (keysOf mm)).length) (txsT n ((segL F cnt rep).drop (j+1) ++ restL F cnt (rep+1)) ++ u) vis (upToL F cnt rep ++ (segL F cnt rep).take j) (.slice ao ln cp) w5):=
      ⟨h5,r5,HS.out.tch.then T5,HS.out.vis.touch T5 (by omega),HS.out.got.keep fun q h1 h2=>T5.block q h2 (by omega)⟩
     have hzw:w.heap.size<wr.heap.size:=HS.out.vis.lt
     have HM5:=hide (⟨hb5,hm5⟩:_∧_)
     have HZ5:Hid (w.heap.size≤w5.heap.size):=H5.out.tch.size
     clear T5 h5 r5 hb5 hm5 HTA HS d0 d1 d2 d3 d4
     obtain ⟨ys,hy1,hy2,hy3⟩:=H5.out.got.ex
     have hyl:ys.length≤50000000:=by
      have e:ys.length=(upToL F cnt rep ++ (segL F cnt rep).take j).length:=by rw [← hy1];simp
      have:=HFF.out.2.2.2.2.2
      rw [← restL_zero] at this
      have hmono:(upToL F cnt rep ++ (segL F cnt rep).take j).length≤(restL F cnt 0).length:=by
       rw [restL_zero]
       have h5:upToL F cnt 5=upToL F cnt rep ++ restL F cnt rep:=by
        have:rep=0∨rep=1∨rep=2∨rep=3∨rep=4:=by omega
        rcases this with rfl | rfl | rfl | rfl | rfl <;> simp [upToL,restL,List.range,List.range.loop]
       rw [h5,restL_step F cnt hlt]
       simp only [List.length_append,List.length_take]
       omega
      omega
     have HY:=hide (⟨hy1,hy2,hy3⟩:_∧_∧_)
     clear hy1 hy2 hy3
     go_wp2_with (at_builtin;refine wpList_append_own _ rfl _ _ 106 rfl w.heap.size 139 i0 (.agg #[.int .i64 0,.int .i64 0,.int .i64 0,.int .i64 0,.int .i64 0,.int .i64 0,.int .i64 0,.map none]) 8 64 Tryz.underlying106 hi hz0 hz1 hz2 rfl (by decide) _ _ _ rfl (HY.out.2.1.alloc _) ⟨w5.heap.size,0,none⟩ 1 1 (trCells (⟨rep,seq,saw,mm⟩,b)) rfl rfl (cells_new w5 (trCells (⟨rep,seq,saw,mm⟩,b)) _) (by intro u' hu';simp [trCells] at hu';rcases hu' with rfl | rfl | rfl | rfl | rfl | rfl | rfl | rfl <;> rfl) (by unfold maxLen;omega) (by omega) (by have:=HZ5.out;simp;omega) ?_;intro v' w6 hown' hgrow hne;obtain ⟨a1,n1,c1,rfl⟩:=own_shape hown';have HO:=hide (⟨hown',hgrow⟩:_∧_);clear hown' hgrow hne)
     have HF6:Hid (LRead w rb n t m (ac+(txsT n (upToL F cnt rep ++ (segL F cnt rep).take (j+1))).length) (txsT n ((segL F cnt rep).drop (j+1) ++ restL F cnt (rep+1)) ++ u) vis (upToL F cnt rep ++ (segL F cnt rep).take (j+1)) (.slice a1 n1 c1) w6):=by
      have hg:(w5.alloc (.cells (trCells (⟨rep,seq,saw,mm⟩,b)).toArray 139)).grownBy w6 (Value.slice ao ln cp).ownBlock:=HO.out.2
      have hzr:=HY.out.2.1
      have eL:upToL F cnt rep ++ (segL F cnt rep).take (j+1)=(upToL F cnt rep ++ (segL F cnt rep).take j) ++ [⟨rep,seq,saw,mm⟩]:=by rw [HG.out.1,List.append_assoc]
      have ea:ac+(txsT n (upToL F cnt rep ++ (segL F cnt rep).take (j+1))).length=ac+(txsT n (upToL F cnt rep ++ (segL F cnt rep).take j)).length+(vecT (saw.list.take n)).length+(numT (keysOf mm).length).length+(wrsT mm (keysOf mm)).length:=by
       rw [eL,txs_app,txs_one];simp only [txT,List.length_append];omega
      rw [ea]
      have hkeep:∀ q o,w5.heap[q]? = some o→(∀ cs f,o≠Obj.cells cs 139 f)→w6.heap[q]? = w5.heap[q]?:=fun q o hq hno=>by
       have hql:=(Array.getElem?_eq_some_iff.1 hq).1
       refine (hg.block q (by simp;omega) (fun e=>?_)).trans (Below.heap_alloc _ _ _ hql)
       rcases hzr.2 with ⟨e',-⟩ | ⟨gg,cap,cur,e',-,hgg,-⟩
       ·rw [e'] at e;simp [Value.ownBlock] at e
       ·rw [e'] at e
        have:gg=q:=by simpa [Value.ownBlock] using e.symm
        subst this
        rw [hgg] at hq
        exact hno _ _ (Option.some.inj hq).symm
      have hmk:∀ y:Tr × Nat,TrIn w5 y→TrIn w6 y:=fun y hy=>by
       obtain ⟨D,⟨es,clock,g1,-⟩,-⟩:=hy.ex
       exact hy.move (hkeep y.2 _ g1 (fun cs f e=>by cases e))
      refine ⟨⟨H5.out.rd.blk.move (hkeep rb _ H5.out.rd.blk (fun cs f e=>by injection e with _ e;exact absurd e (by decide))),H5.out.rd.le,H5.out.rd.sm,H5.out.rd.gl⟩,H5.out.rem,?_,H5.out.vis.move (hkeep _ _ H5.out.vis (fun cs f e=>by injection e with _ e;exact absurd e (by decide))),?_⟩
      ·have hB:Touch (fun q=>q=rb) w (w5.alloc (.cells (trCells (⟨rep,seq,saw,mm⟩,b)).toArray 139)):=H5.out.tch.alloc _
       refine ⟨hg.os.trans hB.os,hg.tape.trans hB.tape,hg.output.trans hB.output,Nat.le_trans hB.size hg.size,fun q hq hne=>(hg.block q (Nat.lt_of_lt_of_le hq hB.size) (fun e=>?_)).trans (hB.block q hq hne)⟩
       have:=(hzr.lt q e.symm).1
       omega
      ·refine ⟨ys ++ [(⟨rep,seq,saw,mm⟩,b)],?_,?_,fun y hy=>?_⟩
       ·rw [List.map_append,HY.out.1,eL];rfl
       ·rw [List.length_append,List.length_singleton,List.flatMap_append,List.flatMap_cons,List.flatMap_nil,List.append_nil]
        exact HO.out.1
       ·rw [List.mem_append,List.mem_singleton] at hy
        rcases hy with hy | rfl
        ·exact ⟨(HY.out.2.2 y hy).1,hmk y (HY.out.2.2 y hy).2⟩
        ·exact ⟨by have:=HM5.out.1;show w.heap.size≤b;omega,hmk _ HM5.out.2⟩
     clear HO HY H5 HM5
     have hsq:=HG.out.2
     exact ⟨⟨j+1,_,_,_,by omega,by rw [← hsq];congr 1;omega,rfl,HF6.out⟩,by simp [intOf];omega⟩
    ·have hjn:j=c:=by omega
     subst hjn
     have hgt:vr<vr - (j:Int)+1+j:=by omega
     have hst2:(segL F cnt r).take j=segL F cnt r:=List.take_of_length_le (by omega)
     have hsd2:(segL F cnt r).drop j=[]:=List.drop_of_length_le (by omega)
     rw [hst2,hsd2,List.nil_append,← upToL_step] at HS
     go_wp2_with fail
     exact ⟨⟨r+1,_,_,_,by omega,by go_num,rfl,HS.out⟩,by simp [intOf];omega⟩
  ·have hr5:r=5:=by omega
   subst hr5
   rw [restL_five] at HS
   obtain ⟨ys,hy1,hy2,hy3⟩:=HS.out.got.ex
   have hyl:ys.length=(upToL F cnt 5).length:=by rw [← hy1];simp
   have HCK:=hide (check_saw wr w.heap.size ys _ hy2 (by rw [hyl];exact HFF.out.2.2.2.2.2) (fun x hx=>by
    have hm:x.1 ∈ upToL F cnt 5:=by rw [← hy1];exact List.mem_map.2 ⟨x,hx,rfl⟩
    obtain ⟨r,hr,hs⟩:=List.mem_flatMap.1 hm
    obtain ⟨j,hj,e⟩:=List.mem_map.1 hs
    have hr5:r<5:=by simpa using hr
    have hjc:j<cnt r:=by simpa using hj
    obtain ⟨t1,t2,t3⟩:=HFF.out.2.2.2.1 r j hr5 hjc
    have hv:=HFF.out.2.1 r hr5
    have hc:=HFF.out.2.2.1 r hr5
    rw [e] at t1 t2 t3
    refine ⟨by omega,by have:=t1.s1;omega,by rw [t3];have:=hv.2;simp only [maxSeq] at this;omega,fun k hk=>⟨(t1.saw k hk).1,(t1.saw k hk).2.2⟩⟩) (by rw [hy1];exact HFF.out.2.2.2.2.1))
   clear hy1 hy2 hy3 hyl
   go_wp2_with (go_at_call 171;refine HCK.out.mono ?_;rintro e w9 ⟨rfl,hb9⟩;have H9:=hide (HS.out.later hb9);clear hb9)
   go_ret
   refine ⟨H9.out.tch,Or.inl ⟨_,rfl,H9.out.got,?_,?_⟩⟩
   ·rw [HAC.out];exact H9.out.rd
   ·rw [HAC.out];simpa [txsT] using H9.out.rem
end Go.Proofs.YtiplgdkpnhamaaaGreatDoor
namespace Go.Proofs.YtiplgdkpnhamaaaGreatDoor
open Go.RowKit Go.Sort
theorem GotL.low {w w0:World} {L:List Tr} {lv:Value} {wr:World} (h:GotL w L lv wr) (hs:w0.heap.size≤w.heap.size):GotL w0 L lv wr:=by
 obtain ⟨ys,h1,h2,h3⟩:=h.ex
 exact ⟨ys,h1,ownsRow_low h2 hs,fun y hy=>⟨Nat.le_trans hs (h3 y hy).1,(h3 y hy).2⟩⟩
theorem GotL.shape {w:World} {L:List Tr} {lv:Value} {wr:World} (h:GotL w L lv wr):∃ a l k,lv=.slice a l k:=by
 obtain ⟨ys,h1,h2,h3⟩:=h.ex
 exact own_shape h2
structure AnsOk (n i:Nat) (vis:Vec) (F:Nat→Nat→Tr) (cnt:Nat→Nat):Prop where
 n5:n≤5
 lt:i<n
 sm:vis.small
 out:∀ k:Nat,n≤k→vis.get k=0
 cle:∀ k:Nat,k<5→(cnt k:Int)≤vis.get k
 tr:∀ r j,r<5→j<cnt r→TrRd n vis (F r j)∧(F r j).rep=r∧(F r j).seq=vis.get r - cnt r+1+j
 so:SawOk (upToL F cnt 5)
 tot:(upToL F cnt 5).length≤50000000
theorem countP_seg {n:Nat} {i:Nat} {vis:Vec} {F:Nat→Nat→Tr} {cnt:Nat→Nat} (h:AnsOk n i vis F cnt) {k r:Nat} (hr:r<5):(segL F cnt r).countP (fun t=>decide (t.rep=k))=if r=k then cnt r else 0:=by
 unfold segL
 rw [List.countP_map]
 have hc:∀ j,j ∈ List.range (cnt r)→((fun t:Tr=>decide (t.rep=k)) ∘ F r) j=decide (r=k):=fun j hj=>by
  simp [(h.tr r j hr (by simpa using hj)).2.1]
 rw [List.countP_congr (q:=fun _=>decide (r=k)) (fun j hj=>by rw [hc j hj])]
 by_cases c:r=k <;> simp [c]
theorem counts_cnt {n:Nat} {i:Nat} {vis:Vec} {F:Nat→Nat→Tr} {cnt:Nat→Nat} (h:AnsOk n i vis F cnt) {k:Nat} (hk:k<5):(countsOf (upToL F cnt 5)).get k=cnt k:=by
 have hreps:∀ t,t ∈ upToL F cnt 5→t.rep<5:=fun t ht=>by
  obtain ⟨r,hr,hs⟩:=List.mem_flatMap.1 ht
  obtain ⟨j,hj,rfl⟩:=List.mem_map.1 hs
  have hr5:r<5:=by simpa using hr
  rw [(h.tr r j hr5 (by simpa using hj)).2.1];exact hr5
 rw [counts_get _ hreps]
 have e:upToL F cnt 5=segL F cnt 0 ++ (segL F cnt 1 ++ (segL F cnt 2 ++ (segL F cnt 3 ++ segL F cnt 4))):=by
  simp [upToL,List.range,List.range.loop]
 rw [e]
 simp only [List.countP_append]
 rw [countP_seg h (by omega),countP_seg h (by omega),countP_seg h (by omega),countP_seg h (by omega),countP_seg h (by omega)]
 have:k=0∨k=1∨k=2∨k=3∨k=4:=by omega
 rcases this with rfl | rfl | rfl | rfl | rfl <;> simp
abbrev put7 (w:World) (b:Nat) (i:Int) (v:Vec) (lv:Value):World:=(put6 w b i v).setCell ⟨b,6,none⟩ lv
abbrev ansVal (i:Int) (v:Vec) (lv:Value):Value:=.agg #[.int .i64 i,.int .i64 v.a,.int .i64 v.b,.int .i64 v.c,.int .i64 v.d,.int .i64 v.e,lv]
theorem put7_blk {w:World} {b:Nat} {x0 x1 x2 x3 x4 x5 x6:Value} {t:TypeId} (i:Int) (v:Vec) (lv:Value) (h:Blk w b [x0,x1,x2,x3,x4,x5,x6] t):Blk (put7 w b i v lv) b [.int .i64 i,.int .i64 v.a,.int .i64 v.b,.int .i64 v.c,.int .i64 v.d,.int .i64 v.e,lv] t:=by
 have a0:=h.set 0 (.int .i64 i)
 have a1:=a0.set 1 (.int .i64 v.a)
 have a2:=a1.set 2 (.int .i64 v.b)
 have a3:=a2.set 3 (.int .i64 v.c)
 have a4:=a3.set 4 (.int .i64 v.d)
 have a5:=a4.set 5 (.int .i64 v.e)
 exact a5.set 6 lv
theorem put7_touch (w:World) (b:Nat) (i:Int) (v:Vec) (lv:Value):Touch (fun q=>q=b) w (put7 w b i v lv):=
 (put6_touch w b i v).setCell (p:=⟨b,6,none⟩) (Or.inl rfl) _
abbrev zeroAns:List Value:=[.int .i64 0,.int .i64 0,.int .i64 0,.int .i64 0,.int .i64 0,.int .i64 0,.slice none 0 0]
noncomputable def ansBody (n i:Nat) (vis:Vec) (L:List Tr):List UInt8:=headT 97 n i (vis.list.take n) ++ (vecT ((countsOf L).list.take n) ++ txsT n L)
theorem ansT_eq (n i:Nat) (vis:Vec) (L:List Tr):ansT n i vis L=ansBody n i vis L ++ sealT (ansBody n i vis L):=rfl
set_option maxRecDepth 100000 in
set_option maxHeartbeats 8000000 in
theorem read_answer (w:World) (n i:Nat) (t:ByteArray) (vis:Vec) (F:Nat→Nat→Tr) (cnt:Nat→Nat) (m:Bool) (hA:AnsOk n i vis F cnt) (hs:t.size≤200000000000) (hx:Rem m t.data.toList (ansBody n i vis (upToL F cnt 5))) (ht:Tabs w) :
  Calls Tryz.prog 80 #[.string t,.int .i64 n] w fun e w'=>Below w.heap.size w w'∧((t.data.toList=ansT n i vis (upToL F cnt 5)∧∃ lv,e=.returned (ansVal i vis lv)∧GotL w (upToL F cnt 5) lv w')∨(¬ t.data.toList=ansT n i vis (upToL F cnt 5)∧e=fault)):=by
 have hsaw:vecOf (vis.list.take n)=vis:=vec_take_back vis hA.out
 have hcnt0:∀ k:Nat,n≤k→(countsOf (upToL F cnt 5)).get k=0:=fun k hk=>by
  by_cases h5:k<5
  ·rw [counts_cnt hA h5]
   have h1:=hA.cle k h5
   rw [hA.out k hk] at h1
   omega
  ·unfold Vec.get Vec.list
   rw [Int.toNat_natCast,List.getD_eq_getElem?_getD,List.getElem?_eq_none (by simp;omega)];rfl
 generalize hW1:(w.alloc (.cells #[.int .i64 0,.int .i64 0,.int .i64 0,.int .i64 0,.int .i64 0,.int .i64 0,.slice none 0 0] 154)).alloc (.cells #[.int .i64 n,.string t,.int .i64 0] 199)=W1
 have hB1:Below w.heap.size w W1:=by rw [← hW1];exact ((Below.refl _ _).alloc (Nat.le_refl _) _).alloc (by simp) _
 have b0:Blk W1 w.heap.size zeroAns 154:=by
  rw [← hW1];exact Blk.alloc (heap_alloc_new w _) _
 have hr:RdIn W1 (w.heap.size+1) n t 0:=by
  refine ⟨?_,Nat.zero_le _,hs,by have:=ht.room;omega⟩
  rw [← hW1,show w.heap.size+1=(w.alloc (.cells #[.int .i64 0,.int .i64 0,.int .i64 0,.int .i64 0,.int .i64 0,.int .i64 0,.slice none 0 0] 154)).heap.size by simp]
  exact heap_alloc_new _ _
 have hln:(vis.list.take n).length=n:=by have:=hA.n5;simp [Vec.list];omega
 have hlc:((countsOf (upToL F cnt 5)).list.take n).length=n:=by have:=hA.n5;simp [Vec.list];omega
 have hh:=head_at W1 (w.heap.size+1) n t 0 i 97 (vis.list.take n) m (vecT ((countsOf (upToL F cnt 5)).list.take n) ++ (txsT n (upToL F cnt 5) ++ [])) hr hA.n5 hA.lt hln (by simpa [ansBody] using hx) (fun k hk=>by
  have e1:(vis.list.take n)[k]=vis.get k:=by rw [List.getElem_take];exact list_get vis _
  rw [e1]
  exact hA.sm k (by have:=hA.n5;omega)) (ht.later hB1)
 rw [show ((97:UInt8).toNat:Int)=97 from rfl,Nat.zero_add,hsaw] at hh
 have HK:=hide hh
 have HS:=hide (⟨hB1,b0,hr⟩:_∧_∧_)
 have HW1:=hide hW1
 have HX:=hide hx
 have HT:=hide ht
 have HA:=hide hA
 have HC:=hide (⟨hcnt0,hlc,hln⟩:_∧_∧_)
 have hsz:t.data.toList.length=t.size:=by simp
 clear hW1 hB1 b0 hr hh hx ht hA hcnt0 hlc hln hsaw
 go_enter Tryz.func80,Tryz.ntmps80
 go_wp2_with (go_at_call 116;rw [HW1.out];refine HK.out.mono ?_;rintro e w2 ⟨T2,⟨rfl,h2,r2⟩ | ⟨hm,rfl⟩⟩ <;> refine Hid.out ?_)
 all_goals refine Lib.hid ?_
 rotate_left
 ·refine ⟨rfl,below_tch HS.out.1 T2 (by omega) HS.out.1.size,Or.inr ⟨?_,rfl⟩⟩
  have hx:=HX.out
  rw [hm] at hx
  exact rem_cut hx
 have hB2:Below w.heap.size w w2:=below_tch HS.out.1 T2 (by omega) HS.out.1.size
 have b2:Blk w2 w.heap.size zeroAns 154:=HS.out.2.1.touch T2 (by omega)
 have hl2:w.heap.size+1<w2.heap.size:=h2.blk.lt
 have HS2:=hide (⟨hB2,b2,h2,r2⟩:_∧_∧_∧_)
 clear h2 r2 T2 HK HW1 hB2 b2 HS
 go_upto_region 3 with (fail)
 generalize hW2:w2.alloc (.cells #[.int .i64 i,.int .i64 vis.a,.int .i64 vis.b,.int .i64 vis.c,.int .i64 vis.d,.int .i64 vis.e] 144)=W2
 have hBa:Below w2.heap.size w2 W2:=by rw [← hW2];exact (Below.refl _ _).alloc (Nat.le_refl _) _
 have bh:Blk W2 w2.heap.size [.int .i64 i,.int .i64 vis.a,.int .i64 vis.b,.int .i64 vis.c,.int .i64 vis.d,.int .i64 vis.e] 144:=by rw [← hW2];exact heap_alloc_new w2 _
 have hB3:Below w.heap.size w W2:=HS2.out.1.trans (hBa.mono HS2.out.1.size)
 have hz2:w2.heap.size<W2.heap.size:=bh.lt
 have hTA:=transactions_at W2 (w.heap.size+1) n t _ ((countsOf (upToL F cnt 5)).list.take n) vis F cnt m [] (HS2.out.2.2.1.later hBa) HA.out.n5 HC.out.2.1 (fun k hk=>by rw [vec_take_back _ HC.out.1];exact counts_cnt HA.out hk) (fun k hk=>by
  have hk5:k<5:=by have:=HA.out.n5;have:=HC.out.2.1;omega
  have e1:((countsOf (upToL F cnt 5)).list.take n)[k]=(countsOf (upToL F cnt 5)).get k:=by rw [List.getElem_take];exact list_get _ _
  have h1:=HA.out.cle k hk5
  have h2:=HA.out.sm k hk5
  rw [e1,counts_cnt HA.out hk5,list_getD _ hk5]
  exact ⟨by omega,h1,by have:=h2.2;simp only [maxSeq] at this;omega⟩) HA.out.sm HA.out.cle HA.out.tr HA.out.so HA.out.tot HS2.out.2.2.2 (HT.out.later hB3)
 have c0:W2.cell? ⟨w2.heap.size,0,none⟩=some (.int .i64 i):=bh.cell 0
 have c1:W2.cell? ⟨w2.heap.size,1,none⟩=some (.int .i64 vis.a):=bh.cell 1
 have c2:W2.cell? ⟨w2.heap.size,2,none⟩=some (.int .i64 vis.b):=bh.cell 2
 have c3:W2.cell? ⟨w2.heap.size,3,none⟩=some (.int .i64 vis.c):=bh.cell 3
 have c4:W2.cell? ⟨w2.heap.size,4,none⟩=some (.int .i64 vis.d):=bh.cell 4
 have c5:W2.cell? ⟨w2.heap.size,5,none⟩=some (.int .i64 vis.e):=bh.cell 5
 have HS3:=hide (⟨hB3,HS2.out.2.1.below hBa,bh⟩:Below w.heap.size w W2∧Blk W2 w.heap.size zeroAns 154∧Blk W2 w2.heap.size _ _)
 have HTA:=hide hTA
 clear hTA hW2 hBa bh hB3 HS2
 go_wp2_with (go_at_call 123;refine HTA.out.mono ?_;rintro e w3 ⟨T3,⟨lv,rfl,hg3,h3,r3⟩ | ⟨hm,rfl⟩⟩ <;> refine Hid.out ?_)
 all_goals refine Lib.hid ?_
 rotate_left
 ·refine ⟨rfl,below_tch HS3.out.1 T3 (by omega) HS3.out.1.size,Or.inr ⟨?_,rfl⟩⟩
  have hx:=HX.out
  rw [hm] at hx
  exact rem_cut hx
 obtain ⟨la,ll,lc,rfl⟩:=hg3.shape
 have hB3:Below w.heap.size w w3:=below_tch HS3.out.1 T3 (by omega) HS3.out.1.size
 have hbl:(headT 97 n i (vis.list.take n)).length+(vecT ((countsOf (upToL F cnt 5)).list.take n)).length+(txsT n (upToL F cnt 5)).length=(ansBody n i vis (upToL F cnt 5)).length:=by simp only [ansBody,List.length_append];omega
 rw [hbl] at h3
 obtain ⟨r,hr⟩:=rem_whole HX.out (by rw [hsz];exact h3.le)
 have htk:t.data.toList.take (ansBody n i vis (upToL F cnt 5)).length=ansBody n i vis (upToL F cnt 5):=by rw [hr,List.take_left]
 have hdr:t.data.toList.drop (ansBody n i vis (upToL F cnt 5)).length=r:=by rw [hr,List.drop_left]
 have he:=rd_end w3 (w.heap.size+1) n t _ h3 (HT.out.later hB3)
 rw [htk,hdr] at he
 have HE:=hide he
 have HR:=hide hr
 have HS4:=hide (⟨hB3,HS3.out.2.1.touch T3 (by omega),HS3.out.2.2.touch T3 (by omega),hg3⟩:_∧_∧_∧_)
 clear h3 r3 T3 HTA HS3 htk hdr he hr hB3 hg3 hbl c0 c1 c2 c3 c4 c5
 go_wp2_with (go_at_call 117;refine HE.out.mono ?_;rintro e w4 ⟨b4,⟨hd,rfl⟩ | ⟨hd,rfl⟩⟩ <;> refine Hid.out ?_)
 all_goals refine Lib.hid ?_
 rotate_left
 ·refine ⟨rfl,HS4.out.1.trans (b4.mono HS4.out.1.size),Or.inr ⟨fun e=>hd ?_,rfl⟩⟩
  have e2:=HR.out
  rw [e,ansT_eq] at e2
  exact (List.append_cancel_left e2).symm
 have HD:=hide hd
 have hb0:=HS4.out.2.1.below b4
 have hbh:=HS4.out.2.2.1.below b4
 have r0:w4.cell? ⟨w.heap.size,0,none⟩=some (.int .i64 0):=hb0.cell 0
 have r1:w4.cell? ⟨w.heap.size,1,none⟩=some (.int .i64 0):=hb0.cell 1
 have r2:w4.cell? ⟨w.heap.size,2,none⟩=some (.int .i64 0):=hb0.cell 2
 have r3:w4.cell? ⟨w.heap.size,3,none⟩=some (.int .i64 0):=hb0.cell 3
 have r4:w4.cell? ⟨w.heap.size,4,none⟩=some (.int .i64 0):=hb0.cell 4
 have r5:w4.cell? ⟨w.heap.size,5,none⟩=some (.int .i64 0):=hb0.cell 5
 have r6:w4.cell? ⟨w.heap.size,6,none⟩=some (.slice none 0 0):=hb0.cell 6
 have q0:w4.frozen? ⟨w.heap.size,0,none⟩=false:=hb0.frozen 0
 have q1:w4.frozen? ⟨w.heap.size,1,none⟩=false:=hb0.frozen 1
 have q2:w4.frozen? ⟨w.heap.size,2,none⟩=false:=hb0.frozen 2
 have q3:w4.frozen? ⟨w.heap.size,3,none⟩=false:=hb0.frozen 3
 have q4:w4.frozen? ⟨w.heap.size,4,none⟩=false:=hb0.frozen 4
 have q5:w4.frozen? ⟨w.heap.size,5,none⟩=false:=hb0.frozen 5
 have q6:w4.frozen? ⟨w.heap.size,6,none⟩=false:=hb0.frozen 6
 have d0:w4.cell? ⟨w2.heap.size,0,none⟩=some (.int .i64 i):=hbh.cell 0
 have d1:w4.cell? ⟨w2.heap.size,1,none⟩=some (.int .i64 vis.a):=hbh.cell 1
 have d2:w4.cell? ⟨w2.heap.size,2,none⟩=some (.int .i64 vis.b):=hbh.cell 2
 have d3:w4.cell? ⟨w2.heap.size,3,none⟩=some (.int .i64 vis.c):=hbh.cell 3
 have d4:w4.cell? ⟨w2.heap.size,4,none⟩=some (.int .i64 vis.d):=hbh.cell 4
 have d5:w4.cell? ⟨w2.heap.size,5,none⟩=some (.int .i64 vis.e):=hbh.cell 5
 have HS5:=hide (⟨HS4.out.1.trans (b4.mono HS4.out.1.size),hb0,HS4.out.2.2.2.keep fun q _ hq=>b4.block q hq⟩:Below w.heap.size w w4∧Blk w4 w.heap.size zeroAns 154∧GotL W2 (upToL F cnt 5) (.slice la ll lc) w4)
 clear hd b4 hb0 hbh HE HS4
 go_wp2_with fail
 have hb5:=put7_blk i vis (.slice la ll lc) HS5.out.2.1
 have hT5:=put7_touch w4 w.heap.size i vis (.slice la ll lc)
 unfold put7 put6 at hb5 hT5
 generalize World.setCell _ _ _=W7 at *
 have s0:W7.cell? ⟨w.heap.size,0,none⟩=some (.int .i64 i):=hb5.cell 0
 have s1:W7.cell? ⟨w.heap.size,1,none⟩=some (.int .i64 vis.a):=hb5.cell 1
 have s2:W7.cell? ⟨w.heap.size,2,none⟩=some (.int .i64 vis.b):=hb5.cell 2
 have s3:W7.cell? ⟨w.heap.size,3,none⟩=some (.int .i64 vis.c):=hb5.cell 3
 have s4:W7.cell? ⟨w.heap.size,4,none⟩=some (.int .i64 vis.d):=hb5.cell 4
 have s5:W7.cell? ⟨w.heap.size,5,none⟩=some (.int .i64 vis.e):=hb5.cell 5
 have s6:W7.cell? ⟨w.heap.size,6,none⟩=some (.slice la ll lc):=hb5.cell 6
 refine bodyPost_ret (v:=ansVal i vis (.slice la ll lc)) (by simp [results,Tryz.results80,go_sem,s0,s1,s2,s3,s4,s5,s6]) rfl ⟨below_tch HS5.out.1 hT5 (Nat.le_refl _) HS5.out.1.size,Or.inl ⟨?_,_,rfl,?_⟩⟩
 ·rw [HR.out,HD.out];rfl
 ·exact (HS5.out.2.2.keep fun q h1 h2=>hT5.block q h2 (by omega)).low (by omega)
end Go.Proofs.YtiplgdkpnhamaaaGreatDoor
namespace Go.Proofs.YtiplgdkpnhamaaaGreatDoor
open Go.RowKit Go.Sort
set_option maxRecDepth 100000 in
theorem catch_fault_a (eb:Nat) (x:Int) (w:World) (hc:w.cell? ⟨eb,0,none⟩=some (.int .i64 x)) (hz:w.frozen? ⟨eb,0,none⟩=false) :
  CallsD Tryz.prog 122 #[bptr eb] (.panicking ({ v:=.iface 196 (.agg #[]),recovered:=false } :: [])) w fun e u' w'=>
   e=.returned (.tuple #[])∧u'=.panicking ({ v:=.iface 196 (.agg #[]),recovered:=true } :: [])∧w'=(w.alloc (.cells #[] 196)).setCell ⟨eb,0,none⟩ (.int .i64 6):=by
 refine callsD_of_wpS Tryz.func122 rfl fun c₀ cs hu=>?_
 apply wpS_seq
 apply wpS_region
 simp [wpOpsS,go_sem,recoverD,hu,Tryz.ntmps122,Exit.thenS]
 refine wpS_of_wp ?_
 change Code.wp _ _ _ { tmps:=#[bptr eb,undef,undef,undef,.iface 196 (.agg #[]),undef,undef,undef,undef,undef],defers:=[] } _
 have ha:=as_fault
 have hlt:=World.block_lt_of_cell? w _ hc
 go_wp2_with fail
 cases c₀
 simp_all [bodyPostS,results,Tryz.results122]
set_option maxRecDepth 100000 in
theorem catch_idle_a (eb:Nat) (w:World) :
  CallsD Tryz.prog 122 #[bptr eb] .returning w fun e u' w'=>e=.returned (.tuple #[])∧u'=.returning∧w'=w:=by
 refine callsD_of_wpS Tryz.func122 rfl fun c₀ cs hu=>?_
 apply wpS_seq
 apply wpS_region
 simp [wpOpsS,go_sem,recoverD,hu,Tryz.ntmps122,Exit.thenS]
 refine wpS_of_wp ?_
 change Code.wp _ _ _ { tmps:=#[bptr eb,undef,undef,undef,.nilIface,undef,undef,undef,undef,undef],defers:=[] } _
 go_wp2_with fail
 cases c₀
 simp_all [bodyPostS,results,Tryz.results122]
set_option maxRecDepth 100000 in
set_option maxHeartbeats 8000000 in
theorem read_text_ans (w:World) (n i:Nat) (t:ByteArray) (vis:Vec) (L:List Tr) (P:Prop) (hC:∀ W,Below w.heap.size w W→Calls Tryz.prog 80 #[.string t,.int .i64 n] W fun e w'=>Below W.heap.size W w'∧((P∧∃ lv,e=.returned (ansVal i vis lv)∧GotL W L lv w')∨(¬ P∧e=fault))) :
  Calls Tryz.prog 79 #[.func (.func 80) #[] #[],.string t,.int .i64 n] w fun e w'=>Below w.heap.size w w'∧((P∧∃ lv,e=.returned (.tuple #[ansVal i vis lv,.int .i64 0])∧GotL w L lv w')∨(¬ P∧e=.returned (.tuple #[ansVal 0 noVec (.slice none 0 0),.int .i64 6]))):=by
 have hmf:∀ (fn:Fn) (first cap:Array Value) (w:World),(Instr.makeFunc fn first cap).run Tryz.prog w=.ok (.func fn first cap) w:=fun _ _ _ _=>rfl
 generalize hW1:(w.alloc (.cells #[.int .i64 0,.int .i64 0,.int .i64 0,.int .i64 0,.int .i64 0,.int .i64 0,.slice none 0 0] 154)).alloc (.cells #[.int .i64 0] 54)=W1
 have hB1:Below w.heap.size w W1:=by rw [← hW1];exact ((Below.refl _ _).alloc (Nat.le_refl _) _).alloc (by simp) _
 have b0:Blk W1 w.heap.size zeroAns 154:=by
  rw [← hW1];exact Blk.alloc (heap_alloc_new w _) _
 have b1:Blk W1 (w.heap.size+1) [.int .i64 0] 54:=by
  rw [← hW1,show w.heap.size+1=(w.alloc (.cells #[.int .i64 0,.int .i64 0,.int .i64 0,.int .i64 0,.int .i64 0,.int .i64 0,.slice none 0 0] 154)).heap.size by simp]
  exact heap_alloc_new _ _
 have HC:=hide (hC W1 hB1)
 have HS:=hide (⟨hB1,b0,b1⟩:_∧_∧_)
 have HW1:=hide hW1
 clear hC hW1 hB1 b0 b1
 go_enter_defers Tryz.func79,Tryz.ntmps79
 go_wp2_with (go_at_call 80;rw [HW1.out];refine HC.out.mono ?_;rintro e w2 ⟨hb2,⟨hd,lv,rfl,hg2⟩ | ⟨hd,rfl⟩⟩ <;> refine Hid.out ?_)
 all_goals refine Lib.hid ?_
 ·have HD:=hide hd
  obtain ⟨la,ll,lc,rfl⟩:=hg2.shape
  have HG2:Hid (GotL W1 L (.slice la ll lc) w2):=hg2
  have hW1s:w.heap.size+1<W1.heap.size:=HS.out.2.2.lt
  clear hg2
  have HB2:Hid (Below w.heap.size w w2∧Blk w2 w.heap.size zeroAns 154∧Blk w2 (w.heap.size+1) [.int .i64 0] 54):=⟨HS.out.1.trans (hb2.mono HS.out.1.size),HS.out.2.1.below hb2,HS.out.2.2.below hb2⟩
  clear hd hb2 HC HW1 HS
  have r0:w2.cell? ⟨w.heap.size,0,none⟩=some (.int .i64 0):=HB2.out.2.1.cell 0
  have r1:w2.cell? ⟨w.heap.size,1,none⟩=some (.int .i64 0):=HB2.out.2.1.cell 1
  have r2:w2.cell? ⟨w.heap.size,2,none⟩=some (.int .i64 0):=HB2.out.2.1.cell 2
  have r3:w2.cell? ⟨w.heap.size,3,none⟩=some (.int .i64 0):=HB2.out.2.1.cell 3
  have r4:w2.cell? ⟨w.heap.size,4,none⟩=some (.int .i64 0):=HB2.out.2.1.cell 4
  have r5:w2.cell? ⟨w.heap.size,5,none⟩=some (.int .i64 0):=HB2.out.2.1.cell 5
  have q0:w2.frozen? ⟨w.heap.size,0,none⟩=false:=HB2.out.2.1.frozen 0
  have q1:w2.frozen? ⟨w.heap.size,1,none⟩=false:=HB2.out.2.1.frozen 1
  have q2:w2.frozen? ⟨w.heap.size,2,none⟩=false:=HB2.out.2.1.frozen 2
  have q3:w2.frozen? ⟨w.heap.size,3,none⟩=false:=HB2.out.2.1.frozen 3
  have q4:w2.frozen? ⟨w.heap.size,4,none⟩=false:=HB2.out.2.1.frozen 4
  have q5:w2.frozen? ⟨w.heap.size,5,none⟩=false:=HB2.out.2.1.frozen 5
  have r6:w2.cell? ⟨w.heap.size,6,none⟩=some (.slice none 0 0):=HB2.out.2.1.cell 6
  have q6:w2.frozen? ⟨w.heap.size,6,none⟩=false:=HB2.out.2.1.frozen 6
  have s0:w2.cell? ⟨w.heap.size+1,0,none⟩=some (.int .i64 0):=HB2.out.2.2.cell 0
  have p0:w2.frozen? ⟨w.heap.size+1,0,none⟩=false:=HB2.out.2.2.frozen 0
  go_wp2_with fail
  have hT5:=put7_touch w2 w.heap.size i vis (.slice la ll lc)
  have hb5:=(put7_blk i vis (.slice la ll lc) HB2.out.2.1).other (p:=⟨w.heap.size+1,0,none⟩) (by show w.heap.size≠w.heap.size+1;omega) (.int .i64 0)
  have he5:=(HB2.out.2.2.touch hT5 (by omega)).set 0 (.int .i64 0)
  have hB5:=(below_tch HB2.out.1 hT5 (Nat.le_refl _) HB2.out.1.size).setCell (p:=⟨w.heap.size+1,0,none⟩) (Nat.le_succ _) (.int .i64 0)
  have hg5:GotL w L (.slice la ll lc) ((put7 w2 w.heap.size i vis (.slice la ll lc)).setCell ⟨w.heap.size+1,0,none⟩ (.int .i64 0)):=(HG2.out.keep fun q h1 h2=>(Below.heap_setCell _ ⟨w.heap.size+1,0,none⟩ _ q (by show q≠w.heap.size+1;omega)).trans (hT5.block q h2 (by omega))).low (by omega)
  unfold put7 put6 at hb5 he5 hB5 hg5
  generalize World.setCell _ _ _=W7 at *
  have t0:W7.cell? ⟨w.heap.size,0,none⟩=some (.int .i64 i):=hb5.cell 0
  have t1:W7.cell? ⟨w.heap.size,1,none⟩=some (.int .i64 vis.a):=hb5.cell 1
  have t2:W7.cell? ⟨w.heap.size,2,none⟩=some (.int .i64 vis.b):=hb5.cell 2
  have t3:W7.cell? ⟨w.heap.size,3,none⟩=some (.int .i64 vis.c):=hb5.cell 3
  have t4:W7.cell? ⟨w.heap.size,4,none⟩=some (.int .i64 vis.d):=hb5.cell 4
  have t5:W7.cell? ⟨w.heap.size,5,none⟩=some (.int .i64 vis.e):=hb5.cell 5
  have t6:W7.cell? ⟨w.heap.size+1,0,none⟩=some (.int .i64 0):=he5.cell 0
  have t7:W7.cell? ⟨w.heap.size,6,none⟩=some (.slice la ll lc):=hb5.cell 6
  refine leaves_cons (f:=122) (args:=#[bptr (w.heap.size+1)]) (by simp) (by simp [go_sem]) ?_
  refine (catch_idle_a (w.heap.size+1) W7).mono ?_
  rintro e u' w'' ⟨rfl,rfl,rfl⟩
  have hpost:Below w.heap.size w w''∧((P∧∃ lv,(Ending.returned (.tuple #[ansVal i vis (.slice la ll lc),.int .i64 0]):Ending)=.returned (.tuple #[ansVal i vis lv,.int .i64 0])∧GotL w L lv w'')∨(¬ P∧(Ending.returned (.tuple #[ansVal i vis (.slice la ll lc),.int .i64 0]):Ending)=.returned (.tuple #[ansVal 0 noVec (.slice none 0 0),.int .i64 6]))):=⟨hB5,Or.inl ⟨HD.out,_,rfl,hg5⟩⟩
  clear hg5 HG2
  clear hB5 hb5 he5 hT5 HB2 HD
  simp only [Leaves,settle]
  refine ⟨_,?_,hpost⟩
  simp [results,Tryz.results79,go_sem,t0,t1,t2,t3,t4,t5,t6,t7]
 ·have HD:=hide hd
  have HB2:Hid (Below w.heap.size w w2∧Blk w2 w.heap.size zeroAns 154∧Blk w2 (w.heap.size+1) [.int .i64 0] 54):=⟨HS.out.1.trans (hb2.mono HS.out.1.size),HS.out.2.1.below hb2,HS.out.2.2.below hb2⟩
  clear hd hb2 HC HW1 HS
  refine leaves_cons (f:=122) (args:=#[bptr (w.heap.size+1)]) (by simp) (by simp [go_sem]) ?_
  refine (catch_fault_a (w.heap.size+1) 0 w2 (HB2.out.2.2.cell 0) (HB2.out.2.2.frozen 0)).mono ?_
  rintro e u' w'' ⟨rfl,rfl,hw⟩
  have hlt:w.heap.size+1<w2.heap.size:=HB2.out.2.2.lt
  have hb5:=(HB2.out.2.1.alloc (.cells #[] 196)).other (p:=⟨w.heap.size+1,0,none⟩) (by show w.heap.size≠w.heap.size+1;omega) (.int .i64 6)
  have he5:=(HB2.out.2.2.alloc (.cells #[] 196)).set 0 (.int .i64 6)
  have hB5:=(HB2.out.1.alloc HB2.out.1.size (.cells #[] 196)).setCell (p:=⟨w.heap.size+1,0,none⟩) (Nat.le_succ _) (.int .i64 6)
  rw [← hw] at hb5 he5 hB5
  have t0:w''.cell? ⟨w.heap.size,0,none⟩=some (.int .i64 0):=hb5.cell 0
  have t1:w''.cell? ⟨w.heap.size,1,none⟩=some (.int .i64 0):=hb5.cell 1
  have t2:w''.cell? ⟨w.heap.size,2,none⟩=some (.int .i64 0):=hb5.cell 2
  have t3:w''.cell? ⟨w.heap.size,3,none⟩=some (.int .i64 0):=hb5.cell 3
  have t4:w''.cell? ⟨w.heap.size,4,none⟩=some (.int .i64 0):=hb5.cell 4
  have t5:w''.cell? ⟨w.heap.size,5,none⟩=some (.int .i64 0):=hb5.cell 5
  have t6:w''.cell? ⟨w.heap.size+1,0,none⟩=some (.int .i64 6):=he5.cell 0
  have t7:w''.cell? ⟨w.heap.size,6,none⟩=some (.slice none 0 0):=hb5.cell 6
  have hpost:Below w.heap.size w w''∧((P∧∃ lv,(Ending.returned (.tuple #[ansVal 0 noVec (.slice none 0 0),.int .i64 6]):Ending)=.returned (.tuple #[ansVal i vis lv,.int .i64 0])∧GotL w L lv w'')∨(¬ P∧(Ending.returned (.tuple #[ansVal 0 noVec (.slice none 0 0),.int .i64 6]):Ending)=.returned (.tuple #[ansVal 0 noVec (.slice none 0 0),.int .i64 6]))):=⟨hB5,Or.inr ⟨HD.out,rfl⟩⟩
  clear hB5 hb5 he5 HB2 HD hw hlt
  simp only [settle]
  refine ⟨_,?_,hpost⟩
  simp [results,Tryz.results79,go_sem,t0,t1,t2,t3,t4,t5,t6,t7,noVec]
end Go.Proofs.YtiplgdkpnhamaaaGreatDoor
namespace Go.Proofs.YtiplgdkpnhamaaaGreatDoor
open Go.RowKit Go.Sort
end Go.Proofs.YtiplgdkpnhamaaaGreatDoor
namespace Go.Proofs.YtiplgdkpnhamaaaGreatDoor
open Go.RowKit Go.Sort
structure Wt where
 x:Tr × Nat
 nd:Int
def wtCells (y:Wt):List Value:=[.int .i64 y.x.1.rep,.int .i64 y.x.1.seq,.int .i64 y.x.1.saw.a,.int .i64 y.x.1.saw.b,.int .i64 y.x.1.saw.c,.int .i64 y.x.1.saw.d,.int .i64 y.x.1.saw.e,.map (some y.x.2),.int .i64 y.nd]
abbrev qIface (qb:Nat):Value:=.iface 206 (bptr qb)
theorem wrap_chk (ts:Array TypeId) (ty:TypeId) (a:Addr) (s m:String) (w:World):(Builtin.ssaWrapNilChk_ ts ty #[.pointer (some a),strVal s,strVal m]).run Tryz.prog w=.ok (.pointer (some a)) w:=rfl
theorem m_less:((Tryz.prog.info? 206).bind (fun i=>i.methods.find? (·.name == "Less"))).map (fun m=>(m.path,m.func))=some (#[],some (292,false)):=by kernel_rfl
theorem meth_less (qb:Nat) (w:World) {sv:Value} (hc:w.cell? ⟨qb,0,none⟩=some sv):(method 476 206 (bptr qb) "Less").run Tryz.prog w=.ok (292,sv) w:=by
 have hi:=m_less
 cases hj:Tryz.prog.info? 206 with
 | none=>rw [hj] at hi;cases hi
 | some i=>
  rw [hj] at hi
  simp only [Option.bind_some] at hi
  cases hk:i.methods.find? (·.name == "Less") with
  | none=>rw [hk] at hi;cases hi
  | some m=>
   rw [hk] at hi
   simp only [Option.map_some,Option.some.injEq,Prod.mk.injEq] at hi
   unfold method
   simp [typeInfo,hj,hk,hi.1,hi.2,follow,receiverAt,go_sem,Go.Place.get,wrap_chk,hc]
theorem m_len:((Tryz.prog.info? 206).bind (fun i=>i.methods.find? (·.name == "Len"))).map (fun m=>(m.path,m.func))=some (#[],some (128,false)):=by kernel_rfl
theorem meth_len (qb:Nat) (w:World) {sv:Value} (hc:w.cell? ⟨qb,0,none⟩=some sv):(method 476 206 (bptr qb) "Len").run Tryz.prog w=.ok (128,sv) w:=by
 have hi:=m_len
 cases hj:Tryz.prog.info? 206 with
 | none=>rw [hj] at hi;cases hi
 | some i=>
  rw [hj] at hi
  simp only [Option.bind_some] at hi
  cases hk:i.methods.find? (·.name == "Len") with
  | none=>rw [hk] at hi;cases hi
  | some m=>
   rw [hk] at hi
   simp only [Option.map_some,Option.some.injEq,Prod.mk.injEq] at hi
   unfold method
   simp [typeInfo,hj,hk,hi.1,hi.2,follow,receiverAt,go_sem,Go.Place.get,wrap_chk,hc]
theorem m_swap:((Tryz.prog.info? 206).bind (fun i=>i.methods.find? (·.name == "Swap"))).map (fun m=>(m.path,m.func))=some (#[],some (295,false)):=by kernel_rfl
theorem meth_swap (qb:Nat) (w:World) {sv:Value} (hc:w.cell? ⟨qb,0,none⟩=some sv):(method 476 206 (bptr qb) "Swap").run Tryz.prog w=.ok (295,sv) w:=by
 have hi:=m_swap
 cases hj:Tryz.prog.info? 206 with
 | none=>rw [hj] at hi;cases hi
 | some i=>
  rw [hj] at hi
  simp only [Option.bind_some] at hi
  cases hk:i.methods.find? (·.name == "Swap") with
  | none=>rw [hk] at hi;cases hi
  | some m=>
   rw [hk] at hi
   simp only [Option.map_some,Option.some.injEq,Prod.mk.injEq] at hi
   unfold method
   simp [typeInfo,hj,hk,hi.1,hi.2,follow,receiverAt,go_sem,Go.Place.get,wrap_chk,hc]
theorem meth_push (qb:Nat) (w:World):(method 476 206 (bptr qb) "Push").run Tryz.prog w=.ok (294,bptr qb) w:=by kernel_rfl
theorem meth_pop (qb:Nat) (w:World):(method 476 206 (bptr qb) "Pop").run Tryz.prog w=.ok (293,bptr qb) w:=by kernel_rfl
end Go.Proofs.YtiplgdkpnhamaaaGreatDoor
namespace Go.Proofs.YtiplgdkpnhamaaaGreatDoor
open Go.RowKit Go.Sort
abbrev Wt.dot (y:Wt):Dot:=y.x.1.dot
def wLt (a b:Wt):Bool:=if a.nd=b.nd then decide (dotLt a.dot b.dot) else decide (a.nd<b.nd)
abbrev QRow (B:Nat) (w:World) (sv:Value) (l:List Wt):Prop:=w.ownsRow B 213 9 sv l.length (l.flatMap wtCells)
theorem wt_cell {B:Nat} {w:World} {g cap:Nat} {l:List Wt} (hr:QRow B w (.slice (some ⟨g,0,none⟩) l.length cap) l) {k:Nat} (hk:k<l.length) {j:Nat} (hj:j<9):w.cell? ⟨g,k * 9+j,none⟩=(wtCells l[k])[j]?:=by
 have h1:=World.ownsRow.cellAt hr (k * 9+j) (by omega)
 rw [flat_get wtCells 9 (fun _=>rfl) l k j hk hj] at h1
 exact h1
theorem wt_frozen {B:Nat} {w:World} {g cap:Nat} {l:List Wt} (hr:QRow B w (.slice (some ⟨g,0,none⟩) l.length cap) l) (j:Nat):w.frozen? ⟨g,j,none⟩=false:=World.ownsRow.frozenAt hr j
set_option maxRecDepth 100000 in
theorem q_len (w:World) (a:Option Addr) (n c:Nat):Calls Tryz.prog 128 #[.slice a n c] w fun e w'=>e=.returned (.int .i64 n)∧w'=w:=by
 go_enter Tryz.func128,Tryz.ntmps128
 go_wp2_with fail
 go_ret
 exact ⟨rfl,rfl⟩
set_option maxRecDepth 100000 in
set_option maxHeartbeats 8000000 in
theorem q_less (B:Nat) (w:World) (g cap:Nat) (l:List Wt) (hr:QRow B w (.slice (some ⟨g,0,none⟩) l.length cap) l) (hl:l.length≤100000000) {i j:Nat} (hi:i<l.length) (hj:j<l.length) :
  Calls Tryz.prog 292 #[.slice (some ⟨g,0,none⟩) l.length cap,.int .i64 i,.int .i64 j] w fun e w'=>e=.returned (.bool (wLt l[i] l[j]))∧Below w.heap.size w w':=by
 have a0:=Bel.cell (show w.cell? ⟨g,i * 9,none⟩=some (.int .i64 l[i].x.1.rep) from wt_cell hr hi (j:=0) (by omega))
 have a1:=Bel.cell (show w.cell? ⟨g,i * 9+1,none⟩=some (.int .i64 l[i].x.1.seq) from wt_cell hr hi (j:=1) (by omega))
 have a8:=Bel.cell (show w.cell? ⟨g,i * 9+8,none⟩=some (.int .i64 l[i].nd) from wt_cell hr hi (j:=8) (by omega))
 have b0:=Bel.cell (show w.cell? ⟨g,j * 9,none⟩=some (.int .i64 l[j].x.1.rep) from wt_cell hr hj (j:=0) (by omega))
 have b1:=Bel.cell (show w.cell? ⟨g,j * 9+1,none⟩=some (.int .i64 l[j].x.1.seq) from wt_cell hr hj (j:=1) (by omega))
 have b8:=Bel.cell (show w.cell? ⟨g,j * 9+8,none⟩=some (.int .i64 l[j].nd) from wt_cell hr hj (j:=8) (by omega))
 have hlt:wLt l[i] l[j]=if l[i].nd=l[j].nd then decide (cmpDot l[i].dot l[j].dot<0) else decide (l[i].nd<l[j].nd):=by
  unfold wLt
  have:=cmpDot_lt l[i].dot l[j].dot
  unfold ltOf at this
  rw [this]
 have hio:∀ f:Fam (Bel w),Calls Tryz.prog 182 #[.agg #[.int .i64 l[i].x.1.rep,.int .i64 l[i].x.1.seq],.agg #[.int .i64 l[j].x.1.rep,.int .i64 l[j].x.1.seq]] f.w fun e w''=>e=.returned (.int .i64 (cmpDot l[i].dot l[j].dot))∧∃ g:Fam (Bel w),w''=g.w:=fun f=>Bel.call f ((inorder_any l[i].dot l[j].dot f.w).mono fun e w'' ⟨h1,h2⟩=>⟨h1,h2.below⟩)
 rw [hlt]
 generalize cmpDot l[i].dot l[j].dot=cc at *
 generalize l[i].nd=x at *
 generalize l[j].nd=y at *
 generalize l[i].x.1.rep=ri at *
 generalize l[i].x.1.seq=si at *
 generalize l[j].x.1.rep=rj at *
 generalize l[j].x.1.seq=sj at *
 have HIO:=hide hio
 obtain ⟨n,hn⟩:∃ n,l.length=n:=⟨_,rfl⟩
 rw [hn]
 have hi':i<n:=by omega
 have hj':j<n:=by omega
 have hl':n≤100000000:=by omega
 clear hr hlt hio hi hj hl hn
 by_cases hxy:x=y
 ·subst hxy
  rw [if_pos rfl]
  go_enter Tryz.func292,Tryz.ntmps292
  go_upto_region 1 with (fail)
  refine region_fam (Bel w) (by kernel_rfl) (by kernel_rfl) (Below.refl _ _).drew ?_
  repeat (go_big_quiet_step (fail))
  refine wpQuiet_nil ?_
  intro _ hw'
  obtain ⟨f1,rfl⟩:=hw'
  go_upto_region 3 with (fail)
  refine region_fam (Bel w) (by kernel_rfl) (by kernel_rfl) (show Below _ _ _ from f1.ok).drew ?_
  repeat (go_big_quiet_step (first | (go_at_call 182;exact HIO.out _)))
  refine wpQuiet_nil ?_
  intro _ hw'
  obtain ⟨f2,rfl⟩:=hw'
  go_wp2_with fail
  go_ret
  exact ⟨rfl,f2.ok⟩
 ·rw [if_neg hxy]
  have hq:(x == y)=false:=beq_false_of_ne hxy
  go_enter Tryz.func292,Tryz.ntmps292
  go_upto_region 1 with (fail)
  refine region_fam (Bel w) (by kernel_rfl) (by kernel_rfl) (Below.refl _ _).drew ?_
  repeat (go_big_quiet_step (fail))
  refine wpQuiet_nil ?_
  intro _ hw'
  obtain ⟨f1,rfl⟩:=hw'
  go_upto_region 2 with (fail)
  refine region_fam (Bel w) (by kernel_rfl) (by kernel_rfl) (show Below _ _ _ from f1.ok).drew ?_
  repeat (go_big_quiet_step (fail))
  refine wpQuiet_nil ?_
  intro _ hw'
  obtain ⟨f2,rfl⟩:=hw'
  go_wp2_with fail
  go_ret
  exact ⟨rfl,f2.ok⟩
end Go.Proofs.YtiplgdkpnhamaaaGreatDoor
namespace Go.Proofs.YtiplgdkpnhamaaaGreatDoor
open Go.RowKit Go.Sort
def put9L (xs:List Value) (n:Nat) (y:Wt):List Value:=((((((((xs.set n (.int .i64 y.x.1.rep)).set (n+1) (.int .i64 y.x.1.seq)).set (n+2) (.int .i64 y.x.1.saw.a)).set (n+3) (.int .i64 y.x.1.saw.b)).set (n+4) (.int .i64 y.x.1.saw.c)).set (n+5) (.int .i64 y.x.1.saw.d)).set (n+6) (.int .i64 y.x.1.saw.e)).set (n+7) (.map (some y.x.2))).set (n+8) (.int .i64 y.nd)
theorem put9_app (cs bs:List Value) (n:Nat) (y:Wt) (h:cs.length=9):put9L (cs ++ bs) (9+n) y=cs ++ put9L bs n y:=by
 unfold put9L
 have e:∀ (xs:List Value) (j:Nat) (v:Value),(cs ++ xs).set (9+n+j) v=cs ++ xs.set (n+j) v:=fun xs j v=>by
  rw [List.set_append_right _ _ (by omega),h];congr 2;omega
 have e0:∀ (xs:List Value) (v:Value),(cs ++ xs).set (9+n) v=cs ++ xs.set n v:=fun xs v=>e xs 0 v
 rw [e0,e,e,e,e,e,e,e,e]
theorem wt_put:∀ (l:List Wt) (k:Nat) (_:k<l.length) (y:Wt),put9L (l.flatMap wtCells) (k * 9) y=(l.set k y).flatMap wtCells
 | [],_,hk,_=>by simp at hk
 | a :: l,0,_,y=>by
  rw [List.set_cons_zero,List.flatMap_cons,List.flatMap_cons]
  rfl
 | a :: l,k+1,hk,y=>by
  rw [List.set_cons_succ,List.flatMap_cons,List.flatMap_cons,← wt_put l k (by simpa using hk) y,show (k+1) * 9=9+k * 9 by omega]
  exact put9_app _ _ _ y rfl
abbrev put9 (w:World) (g n:Nat) (y:Wt):World:=((((((((w.setCell ⟨g,n,none⟩ (.int .i64 y.x.1.rep)).setCell ⟨g,n+1,none⟩ (.int .i64 y.x.1.seq)).setCell ⟨g,n+2,none⟩ (.int .i64 y.x.1.saw.a)).setCell ⟨g,n+3,none⟩ (.int .i64 y.x.1.saw.b)).setCell ⟨g,n+4,none⟩ (.int .i64 y.x.1.saw.c)).setCell ⟨g,n+5,none⟩ (.int .i64 y.x.1.saw.d)).setCell ⟨g,n+6,none⟩ (.int .i64 y.x.1.saw.e)).setCell ⟨g,n+7,none⟩ (.map (some y.x.2))).setCell ⟨g,n+8,none⟩ (.int .i64 y.nd)
theorem put9_row {B:Nat} {w:World} {g cap:Nat} {l:List Wt} (hr:QRow B w (.slice (some ⟨g,0,none⟩) l.length cap) l) {k:Nat} (hk:k<l.length) (y:Wt):QRow B (put9 w g (k * 9) y) (.slice (some ⟨g,0,none⟩) (l.set k y).length cap) (l.set k y):=by
 have a0:=(World.ownsRow.stored hr (k * 9) (.int .i64 y.x.1.rep)).1
 have a1:=(World.ownsRow.stored a0 (k * 9+1) (.int .i64 y.x.1.seq)).1
 have a2:=(World.ownsRow.stored a1 (k * 9+2) (.int .i64 y.x.1.saw.a)).1
 have a3:=(World.ownsRow.stored a2 (k * 9+3) (.int .i64 y.x.1.saw.b)).1
 have a4:=(World.ownsRow.stored a3 (k * 9+4) (.int .i64 y.x.1.saw.c)).1
 have a5:=(World.ownsRow.stored a4 (k * 9+5) (.int .i64 y.x.1.saw.d)).1
 have a6:=(World.ownsRow.stored a5 (k * 9+6) (.int .i64 y.x.1.saw.e)).1
 have a7:=(World.ownsRow.stored a6 (k * 9+7) (.map (some y.x.2))).1
 have a8:=(World.ownsRow.stored a7 (k * 9+8) (.int .i64 y.nd)).1
 have e:=wt_put l k hk y
 unfold put9L at e
 rw [e] at a8
 have hl:(l.set k y).length=l.length:=by simp
 show World.ownsRow _ _ _ _ (.slice _ (l.set k y).length _) (l.set k y).length _
 rw [hl]
 exact a8
theorem put9_touch (w:World) (g n:Nat) (y:Wt):Touch (fun q=>q=g) w (put9 w g n y):=
 (((((((((Touch.refl (fun q=>q=g) w).setCell (p:=⟨g,n,none⟩) (Or.inl rfl) _).setCell (p:=⟨g,n+1,none⟩) (Or.inl rfl) _).setCell (p:=⟨g,n+2,none⟩) (Or.inl rfl) _).setCell (p:=⟨g,n+3,none⟩) (Or.inl rfl) _).setCell (p:=⟨g,n+4,none⟩) (Or.inl rfl) _).setCell (p:=⟨g,n+5,none⟩) (Or.inl rfl) _).setCell (p:=⟨g,n+6,none⟩) (Or.inl rfl) _).setCell (p:=⟨g,n+7,none⟩) (Or.inl rfl) _).setCell (p:=⟨g,n+8,none⟩) (Or.inl rfl) _
def swapL (l:List Wt) (i j:Nat) (hi:i<l.length) (hj:j<l.length):List Wt:=(l.set i l[j]).set j l[i]
set_option maxRecDepth 100000 in
set_option maxHeartbeats 16000000 in
theorem q_swap (B:Nat) (w:World) (g cap:Nat) (l:List Wt) (hr:QRow B w (.slice (some ⟨g,0,none⟩) l.length cap) l) (hl:l.length≤100000000) {i j:Nat} (hi:i<l.length) (hj:j<l.length) (hij:i≠j) :
  Calls Tryz.prog 295 #[.slice (some ⟨g,0,none⟩) l.length cap,.int .i64 i,.int .i64 j] w fun e w'=>e=.returned (.tuple #[])∧QRow B w' (.slice (some ⟨g,0,none⟩) (swapL l i j hi hj).length cap) (swapL l i j hi hj)∧Touch (fun q=>q=g) w w':=by
 have hlt:g<w.heap.size:=(hr.lt g rfl).2
 have hp1:=put9_row hr hi l[j]
 have hp2:=put9_row hp1 (k:=j) (by simpa using hj) l[i]
 have hT:=((put9_touch w g (i * 9) l[j]).trans ((put9_touch (put9 w g (i * 9) l[j]) g (j * 9) l[i]).mono fun q _ e=>Or.inl e)).drew
 have hp3:QRow B (put9 (put9 w g (i * 9) l[j]) g (j * 9) l[i]).drew (.slice (some ⟨g,0,none⟩) (swapL l i j hi hj).length cap) (swapL l i j hi hj):=ownsRow_below hp2 (Below.refl _ _).drew
 have ca:=fun (m:Nat) (hm:m<9)=>wt_cell hr hi hm
 have cb:=fun (m:Nat) (hm:m<9)=>wt_cell hr hj hm
 have fz:=fun (m:Nat)=>wt_frozen hr m
 generalize hx:l[i]=x at *
 generalize hy:l[j]=y at *
 obtain ⟨⟨⟨xr,xs,xw,xm⟩,xb⟩,xn⟩:=x
 obtain ⟨⟨⟨yr,ys,yw,ym⟩,yb⟩,yn⟩:=y
 have x0:w.cell? ⟨g,i * 9,none⟩=some (.int .i64 xr):=ca 0 (by omega)
 have fx0:w.frozen? ⟨g,i * 9,none⟩=false:=fz _
 have x1:w.cell? ⟨g,i * 9+1,none⟩=some (.int .i64 xs):=ca 1 (by omega)
 have fx1:w.frozen? ⟨g,i * 9+1,none⟩=false:=fz _
 have x2:w.cell? ⟨g,i * 9+2,none⟩=some (.int .i64 xw.a):=ca 2 (by omega)
 have fx2:w.frozen? ⟨g,i * 9+2,none⟩=false:=fz _
 have x3:w.cell? ⟨g,i * 9+3,none⟩=some (.int .i64 xw.b):=ca 3 (by omega)
 have fx3:w.frozen? ⟨g,i * 9+3,none⟩=false:=fz _
 have x4:w.cell? ⟨g,i * 9+4,none⟩=some (.int .i64 xw.c):=ca 4 (by omega)
 have fx4:w.frozen? ⟨g,i * 9+4,none⟩=false:=fz _
 have x5:w.cell? ⟨g,i * 9+5,none⟩=some (.int .i64 xw.d):=ca 5 (by omega)
 have fx5:w.frozen? ⟨g,i * 9+5,none⟩=false:=fz _
 have x6:w.cell? ⟨g,i * 9+6,none⟩=some (.int .i64 xw.e):=ca 6 (by omega)
 have fx6:w.frozen? ⟨g,i * 9+6,none⟩=false:=fz _
 have x7:w.cell? ⟨g,i * 9+7,none⟩=some (.map (some xb)):=ca 7 (by omega)
 have fx7:w.frozen? ⟨g,i * 9+7,none⟩=false:=fz _
 have x8:w.cell? ⟨g,i * 9+8,none⟩=some (.int .i64 xn):=ca 8 (by omega)
 have fx8:w.frozen? ⟨g,i * 9+8,none⟩=false:=fz _
 have y0:w.cell? ⟨g,j * 9,none⟩=some (.int .i64 yr):=cb 0 (by omega)
 have fy0:w.frozen? ⟨g,j * 9,none⟩=false:=fz _
 have y1:w.cell? ⟨g,j * 9+1,none⟩=some (.int .i64 ys):=cb 1 (by omega)
 have fy1:w.frozen? ⟨g,j * 9+1,none⟩=false:=fz _
 have y2:w.cell? ⟨g,j * 9+2,none⟩=some (.int .i64 yw.a):=cb 2 (by omega)
 have fy2:w.frozen? ⟨g,j * 9+2,none⟩=false:=fz _
 have y3:w.cell? ⟨g,j * 9+3,none⟩=some (.int .i64 yw.b):=cb 3 (by omega)
 have fy3:w.frozen? ⟨g,j * 9+3,none⟩=false:=fz _
 have y4:w.cell? ⟨g,j * 9+4,none⟩=some (.int .i64 yw.c):=cb 4 (by omega)
 have fy4:w.frozen? ⟨g,j * 9+4,none⟩=false:=fz _
 have y5:w.cell? ⟨g,j * 9+5,none⟩=some (.int .i64 yw.d):=cb 5 (by omega)
 have fy5:w.frozen? ⟨g,j * 9+5,none⟩=false:=fz _
 have y6:w.cell? ⟨g,j * 9+6,none⟩=some (.int .i64 yw.e):=cb 6 (by omega)
 have fy6:w.frozen? ⟨g,j * 9+6,none⟩=false:=fz _
 have y7:w.cell? ⟨g,j * 9+7,none⟩=some (.map (some yb)):=cb 7 (by omega)
 have fy7:w.frozen? ⟨g,j * 9+7,none⟩=false:=fz _
 have y8:w.cell? ⟨g,j * 9+8,none⟩=some (.int .i64 yn):=cb 8 (by omega)
 have fy8:w.frozen? ⟨g,j * 9+8,none⟩=false:=fz _
 have HP:=hide (⟨hp3,hT⟩:_∧_)
 obtain ⟨n,hn⟩:∃ n,l.length=n:=⟨_,rfl⟩
 rw [hn]
 have hi':i<n:=by omega
 have hj':j<n:=by omega
 have hl':n≤100000000:=by omega
 clear hp1 hp2 hp3 hT ca cb fz hx hy hr hn
 have ne:∀ a b:Nat,a<9→b<9→¬ i * 9+a=j * 9+b:=fun a b ha hb e=>by omega
 go_enter Tryz.func295,Tryz.ntmps295
 go_upto_region 0 with (fail)
 go_region
 obtain ⟨hp3,hT⟩:=HP.out
 go_end0
 exact ⟨rfl,hp3,hT⟩
end Go.Proofs.YtiplgdkpnhamaaaGreatDoor
namespace Go.Proofs.YtiplgdkpnhamaaaGreatDoor
open Go.RowKit Go.Sort
abbrev par (k:Nat):Nat:=(k - 1) / 2
def sw {α:Type} (f:Nat→α) (i j:Nat):Nat→α:=fun k=>if k=j then f i else if k=i then f j else f k
structure OrdLt {α:Type} (lt:α→α→Bool):Prop where
 irr:∀ a,lt a a=false
 tot:∀ a b,lt a b=true→lt b a=false
 tr:∀ a b c,lt b a=false→lt c b=false→lt c a=false
def HeapF {α:Type} (lt:α→α→Bool) (f:Nat→α) (n:Nat):Prop:=∀ k,1≤k→k<n→lt (f k) (f (par k))=false
structure UpF {α:Type} (lt:α→α→Bool) (f:Nat→α) (n j:Nat):Prop where
 away:∀ k,1≤k→k<n→k≠j→lt (f k) (f (par k))=false
 kids:∀ k,1≤k→k<n→par k=j→1≤j→lt (f k) (f (par j))=false
theorem UpF.done {α:Type} {lt:α→α→Bool} {f:Nat→α} {n j:Nat} (h:UpF lt f n j) (hj:j=0∨lt (f j) (f (par j))=false):HeapF lt f n:=fun k h1 h2=>by
 by_cases e:k=j
 ·subst e;rcases hj with rfl | hj
  ·omega
  ·exact hj
 ·exact h.away k h1 h2 e
theorem UpF.step {α:Type} {lt:α→α→Bool} (o:OrdLt lt) {f:Nat→α} {n j:Nat} (h:UpF lt f n j) (hj:1≤j) (hn:j<n) (hl:lt (f j) (f (par j))=true):UpF lt (sw f (par j) j) n (par j):=by
 have hij:par j<j:=by unfold par;omega
 constructor
 ·intro k h1 h2 hk
  have hpk:par k<k:=by unfold par;omega
  by_cases e:k=j
  ·subst e
   unfold sw
   rw [if_pos rfl,if_neg (by omega),if_pos rfl]
   exact o.tot _ _ hl
  ·by_cases e1:par k=j
   ·unfold sw
    rw [if_neg e,if_neg hk,if_pos e1]
    exact h.kids k h1 h2 e1 hj
   ·by_cases e2:par k=par j
    ·unfold sw
     rw [if_neg e,if_neg hk,if_neg e1,if_pos e2]
     have a:=h.away k h1 h2 e
     rw [e2] at a
     exact o.tr _ _ _ (o.tot _ _ hl) a
    ·unfold sw
     rw [if_neg e,if_neg hk,if_neg e1,if_neg e2]
     exact h.away k h1 h2 e
 ·intro k h1 h2 hk hi
  have hii:par (par j)<par j:=by unfold par at *;omega
  have hpk:par k<k:=by unfold par;omega
  have a:=h.away (par j) hi (by omega) (by omega)
  unfold sw
  rw [if_neg (show ¬ par (par j)=j by omega),if_neg (show ¬ par (par j)=par j by omega)]
  by_cases e:k=j
  ·rw [if_pos e];exact a
  ·rw [if_neg e,if_neg (by omega)]
   have b:=h.away k h1 h2 e
   rw [hk] at b
   exact o.tr _ _ _ a b
structure DownF {α:Type} (lt:α→α→Bool) (f:Nat→α) (n i:Nat):Prop where
 away:∀ k,1≤k→k<n→par k≠i→lt (f k) (f (par k))=false
 kids:1≤i→∀ k,1≤k→k<n→par k=i→lt (f k) (f (par i))=false
theorem DownF.leaf {α:Type} {lt:α→α→Bool} {f:Nat→α} {n i:Nat} (h:DownF lt f n i) (hi:n≤2 * i+1):HeapF lt f n:=fun k h1 h2=>h.away k h1 h2 (by unfold par;omega)
theorem DownF.done {α:Type} {lt:α→α→Bool} (o:OrdLt lt) {f:Nat→α} {n i j:Nat} (h:DownF lt f n i) (hj:lt (f j) (f i)=false) (hk:∀ k,1≤k→k<n→par k=i→lt (f k) (f j)=false):HeapF lt f n:=fun k h1 h2=>by
 by_cases e:par k=i
 ·rw [e];exact o.tr _ _ _ hj (hk k h1 h2 e)
 ·exact h.away k h1 h2 e
theorem DownF.step {α:Type} {lt:α→α→Bool} (o:OrdLt lt) {f:Nat→α} {n i j:Nat} (h:DownF lt f n i) (h1:1≤j) (hn:j<n) (hp:par j=i) (hl:lt (f j) (f i)=true) (hk:∀ k,1≤k→k<n→par k=i→lt (f k) (f j)=false):DownF lt (sw f i j) n j:=by
 have hij:i<j:=by unfold par at hp;omega
 constructor
 ·intro k k1 k2 hkj
  have hpk:par k<k:=by unfold par;omega
  unfold sw
  rw [if_neg hkj]
  by_cases e:k=j
  ·rw [if_pos e,e,hp,if_pos rfl];exact o.tot _ _ hl
  ·rw [if_neg e]
   by_cases e1:par k=i
   ·rw [if_pos e1,if_neg (by omega)];exact hk k k1 k2 e1
   ·rw [if_neg e1]
    by_cases e2:k=i
    ·rw [if_pos e2,e2];exact h.kids (by omega) j h1 hn hp
    ·rw [if_neg e2];exact h.away k k1 k2 e1
 ·intro _ k k1 k2 hkj
  have hpk:par k<k:=by unfold par;omega
  unfold sw
  rw [hp,if_neg (by omega),if_neg (by omega),if_neg (by omega),if_pos rfl]
  have:=h.away k k1 k2 (by omega)
  rw [hkj] at this
  exact this
theorem HeapF.min {α:Type} {lt:α→α→Bool} (o:OrdLt lt) {f:Nat→α} {n:Nat} (h:HeapF lt f n):∀ k,k<n→lt (f k) (f 0)=false:=by
 intro k
 induction k using Nat.strongRecOn with
 | _ k ih=>
  intro hk
  by_cases e:k=0
  ·subst e;exact o.irr _
  ·have hp:par k<k:=by unfold par;omega
   exact o.tr _ _ _ (ih (par k) hp (by omega)) (h k (by omega) hk)
theorem HeapF.grow {α:Type} {lt:α→α→Bool} {f g:Nat→α} {n:Nat} (h:HeapF lt f n) (he:∀ k,k<n→g k=f k):UpF lt g (n+1) n:=
 ⟨fun k h1 h2 hk=>by rw [he k (by omega),he (par k) (by unfold par;omega)];exact h k h1 (by omega),
  fun k h1 h2 hk _=>by unfold par at hk;omega⟩
theorem HeapF.pop {α:Type} {lt:α→α→Bool} {f g:Nat→α} {n:Nat} (h:HeapF lt f (n+1)) (he:∀ k,1≤k→k<n→g k=f k):DownF lt g n 0:=
 ⟨fun k h1 h2 hk=>by rw [he k h1 h2,he (par k) (by unfold par at *;omega) (by unfold par;omega)];exact h k h1 (by omega),
  fun h0=>by omega⟩
theorem HeapF.cut {α:Type} {lt:α→α→Bool} {f g:Nat→α} {n m:Nat} (h:HeapF lt f n) (hm:m≤n) (he:∀ k,k<m→g k=f k):HeapF lt g m:=fun k h1 h2=>by
 rw [he k h2,he (par k) (by unfold par;omega)];exact h k h1 (by omega)
abbrev vw {α:Type} (d:α) (l:List α):Nat→α:=fun k=>l.getD k d
theorem vw_swap {α:Type} (d:α) (l:List α) {i j:Nat} (hi:i<l.length) (hj:j<l.length):vw d ((l.set i l[j]).set j l[i])=sw (vw d l) i j:=by
 funext k
 unfold sw vw
 simp only [List.getD_eq_getElem?_getD,List.getElem?_set,List.length_set]
 by_cases e:k=j
 ·subst e;simp [hi,hj]
 ·rw [if_neg (fun x=>e x.symm),if_neg e]
  by_cases e2:k=i
  ·subst e2;simp [hi,hj]
  ·rw [if_neg (fun x=>e2 x.symm),if_neg e2]
theorem swap_perm {α:Type} (l:List α) {i j:Nat} (hi:i<l.length) (hj:j<l.length):((l.set i l[j]).set j l[i]).Perm l:=by
 exact List.set_set_perm hi hj
theorem wLt_iff (a b:Wt):wLt a b=true ↔ (a.nd<b.nd∨(a.nd=b.nd∧(a.dot.rep<b.dot.rep∨(a.dot.rep=b.dot.rep∧a.dot.seq<b.dot.seq)))):=by
 unfold wLt
 by_cases e:a.nd=b.nd
 ·rw [if_pos e,decide_eq_true_eq];unfold dotLt;constructor
  ·exact fun h=>Or.inr ⟨e,h⟩
  ·rintro (h | h)
   ·omega
   ·exact h.2
 ·rw [if_neg e,decide_eq_true_eq];constructor
  ·exact Or.inl
  ·rintro (h | h)
   ·exact h
   ·exact absurd h.1 e
theorem wLt_no (a b:Wt):wLt a b=false ↔ ¬ (a.nd<b.nd∨(a.nd=b.nd∧(a.dot.rep<b.dot.rep∨(a.dot.rep=b.dot.rep∧a.dot.seq<b.dot.seq)))):=by
 rw [← wLt_iff];simp
theorem wLt_ord:OrdLt wLt:=by
 refine ⟨fun a=>?_,fun a b h=>?_,fun a b c h1 h2=>?_⟩
 ·rw [wLt_no];omega
 ·rw [wLt_iff] at h;rw [wLt_no];omega
 ·rw [wLt_no] at h1 h2 ⊢;omega
abbrev dWt:Wt:=⟨(⟨0,0,noVec,fun _=>none⟩,0),0⟩
end Go.Proofs.YtiplgdkpnhamaaaGreatDoor
namespace Go.Proofs.YtiplgdkpnhamaaaGreatDoor
open Go.RowKit Go.Sort
structure QIn (B:Nat) (w:World) (qb:Nat) (sv:Value) (l:List Wt):Prop where
 blk:Blk w qb [sv] 208
 row:QRow B w sv l
theorem QIn.cell {B:Nat} {w:World} {qb:Nat} {sv:Value} {l:List Wt} (h:QIn B w qb sv l):w.cell? ⟨qb,0,none⟩=some sv:=h.blk.cell 0
theorem QIn.later {B:Nat} {w w':World} {qb:Nat} {sv:Value} {l:List Wt} (h:QIn B w qb sv l) (hb:Below w.heap.size w w'):QIn B w' qb sv l:=⟨h.blk.below hb,ownsRow_below h.row hb⟩
theorem QIn.ne {B:Nat} {w:World} {qb:Nat} {sv:Value} {l:List Wt} (h:QIn B w qb sv l):sv.ownBlock≠some qb:=own_other h.blk h.row (by decide)
structure QPerm (B:Nat) (w:World) (qb g cap:Nat) (l l':List Wt) (wr:World):Prop where
 len:l'.length=l.length
 perm:l'.Perm l
 q:QIn B wr qb (.slice (some ⟨g,0,none⟩) l.length cap) l'
 tch:Touch (fun q=>q=g) w wr
theorem QPerm.later {B:Nat} {w:World} {qb g cap:Nat} {l l':List Wt} {wr w':World} (h:QPerm B w qb g cap l l' wr) (hb:Below wr.heap.size wr w'):QPerm B w qb g cap l l' w':=
 ⟨h.len,h.perm,h.q.later hb,h.tch.then (Touch.ofBelow hb)⟩
theorem QPerm.swap {B:Nat} {w:World} {qb g cap:Nat} {l l':List Wt} {wr w':World} (h:QPerm B w qb g cap l l' wr) {i j:Nat} (hi:i<l'.length) (hj:j<l'.length) (hr:QRow B w' (.slice (some ⟨g,0,none⟩) (swapL l' i j hi hj).length cap) (swapL l' i j hi hj)) (ht:Touch (fun q=>q=g) wr w'):QPerm B w qb g cap l (swapL l' i j hi hj) w':=by
 have e:(swapL l' i j hi hj).length=l'.length:=by simp [swapL]
 refine ⟨e.trans h.len,(swap_perm l' hi hj).trans h.perm,⟨h.q.blk.touch ht fun c=>h.q.ne (by rw [c];rfl),?_⟩,h.tch.then ht⟩
 rw [e,h.len] at hr
 exact hr
theorem vw_get {l:List Wt} {k:Nat} (hk:k<l.length):vw dWt l k=l[k]:=by simp [vw,hk]
abbrev lt2 (l:List Wt) (i j:Nat) (hi:i<l.length) (hj:j<l.length):Bool:=wLt l[i] l[j]
set_option maxRecDepth 100000 in
set_option maxHeartbeats 800000 in
theorem heap_up (B:Nat) (w:World) (qb g cap:Nat) (l:List Wt) (hq:QIn B w qb (.slice (some ⟨g,0,none⟩) l.length cap) l) (hl:l.length≤100000000) {j:Nat} (hj:j<l.length) (hu:UpF wLt (vw dWt l) l.length j) :
  Calls Tryz.prog 172 #[qIface qb,.int .i64 j] w fun e w'=>e=.returned (.tuple #[])∧∃ l',QPerm B w qb g cap l l' w'∧HeapF wLt (vw dWt l') l'.length:=by
 have H0:Hid (QPerm B w qb g cap l l w∧UpF wLt (vw dWt l) l.length j):=⟨⟨rfl,List.Perm.refl _,hq,Touch.refl _ _⟩,hu⟩
 obtain ⟨n,hn⟩:∃ n,l.length=n:=⟨_,rfl⟩
 have HN:=hide hn
 have hj':j<n:=by omega
 have hl':n≤100000000:=by omega
 clear hq hu hl hj hn
 go_enter Tryz.func172,Tryz.ntmps172
 go_wp2
 go_loopw [1] (fun jv wr=>∃ (k:Nat) (l':List Wt),k<n∧jv=.int .i64 k∧Hid (QPerm B w qb g cap l l' wr∧UpF wLt (vw dWt l') l.length k)) (fun jv _=>(intOf jv).toNat)
 case atStart=>exact ⟨j,l,hj',rfl,H0⟩
 case round=>
  obtain ⟨k,l',hk,rfl,HR⟩:=hrel
  have hln:l'.length=n:=HR.out.1.len.trans HN.out
  have cq:=HR.out.1.q.cell
  have hm1:=meth_less qb wr cq
  by_cases hk0:k=0
  ·subst hk0
   go_wp2_with fail
   go_end0
   refine ⟨rfl,l',HR.out.1,?_⟩
   rw [HR.out.1.len]
   exact HR.out.2.done (Or.inl rfl)
  ·obtain ⟨m,hm⟩:∃ m,par k=m:=⟨_,rfl⟩
   have hmk:m<k:=by unfold par at hm;omega
   have em:((k:Int) - 1) / 2=(m:Int):=by unfold par at hm;omega
   have hne:((m:Int) == (k:Int))=false:=beq_false_of_ne (by omega)
   have hkl:k<l'.length:=by omega
   have hpl:m<l'.length:=by omega
   have hrw:QRow B wr (.slice (some ⟨g,0,none⟩) l'.length cap) l':=by have:=HR.out.1.q.row;rw [← HR.out.1.len] at this;exact this
   have hls:=q_less B wr g cap l' hrw (by omega) hkl hpl
   have hup:lt2 l' k m hkl hpl=wLt (vw dWt l' k) (vw dWt l' (par k)):=by rw [hm,vw_get hkl,vw_get hpl]
   rw [HR.out.1.len] at hls
   have HLS:=hide hls
   have HM:=hide hm
   clear hls hm
   go_upto_region 0 with (fail)
   go_cut [4] (fun iv wc=>iv=.int .i64 m∧wc=wr)
   case first=>
    go_wp2_with fail
    go_meet
    exact ⟨by rw [em],rfl⟩
   case rest=>
    obtain ⟨rfl,rfl⟩:=hcut
    clear em
    cases hb:lt2 l' k m hkl hpl with
    | false=>
     unfold lt2 at hb
     rw [hb] at HLS
     go_wp2_with (go_at_call 292;refine HLS.out.mono ?_;rintro e w1 ⟨rfl,hB1⟩;have HB1:=hide hB1;clear hB1)
     go_end0
     refine ⟨rfl,l',HR.out.1.later HB1.out,?_⟩
     rw [HR.out.1.len]
     exact HR.out.2.done (Or.inr (by rw [← hup];exact hb))
    | true=>
     unfold lt2 at hb
     rw [hb] at HLS
     have hsw:=fun w1 (hB1:Below wc.heap.size wc w1)=>q_swap B w1 g cap l' (ownsRow_below hrw hB1) (by omega) hpl hkl (by omega)
     rw [HR.out.1.len] at hsw
     have HSW:=hide hsw
     clear hsw hrw
     go_wp2_with (first | (go_at_call 292;refine HLS.out.mono ?_;rintro e w1 ⟨rfl,hB1⟩;have hm2:=meth_swap qb w1 (HR.out.1.later hB1).q.cell;have HB1:=hide hB1;clear hB1) | (go_at_call 295;refine (HSW.out w1 HB1.out).mono ?_;rintro e w2 ⟨rfl,hr2,ht2⟩;have HR2:=hide (⟨hr2,ht2⟩:_∧_);clear hr2 ht2))
     have hQ:=(HR.out.1.later HB1.out).swap hpl hkl HR2.out.1 HR2.out.2
     have hU:UpF wLt (vw dWt (swapL l' m k hpl hkl)) l.length m:=by
      have a:=HR.out.2.step wLt_ord (by omega) (by have:=HN.out;omega) (by rw [← hup];exact hb)
      rw [HM.out] at a
      have e:=vw_swap dWt l' hpl hkl
      unfold swapL
      rw [e]
      exact a
     exact ⟨⟨m,swapL l' m k hpl hkl,by omega,rfl,hQ,hU⟩,by simp only [intOf];omega⟩
end Go.Proofs.YtiplgdkpnhamaaaGreatDoor
namespace Go.Proofs.YtiplgdkpnhamaaaGreatDoor
open Go.RowKit Go.Sort
theorem QPerm.row {B:Nat} {w:World} {qb g cap:Nat} {l l':List Wt} {wr:World} (h:QPerm B w qb g cap l l' wr):QRow B wr (.slice (some ⟨g,0,none⟩) l'.length cap) l':=by have:=h.q.row;rw [← h.len] at this;exact this
theorem QPerm.less {B:Nat} {w:World} {qb g cap:Nat} {l l':List Wt} {wr:World} (h:QPerm B w qb g cap l l' wr) (hl:l.length≤100000000) {i j:Nat} (hi:i<l'.length) (hj:j<l'.length) :
  Calls Tryz.prog 292 #[.slice (some ⟨g,0,none⟩) l.length cap,.int .i64 i,.int .i64 j] wr fun e w'=>e=.returned (.bool (wLt (vw dWt l' i) (vw dWt l' j)))∧Below wr.heap.size wr w':=by
 have a:=q_less B wr g cap l' h.row (by rw [h.len];exact hl) hi hj
 rw [h.len] at a
 rw [vw_get hi,vw_get hj]
 exact a
theorem QPerm.swp {B:Nat} {w:World} {qb g cap:Nat} {l l':List Wt} {wr:World} (h:QPerm B w qb g cap l l' wr) (hl:l.length≤100000000) {i j:Nat} (hi:i<l'.length) (hj:j<l'.length) (hij:i≠j) :
  Calls Tryz.prog 295 #[.slice (some ⟨g,0,none⟩) l.length cap,.int .i64 i,.int .i64 j] wr fun e w'=>e=.returned (.tuple #[])∧QPerm B w qb g cap l (swapL l' i j hi hj) w':=by
 have a:=q_swap B wr g cap l' h.row (by rw [h.len];exact hl) hi hj hij
 rw [h.len] at a
 refine a.mono ?_
 rintro e w' ⟨rfl,h1,h2⟩
 exact ⟨rfl,h.swap hi hj h1 h2⟩
structure Least (l:List Wt) (n i j:Nat):Prop where
 lt:j<n
 pos:1≤j
 par:par j=i
 min:∀ k,1≤k→k<n→Go.Proofs.YtiplgdkpnhamaaaGreatDoor.par k=i→wLt (vw dWt l k) (vw dWt l j)=false
theorem kid_is {i k:Nat} (h1:1≤k) (h:par k=i):k=2 * i+1∨k=2 * i+2:=by unfold par at h;omega
structure DownAt (B:Nat) (w:World) (qb g cap:Nat) (l:List Wt) (n:Nat) (l':List Wt) (i:Nat) (wr:World):Prop where
 q:QPerm B w qb g cap l l' wr
 d:DownF wLt (vw dWt l') n i
 bey:∀ k,n≤k→vw dWt l' k=vw dWt l k
theorem DownAt.later {B:Nat} {w:World} {qb g cap:Nat} {l:List Wt} {n:Nat} {l':List Wt} {i:Nat} {wr w':World} (h:DownAt B w qb g cap l n l' i wr) (hb:Below wr.heap.size wr w'):DownAt B w qb g cap l n l' i w':=⟨h.q.later hb,h.d,h.bey⟩
def DownPost (B:Nat) (w:World) (qb g cap:Nat) (l:List Wt) (n:Nat) (e:Ending) (w':World):Prop:=(∃ b,e=.returned (.bool b))∧∃ l',QPerm B w qb g cap l l' w'∧HeapF wLt (vw dWt l') n∧∀ k,n≤k→vw dWt l' k=vw dWt l k
set_option maxRecDepth 100000 in
set_option maxHeartbeats 2000000 in
theorem heap_down (B:Nat) (w:World) (qb g cap:Nat) (l:List Wt) (hq:QIn B w qb (.slice (some ⟨g,0,none⟩) l.length cap) l) (hl:l.length≤100000000) {n:Nat} (hn:n≤l.length) (hd:DownF wLt (vw dWt l) n 0) :
  Calls Tryz.prog 173 #[qIface qb,.int .i64 0,.int .i64 n] w (DownPost B w qb g cap l n):=by
 have H0:DownAt B w qb g cap l n l 0 w:=⟨⟨rfl,List.Perm.refl _,hq,Touch.refl _ _⟩,hd,fun _ _=>rfl⟩
 have HL:=hide (⟨hn,hl⟩:_∧_)
 have hn8:n≤100000000:=by omega
 clear hq hd hl hn
 go_enter Tryz.func173,Tryz.ntmps173
 go_wp2
 go_loopw [7] (fun iv wr=>∃ (i:Nat) (l':List Wt),i≤n∧iv=.int .i64 i∧Hid (DownAt B w qb g cap l n l' i wr)) (fun iv _=>n - (intOf iv).toNat)
 case atStart=>exact ⟨0,l,Nat.zero_le _,rfl,H0⟩
 case round=>
  obtain ⟨i,l',hin,rfl,HR⟩:=hrel
  by_cases hA:n≤2 * i+1
  ·go_wp2_with fail
   go_ret
   exact ⟨⟨_,rfl⟩,l',HR.out.q,HR.out.d.leaf (by omega),HR.out.bey⟩
  ·have hll:l'.length=l.length:=HR.out.q.len
   have hnl:=HL.out.1
   have h1l:2 * i+1<l'.length:=by omega
   have hil:i<l'.length:=by omega
   obtain ⟨j1,hj1⟩:∃ j1:Nat,2 * i+1=j1:=⟨_,rfl⟩
   have ej1:(2:Int) * i+1=(j1:Nat):=by omega
   rw [hj1] at hA h1l
   have H1:=hide hj1
   have hA':j1<n:=by omega
   clear hA hj1 hnl
   go_upto_region 4 with (fail)
   go_cut [9] (fun jv wc=>jv=.int .i64 j1∧wc=wr)
   case first=>
    go_wp2_with fail
    go_meet
    exact ⟨rfl,rfl⟩
   case rest=>
    obtain ⟨rfl,rfl⟩:=hcut
    apply_assumption
    apply wp_seq_k
    intro _ _
    go_cut [9] (fun jv w2=>∃ j:Nat,jv=.int .i64 j∧Hid (Least l' n i j∧Below wc.heap.size wc w2))
    case first=>
     obtain ⟨j2,hj2⟩:∃ j2:Nat,j1+1=j2:=⟨_,rfl⟩
     have ej2:(j1:Int)+1=(j2:Nat):=by omega
     have h1:=H1.out
     have hp1:par j1=i:=by unfold par;omega
     have hp2:par j2=i:=by unfold par;omega
     by_cases hB:j2<n
     ·have hm1:=meth_less qb wc HR.out.q.q.cell
      have hls:=HR.out.q.less HL.out.2 (i:=j2) (j:=j1) (by have:=HL.out.1;omega) h1l
      have HLS:=hide hls
      have HJ:=hide (⟨hj2,h1,hp1,hp2⟩:_∧_∧_∧_)
      clear hls hj2 h1 hp1 hp2 ej1
      cases hb:wLt (vw dWt l' j2) (vw dWt l' j1) with
      | true=>
       rw [hb] at HLS
       have HBB:=hide hb
       clear hb
       go_wp2_with (go_at_call 292;refine HLS.out.mono ?_;rintro e w1 ⟨rfl,hB1⟩;have HB1:=hide hB1;clear hB1)
       go_meet
       obtain ⟨hj2,h1,hp1,hp2⟩:=HJ.out
       refine ⟨j2,rfl,⟨hB,by omega,hp2,fun k k1 k2 k3=>?_⟩,HB1.out⟩
       rcases kid_is k1 k3 with c | c
       ·rw [show k=j1 by omega];exact wLt_ord.tot _ _ HBB.out
       ·rw [show k=j2 by omega];exact wLt_ord.irr _
      | false=>
       rw [hb] at HLS
       have HBB:=hide hb
       clear hb
       go_wp2_with (go_at_call 292;refine HLS.out.mono ?_;rintro e w1 ⟨rfl,hB1⟩;have HB1:=hide hB1;clear hB1)
       go_meet
       obtain ⟨hj2,h1,hp1,hp2⟩:=HJ.out
       refine ⟨j1,rfl,⟨hA',by omega,hp1,fun k k1 k2 k3=>?_⟩,HB1.out⟩
       rcases kid_is k1 k3 with c | c
       ·rw [show k=j1 by omega];exact wLt_ord.irr _
       ·rw [show k=j2 by omega];exact HBB.out
     ·have HJ:=hide (⟨hj2,h1,hp1⟩:_∧_∧_)
      clear hj2 h1 hp1 hp2 ej1
      go_wp2_with fail
      go_meet
      obtain ⟨hj2,h1,hp1⟩:=HJ.out
      refine ⟨j1,rfl,⟨hA',by omega,hp1,fun k k1 k2 k3=>?_⟩,Below.refl _ _⟩
      rcases kid_is k1 k3 with c | c
      ·rw [show k=j1 by omega];exact wLt_ord.irr _
      ·omega
    case rest=>
     obtain ⟨j,rfl,HJ⟩:=hcut
     have hR2:=HR.out.later HJ.out.2
     have hjl:j<l'.length:=by have:=HJ.out.1.lt;have:=HL.out.1;omega
     have hjn:=HJ.out.1.lt
     have hij:i≠j:=fun c=>by have h2:=HJ.out.1.par;have h3:=HJ.out.1.pos;unfold par at h2;omega
     have hm1:=meth_less qb _ hR2.q.q.cell
     have hls:=hR2.q.less HL.out.2 hjl hil
     have HLS:=hide hls
     have HR2:=hide hR2
     clear hls hR2 ej1
     cases hb:wLt (vw dWt l' j) (vw dWt l' i) with
     | false=>
      rw [hb] at HLS
      have HBB:=hide hb
      clear hb
      go_wp2_with (go_at_call 292;refine HLS.out.mono ?_;rintro e w1 ⟨rfl,hB1⟩;have HB1:=hide hB1;clear hB1)
      go_ret
      exact ⟨⟨_,rfl⟩,l',HR2.out.q.later HB1.out,HR2.out.d.done wLt_ord HBB.out HJ.out.1.min,HR2.out.bey⟩
     | true=>
      rw [hb] at HLS
      have HBB:=hide hb
      clear hb
      have HSW:Hid (∀ w1,Below _ _ w1→_):=fun w1 hB1=>(HR2.out.later hB1).q.swp HL.out.2 hil hjl hij
      go_wp2_with (first | (go_at_call 292;refine HLS.out.mono ?_;rintro e w1 ⟨rfl,hB1⟩;have hm2:=meth_swap qb w1 (HR2.out.later hB1).q.q.cell;have HB1:=hide hB1;clear hB1) | (go_at_call 295;refine (HSW.out w1 HB1.out).mono ?_;rintro e w3 ⟨rfl,hQ3⟩;have HQ3:=hide hQ3;clear hQ3))
      have hlt:i<j:=by have h2:=HJ.out.1.par;have h3:=HJ.out.1.pos;unfold par at h2;omega
      have hD:DownF wLt (vw dWt (swapL l' i j hil hjl)) n j:=by
       have a:=HR2.out.d.step wLt_ord HJ.out.1.pos HJ.out.1.lt HJ.out.1.par HBB.out HJ.out.1.min
       have e:=vw_swap dWt l' hil hjl
       unfold swapL
       rw [e]
       exact a
      have hE:∀ k,n≤k→vw dWt (swapL l' i j hil hjl) k=vw dWt l k:=fun k hk=>by
       have e:=vw_swap dWt l' hil hjl
       unfold swapL
       rw [e,← HR2.out.bey k hk]
       unfold sw
       rw [if_neg (by omega),if_neg (by omega)]
      exact ⟨⟨j,swapL l' i j hil hjl,by omega,rfl,⟨HQ3.out,hD,hE⟩⟩,by simp only [intOf];omega⟩
end Go.Proofs.YtiplgdkpnhamaaaGreatDoor
namespace Go.Proofs.YtiplgdkpnhamaaaGreatDoor
open Go.RowKit Go.Sort
theorem info_wt:(Tryz.prog.info? 213).map (fun i=>(i.zero,i.size,i.bytes))=some (some (.agg #[.int .i64 0,.int .i64 0,.int .i64 0,.int .i64 0,.int .i64 0,.int .i64 0,.int .i64 0,.map none,.int .i64 0]),9,72):=by kernel_rfl
abbrev wtVal (y:Wt):Value:=.agg #[.int .i64 y.x.1.rep,.int .i64 y.x.1.seq,.int .i64 y.x.1.saw.a,.int .i64 y.x.1.saw.b,.int .i64 y.x.1.saw.c,.int .i64 y.x.1.saw.d,.int .i64 y.x.1.saw.e,.map (some y.x.2),.int .i64 y.nd]
theorem as_wt (v:Value) (W:World):(Instr.typeAssert (.iface 213 v) 20 213 false).run Tryz.prog W=.ok v W:=by kernel_rfl
def PushPost (w:World) (qb:Nat) (sv:Value) (l:List Wt) (y:Wt) (e:Ending) (w':World):Prop:=e=.returned (.tuple #[])∧∃ sv',QIn 0 w' qb sv' (l ++ [y])∧Touch (fun q=>q=qb∨sv.ownBlock=some q) w w'∧∀ q,sv'.ownBlock=some q→sv.ownBlock=some q∨w.heap.size≤q
set_option maxRecDepth 100000 in
set_option maxHeartbeats 8000000 in
theorem q_push (w:World) (qb:Nat) (sv:Value) (l:List Wt) (y:Wt) (hq:QIn 0 w qb sv l) (hl:l.length≤100000000) :
  Calls Tryz.prog 294 #[bptr qb,.iface 213 (wtVal y)] w (PushPost w qb sv l y):=by
 have hta:=as_wt
 obtain ⟨i0,hi,hz0,hz1,hz2⟩:=info_parts info_wt
 have HI:=hide (⟨hi,hz0,hz1,hz2⟩:_∧_∧_∧_)
 clear hi hz0 hz1 hz2
 obtain ⟨⟨⟨r,sq,⟨a,b,c,d,e⟩,wm⟩,mb⟩,nd⟩:=y
 show Calls _ _ #[bptr qb,.iface 213 (.agg #[.int .i64 r,.int .i64 sq,.int .i64 a,.int .i64 b,.int .i64 c,.int .i64 d,.int .i64 e,.map (some mb),.int .i64 nd])] _ _
 have hc:=hq.cell
 have hlq:qb<w.heap.size:=hq.blk.lt
 have hne:=hq.ne
 obtain ⟨ao,cap,rfl,hcap,hmx,-⟩:=Row.shape (ownsRow_low hq.row (Nat.zero_le _))
 have hW:Blk (w.alloc (.cells #[.int .i64 r,.int .i64 sq,.int .i64 a,.int .i64 b,.int .i64 c,.int .i64 d,.int .i64 e,.map (some mb),.int .i64 nd] 213)).drew w.heap.size [.int .i64 r,.int .i64 sq,.int .i64 a,.int .i64 b,.int .i64 c,.int .i64 d,.int .i64 e,.map (some mb),.int .i64 nd] 213:=heap_alloc_new w _
 have HNEW:=hide (news_at hW)
 have HK:Hid (∀ w5,(w.alloc (.cells #[.int .i64 r,.int .i64 sq,.int .i64 a,.int .i64 b,.int .i64 c,.int .i64 d,.int .i64 e,.map (some mb),.int .i64 nd] 213)).drew.grownBy w5 (Value.slice ao l.length cap).ownBlock→w5.cell? ⟨qb,0,none⟩=some (.slice ao l.length cap)∧w5.frozen? ⟨qb,0,none⟩=false∧qb<w5.heap.size∧Blk w5 qb [.slice ao l.length cap] 208):=fun w5 g=>by
  have e5:w5.heap[qb]? = w.heap[qb]?:=(g.block qb (by show qb<(w.alloc _).heap.size;simp;omega) (fun e=>hne e.symm)).trans (Below.heap_alloc _ _ _ hlq)
  have b5:Blk w5 qb [.slice ao l.length cap] 208:=hq.blk.move e5
  exact ⟨b5.cell 0,b5.frozen _,b5.lt,b5⟩
 have HH:=hide (⟨hq,hl⟩:_∧_)
 clear hq hl hW hne hcap hmx
 go_enter Tryz.func294,Tryz.ntmps294
 go_upto_region 0 with (fail)
 go_region_law (refine step_append_own rfl _ _ 208 rfl 213 i0 (.agg #[.int .i64 0,.int .i64 0,.int .i64 0,.int .i64 0,.int .i64 0,.int .i64 0,.int .i64 0,.map none,.int .i64 0]) 9 72 Tryz.underlying208 HI.out.1 HI.out.2.1 HI.out.2.2.1 HI.out.2.2.2 rfl (by decide) (.slice ao l.length cap) l.length (l.flatMap wtCells) (by simp [Act.eval]) (by exact World.ownsRow.alloc (ownsRow_low HH.out.1.row (Nat.zero_le _)) _) ⟨w.heap.size,0,none⟩ 1 1 [.int .i64 r,.int .i64 sq,.int .i64 a,.int .i64 b,.int .i64 c,.int .i64 d,.int .i64 e,.map (some mb),.int .i64 nd] (by simp [Act.eval]) rfl (by exact HNEW.out) (by intro u hu;simp at hu;rcases hu with rfl | rfl | rfl | rfl | rfl | rfl | rfl | rfl | rfl <;> rfl) (by have:=HH.out.2;unfold maxLen;omega) (by have:=HH.out.2;omega) ?_;intro v5 w5 r1 r2 r3;obtain ⟨k1,k2,k3,k4⟩:=HK.out w5 r2;obtain ⟨g5,cap5,rfl,-,-,-,-,-⟩:=Row.pos r1 (by omega);have HR5:=hide (⟨r1,r2,r3,k4⟩:_∧_∧_∧_);clear r1 r2 r3 k4)
 all_goals go_wp2_with fail
 all_goals
  go_end0
  obtain ⟨r1,r2,r3,k4⟩:=HR5.out
  obtain ⟨hq,hl⟩:=HH.out
  have r3':∀ q,(Value.slice (some ⟨g5,0,none⟩) (l.length+1) cap5).ownBlock=some q→(Value.slice ao l.length cap).ownBlock=some q∨w.heap.size≤q:=fun q hq'=>by
   rcases r3 with c | c
   ·rw [c] at hq';exact Or.inl hq'
   ·rw [c] at hq';cases hq';exact Or.inr (by show w.heap.size≤(w.alloc _).heap.size;simp)
  have hT:Touch (fun q=>q=qb∨(Value.slice ao l.length cap).ownBlock=some q) w w5:=by
   have a0:Touch (fun q=>q=qb∨(Value.slice ao l.length cap).ownBlock=some q) w (w.alloc (.cells #[.int .i64 r,.int .i64 sq,.int .i64 a,.int .i64 b,.int .i64 c,.int .i64 d,.int .i64 e,.map (some mb),.int .i64 nd] 213)).drew:=((Touch.refl _ _).alloc _).drew
   exact a0.grown r2 fun k hk=>Or.inl (Or.inr hk)
  refine ⟨rfl,.slice (some ⟨g5,0,none⟩) (l.length+1) cap5,⟨k4.set 0 _,?_⟩,hT.setCell (Or.inl (Or.inl rfl)) _,r3'⟩
  have hne5:g5≠qb:=fun c=>own_other k4 r1 (by decide) (by rw [c];rfl)
  have hcells:(l ++ [(⟨(⟨r,sq,⟨a,b,c,d,e⟩,wm⟩,mb),nd⟩:Wt)]).flatMap wtCells=l.flatMap wtCells ++ [.int .i64 r,.int .i64 sq,.int .i64 a,.int .i64 b,.int .i64 c,.int .i64 d,.int .i64 e,.map (some mb),.int .i64 nd]:=by rw [List.flatMap_append];rfl
  show World.ownsRow _ _ _ _ _ (l ++ [_]).length _
  rw [hcells,List.length_append]
  exact own_move r1 fun q hq'=>Below.heap_setCell _ _ _ _ fun c'=>hne5 (by simp [Value.ownBlock] at hq';rw [hq'];exact c')
end Go.Proofs.YtiplgdkpnhamaaaGreatDoor
namespace Go.Proofs.YtiplgdkpnhamaaaGreatDoor
open Go.RowKit Go.Sort
theorem row_take {B:Nat} {w:World} {e:TypeId} {size g n cap:Nat} {xs:List Value} (h:w.ownsRow B e size (.slice (some ⟨g,0,none⟩) n cap) n xs) {m:Nat} (hm:m≤n):w.ownsRow B e size (.slice (some ⟨g,0,none⟩) m cap) m (xs.take (m * size)):=by
 have hmul:m * size≤n * size:=Nat.mul_le_mul_right _ hm
 refine ⟨by rw [List.length_take,h.1];exact Nat.min_eq_left hmul,?_⟩
 rcases h.2 with ⟨a,-⟩ | ⟨g',cap',cur,e',h0,hg,h1,h2,h3,h4⟩
 ·cases a
 ·cases e'
  refine .inr ⟨g,cap,cur,rfl,h0,hg,by omega,h2,h3,?_⟩
  rw [← h4,List.take_take,Nat.min_eq_left hmul]
def PopPost (B:Nat) (w:World) (qb g cap:Nat) (l:List Wt) (y:Wt) (e:Ending) (w':World):Prop:=e=.returned (.iface 213 (wtVal y))∧QIn B w' qb (.slice (some ⟨g,0,none⟩) l.length cap) l∧Touch (fun q=>q=qb) w w'
set_option maxRecDepth 100000 in
set_option maxHeartbeats 4000000 in
theorem q_pop (B:Nat) (w:World) (qb g cap n:Nat) (l:List Wt) (hq:QIn B w qb (.slice (some ⟨g,0,none⟩) l.length cap) l) (hn:l.length=n+1) (hl:l.length≤100000000) (hcap:l.length≤cap) :
  Calls Tryz.prog 293 #[bptr qb] w (PopPost B w qb g cap (l.take n) (l[n]'(by omega))):=by
 have hnl:n<l.length:=by omega
 have hc:=hq.cell
 have hf:=hq.blk.frozen 0
 have hlq:qb<w.heap.size:=hq.blk.lt
 have hlg:g<w.heap.size:=(hq.row.lt g rfl).2
 have hne:=hq.ne
 have ca:=fun (m:Nat) (hm:m<9)=>wt_cell hq.row hnl hm
 generalize hx:l[n]=x at *
 obtain ⟨⟨⟨r,sq,⟨a,b,c,d,e⟩,wm⟩,mb⟩,nd⟩:=x
 have x0:w.cell? ⟨g,n * 9,none⟩=some (.int .i64 r):=ca 0 (by omega)
 have x1:w.cell? ⟨g,n * 9+1,none⟩=some (.int .i64 sq):=ca 1 (by omega)
 have x2:w.cell? ⟨g,n * 9+2,none⟩=some (.int .i64 a):=ca 2 (by omega)
 have x3:w.cell? ⟨g,n * 9+3,none⟩=some (.int .i64 b):=ca 3 (by omega)
 have x4:w.cell? ⟨g,n * 9+4,none⟩=some (.int .i64 c):=ca 4 (by omega)
 have x5:w.cell? ⟨g,n * 9+5,none⟩=some (.int .i64 d):=ca 5 (by omega)
 have x6:w.cell? ⟨g,n * 9+6,none⟩=some (.int .i64 e):=ca 6 (by omega)
 have x7:w.cell? ⟨g,n * 9+7,none⟩=some (.map (some mb)):=ca 7 (by omega)
 have x8:w.cell? ⟨g,n * 9+8,none⟩=some (.int .i64 nd):=ca 8 (by omega)
 have HH:=hide (⟨hq,hn⟩:_∧_)
 rw [hn] at hc hl hcap
 clear hq ca hx hnl
 have hn':((n:Nat):Int)+1 - 1=n:=by omega
 clear hn
 go_enter Tryz.func293,Tryz.ntmps293
 go_wp2_with fail
 go_ret
 obtain ⟨hq,hn⟩:=HH.out
 have e1:(l.take n).length=n:=by rw [List.length_take];omega
 have hgq:g≠qb:=fun c=>hne (by rw [c];rfl)
 have hr:=row_take (m:=n) hq.row (by omega)
 have ef:(l.take n).flatMap wtCells=(l.flatMap wtCells).take (n * 9):=(flat_take wtCells 9 (fun _=>rfl) l n).symm
 refine ⟨rfl,⟨?_,?_⟩,((Touch.refl (fun q=>q=qb) w).setCell (p:=⟨qb,0,none⟩) (Or.inl rfl) _).alloc _⟩
 ·rw [e1];exact (hq.blk.set 0 _).alloc _
 ·show World.ownsRow _ _ _ _ _ (l.take n).length _
  rw [e1,ef]
  exact own_move hr fun q hq'=>by
   have e2:q=g:=by simp [Value.ownBlock] at hq';exact hq'.symm
   subst e2
   exact (Below.heap_alloc _ _ _ (by simp [World.setCell];omega)).trans (Below.heap_setCell _ _ _ _ hgq)
end Go.Proofs.YtiplgdkpnhamaaaGreatDoor
namespace Go.Proofs.YtiplgdkpnhamaaaGreatDoor
open Go.RowKit Go.Sort
set_option maxRecDepth 100000 in
set_option maxHeartbeats 16000000 in
theorem q_swap0 (B:Nat) (w:World) (g cap:Nat) (l:List Wt) (hr:QRow B w (.slice (some ⟨g,0,none⟩) l.length cap) l) (hl:l.length≤100000000) {i:Nat} (hi:i<l.length) :
  Calls Tryz.prog 295 #[.slice (some ⟨g,0,none⟩) l.length cap,.int .i64 i,.int .i64 i] w fun e w'=>e=.returned (.tuple #[])∧QRow B w' (.slice (some ⟨g,0,none⟩) (swapL l i i hi hi).length cap) (swapL l i i hi hi)∧Touch (fun q=>q=g) w w':=by
 have hlt:g<w.heap.size:=(hr.lt g rfl).2
 have hp1:=put9_row hr hi l[i]
 have hp2:=put9_row hp1 (k:=i) (by simpa using hi) l[i]
 have hT:=((put9_touch w g (i * 9) l[i]).trans ((put9_touch (put9 w g (i * 9) l[i]) g (i * 9) l[i]).mono fun q _ e=>Or.inl e)).drew
 have hp3:QRow B (put9 (put9 w g (i * 9) l[i]) g (i * 9) l[i]).drew (.slice (some ⟨g,0,none⟩) (swapL l i i hi hi).length cap) (swapL l i i hi hi):=ownsRow_below hp2 (Below.refl _ _).drew
 have ca:=fun (m:Nat) (hm:m<9)=>wt_cell hr hi hm
 have fz:=fun (m:Nat)=>wt_frozen hr m
 generalize hx:l[i]=x at *
 obtain ⟨⟨⟨xr,xs,xw,xm⟩,xb⟩,xn⟩:=x
 have x0:w.cell? ⟨g,i * 9,none⟩=some (.int .i64 xr):=ca 0 (by omega)
 have fx0:w.frozen? ⟨g,i * 9,none⟩=false:=fz _
 have x1:w.cell? ⟨g,i * 9+1,none⟩=some (.int .i64 xs):=ca 1 (by omega)
 have fx1:w.frozen? ⟨g,i * 9+1,none⟩=false:=fz _
 have x2:w.cell? ⟨g,i * 9+2,none⟩=some (.int .i64 xw.a):=ca 2 (by omega)
 have fx2:w.frozen? ⟨g,i * 9+2,none⟩=false:=fz _
 have x3:w.cell? ⟨g,i * 9+3,none⟩=some (.int .i64 xw.b):=ca 3 (by omega)
 have fx3:w.frozen? ⟨g,i * 9+3,none⟩=false:=fz _
 have x4:w.cell? ⟨g,i * 9+4,none⟩=some (.int .i64 xw.c):=ca 4 (by omega)
 have fx4:w.frozen? ⟨g,i * 9+4,none⟩=false:=fz _
 have x5:w.cell? ⟨g,i * 9+5,none⟩=some (.int .i64 xw.d):=ca 5 (by omega)
 have fx5:w.frozen? ⟨g,i * 9+5,none⟩=false:=fz _
 have x6:w.cell? ⟨g,i * 9+6,none⟩=some (.int .i64 xw.e):=ca 6 (by omega)
 have fx6:w.frozen? ⟨g,i * 9+6,none⟩=false:=fz _
 have x7:w.cell? ⟨g,i * 9+7,none⟩=some (.map (some xb)):=ca 7 (by omega)
 have fx7:w.frozen? ⟨g,i * 9+7,none⟩=false:=fz _
 have x8:w.cell? ⟨g,i * 9+8,none⟩=some (.int .i64 xn):=ca 8 (by omega)
 have fx8:w.frozen? ⟨g,i * 9+8,none⟩=false:=fz _
 have HP:=hide (⟨hp3,hT⟩:_∧_)
 obtain ⟨n,hn⟩:∃ n,l.length=n:=⟨_,rfl⟩
 rw [hn]
 have hi':i<n:=by omega
 have hl':n≤100000000:=by omega
 clear hp1 hp2 hp3 hT ca fz hx hr hn
 go_enter Tryz.func295,Tryz.ntmps295
 go_upto_region 0 with (fail)
 go_region
 obtain ⟨hp3,hT⟩:=HP.out
 go_end0
 exact ⟨rfl,hp3,hT⟩
end Go.Proofs.YtiplgdkpnhamaaaGreatDoor
namespace Go.Proofs.YtiplgdkpnhamaaaGreatDoor
open Go.RowKit Go.Sort
theorem join_get (v o:Vec) {k:Nat} (hk:k<5):(v.join o).get k=max (v.get k) (o.get k):=by
 have:k=0∨k=1∨k=2∨k=3∨k=4:=by omega
 rcases this with rfl | rfl | rfl | rfl | rfl <;> rfl
theorem count_lt {v w:Vec} (h:∀ k:Nat,k<5→v.get k≤w.get k) {r:Nat} (hr:r<5) (hs:v.get r<w.get r):v.count<w.count:=by
 have h0:v.a≤w.a:=h 0 (by omega)
 have h1:v.b≤w.b:=h 1 (by omega)
 have h2:v.c≤w.c:=h 2 (by omega)
 have h3:v.d≤w.d:=h 3 (by omega)
 have h4:v.e≤w.e:=h 4 (by omega)
 unfold Vec.count
 have:r=0∨r=1∨r=2∨r=3∨r=4:=by omega
 rcases this with rfl | rfl | rfl | rfl | rfl
 ·have:v.a<w.a:=hs;omega
 ·have:v.b<w.b:=hs;omega
 ·have:v.c<w.c:=hs;omega
 ·have:v.d<w.d:=hs;omega
 ·have:v.e<w.e:=hs;omega
structure UpL (l:List Tr):Prop where
 ok:∀ t,t ∈ l→t.rep<5∧1≤t.seq∧t.saw.get t.rep≤t.seq - 1
 up:l.Pairwise fun a b=>a.rep=b.rep→a.seq<b.seq
theorem need_get {lat:Nat→Vec} {t:Tr} (ht:t.rep<5) {k:Nat} (hk:k<5):(needOf lat t).get k=if k=t.rep then t.seq - 1 else max ((lat t.rep).get k) (t.saw.get k):=by
 unfold needOf
 rw [vec_put_get _ ht,join_get _ _ hk]
theorem lat_at {l:List Tr} {j:Nat} (hj:j<l.length) (lat:Nat→Vec):latFold lat (l.take (j+1))=latUpd (latFold lat (l.take j)) l[j].rep (needOf (latFold lat (l.take j)) l[j]):=by
 rw [List.take_succ_eq_append_getElem hj,latFold_snoc]
theorem UpL.lt {l:List Tr} (h:UpL l) {i j:Nat} (hi:i<j) (hj:j<l.length) (e:l[i].rep=l[j].rep):l[i].seq<l[j].seq:=List.pairwise_iff_getElem.1 h.up i j (by omega) hj hi e
theorem UpL.own {l:List Tr} (_:UpL l) (r:Nat) {s:Int} (hs:1≤s):∀ j,j≤l.length→(∀ i (hi:i<l.length),i<j→l[i].rep=r→l[i].seq<s)→r<5→(latFold noLat (l.take j) r).get r≤s - 1:=by
 intro j
 induction j with
 | zero=>
  intro _ _ hr
  have:(noVec.get r)=0:=by
   have:r=0∨r=1∨r=2∨r=3∨r=4:=by omega
   rcases this with rfl | rfl | rfl | rfl | rfl <;> rfl
  show (noVec.get r)≤_
  omega
 | succ j ih=>
  intro hj hb hr
  have hjl:j<l.length:=by omega
  rw [lat_at hjl]
  unfold latUpd
  split
  ·rename_i c
   subst c
   rw [need_get hr hr,if_pos rfl]
   have:=hb j hjl (by omega) rfl
   omega
  ·exact ih (by omega) (fun i hi hij=>hb i hi (by omega)) hr
theorem UpL.step {l:List Tr} (h:UpL l) {j:Nat} (hj:j<l.length) (r:Nat) {k:Nat} (hk:k<5):(latFold noLat (l.take j) r).get k≤(latFold noLat (l.take (j+1)) r).get k:=by
 rw [lat_at hj]
 unfold latUpd
 split
 ·rename_i c
  subst c
  obtain ⟨h1,h2,h3⟩:=h.ok l[j] (List.getElem_mem hj)
  rw [need_get h1 hk]
  split
  ·rename_i c
   subst c
   exact h.own _ h2 j (by omega) (fun i hi hij e=>h.lt hij hj e) h1
  ·omega
 ·exact Int.le_refl _
theorem UpL.mono {l:List Tr} (h:UpL l) (r:Nat) {k:Nat} (hk:k<5) {i j:Nat} (hij:i≤j) (hj:j≤l.length):(latFold noLat (l.take i) r).get k≤(latFold noLat (l.take j) r).get k:=by
 obtain ⟨m,rfl⟩:=Nat.exists_eq_add_of_le hij
 clear hij
 induction m with
 | zero=>exact Int.le_refl _
 | succ m ih=>exact Int.le_trans (ih (by omega)) (h.step (j:=i+m) (by omega) r hk)
def needAt (l:List Tr) (j:Nat) (hj:j<l.length):Vec:=needOf (latFold noLat (l.take j)) l[j]
theorem needAt_eq {l:List Tr} {j:Nat} (hj:j<l.length):needAt l j hj=latFold noLat (l.take (j+1)) l[j].rep:=by
 rw [lat_at hj];unfold latUpd;rw [if_pos rfl];rfl
theorem needs_get:∀ (l:List Tr) (lat:Nat→Vec) (j:Nat) (hj:j<l.length),(needsFrom lat l)[j]? = some (needOf (latFold lat (l.take j)) l[j])
 | [],_,_,hj=>by simp at hj
 | a :: l,lat,0,_=>rfl
 | a :: l,lat,j+1,hj=>by
  have:=needs_get l (latUpd lat a.rep (needOf lat a)) j (by simpa using hj)
  simpa [needsFrom,latFold] using this
theorem UpL.needMono {l:List Tr} (h:UpL l) {i j:Nat} (hi:i<l.length) (hj:j<l.length) (hij:i≤j) (e:l[i].rep=l[j].rep) {k:Nat} (hk:k<5):(needAt l i hi).get k≤(needAt l j hj).get k:=by
 rw [needAt_eq,needAt_eq,e]
 exact h.mono _ hk (by omega) (by omega)
theorem UpL.sawNeed {l:List Tr} (h:UpL l) {j:Nat} (hj:j<l.length) {k:Nat} (hk:k<5):l[j].saw.get k≤(needAt l j hj).get k:=by
 obtain ⟨h1,h2,h3⟩:=h.ok l[j] (List.getElem_mem hj)
 unfold needAt
 rw [need_get h1 hk]
 split
 ·rename_i c;subst c;exact h3
 ·omega
theorem UpL.ownNeed {l:List Tr} (h:UpL l) {j:Nat} (hj:j<l.length):(needAt l j hj).get l[j].rep=l[j].seq - 1:=by
 obtain ⟨h1,h2,h3⟩:=h.ok l[j] (List.getElem_mem hj)
 unfold needAt
 rw [need_get h1 h1,if_pos rfl]
theorem needMap_mem:∀ {l:List (Dot × Vec)},(l.map Prod.fst).Nodup→∀ {d:Dot} {v:Vec},(d,v) ∈ l→needMap l d=some v
 | [],_,_,_,h=>by simp at h
 | x :: l,hn,d,v,h=>by
  rw [List.map_cons,List.nodup_cons] at hn
  show (needMap l d).or _=_
  rcases List.mem_cons.1 h with e | h
  ·subst e
   have hno:needMap l d=none:=by
    have:∀ (m:List (Dot × Vec)),d ∉ m.map Prod.fst→needMap m d=none:=by
     intro m
     induction m with
     | nil=>intro _;rfl
     | cons y m ih=>
      intro hd
      rw [List.map_cons,List.mem_cons] at hd
      show (needMap m d).or _=none
      rw [ih (fun c=>hd (Or.inr c)),if_neg (fun c=>hd (Or.inl c))];rfl
    exact this l hn.1
   rw [hno];simp
  ·rw [needMap_mem hn.2 h];rfl
theorem UpL.nodup {l:List Tr} (h:UpL l):(l.map Tr.dot).Nodup:=by
 rw [List.Nodup,List.pairwise_map]
 refine h.up.imp fun {a b} hab e=>?_
 have e1:(a.rep:Int)=b.rep:=congrArg Dot.rep e
 have e2:a.seq=b.seq:=congrArg Dot.seq e
 have:=hab (by omega)
 omega
theorem UpL.needOfDot {l:List Tr} (h:UpL l) {j:Nat} (hj:j<l.length):needMap (dotNeeds l) l[j].dot=some (needAt l j hj):=by
 have hlen:(needsOf l).length=l.length:=needs_length l noLat
 refine needMap_mem (l:=dotNeeds l) ?_ ?_
 ·unfold dotNeeds
  rw [List.map_fst_zip (by simp [hlen])]
  exact h.nodup
 ·unfold dotNeeds
  rw [List.mem_iff_getElem?]
  refine ⟨j,?_⟩
  rw [List.getElem?_zip_eq_some]
  exact ⟨by simp [hj],needs_get l noLat j hj⟩
theorem UpL.less {l:List Tr} (h:UpL l) (hs:SawOk l) (hfull:∀ a,a ∈ l→∀ b,b ∈ l→b.seq≤a.saw.get b.rep→∃ c,c ∈ l∧c.rep=b.rep∧c.seq=a.saw.get b.rep) {i j:Nat} (hi:i<l.length) (hj:j<l.length) (hw:(l[j].rep=l[i].rep∧l[j].seq<l[i].seq)∨l[j].seq≤l[i].saw.get l[j].rep):(needAt l j hj).count<(needAt l i hi).count:=by
 obtain ⟨i1,i2,i3⟩:=h.ok l[i] (List.getElem_mem hi)
 obtain ⟨j1,j2,j3⟩:=h.ok l[j] (List.getElem_mem hj)
 have case1:l[j].rep=l[i].rep→l[j].seq<l[i].seq→(needAt l j hj).count<(needAt l i hi).count:=fun e hlt=>by
  have hji:j<i:=by
   by_cases c:j<i
   ·exact c
   ·by_cases c2:i=j
    ·subst c2;omega
    ·have:=h.lt (show i<j by omega) hj e.symm;omega
  refine count_lt (fun k hk=>h.needMono hj hi (by omega) e hk) j1 ?_
  rw [h.ownNeed hj,e,h.ownNeed hi];omega
 rcases hw with ⟨e,hlt⟩ | hw
 ·exact case1 e hlt
 ·by_cases e:l[j].rep=l[i].rep
  ·exact case1 e (by rw [e] at hw;omega)
  ·obtain ⟨c,hc,e1,e2⟩:=hfull _ (List.getElem_mem hi) _ (List.getElem_mem hj) hw
   obtain ⟨m,hm,rfl⟩:=List.mem_iff_getElem.1 hc
   have hk:=(incl_iff _ _).1 (hs _ (List.getElem_mem hi) l[j].rep j1)
   have hd:(⟨(l[j].rep:Nat),l[i].saw.get l[j].rep⟩:Dot)=l[m].dot:=by
    show _=(⟨(l[m].rep:Nat),l[m].seq⟩:Dot)
    rw [e1,e2]
   rw [hd,h.needOfDot hm] at hk
   have hjm:j≤m:=by
    by_cases c:j≤m
    ·exact c
    ·have:=h.lt (show m<j by omega) hj e1;omega
   have le:∀ k:Nat,k<5→(needAt l j hj).get k≤(needAt l i hi).get k:=fun k hk5=>
    Int.le_trans (h.needMono hj hm hjm e1.symm hk5) (Int.le_trans (hk k hk5) (h.sawNeed hi hk5))
   refine count_lt le j1 ?_
   rw [h.ownNeed hj]
   have:=h.sawNeed hi j1
   omega
end Go.Proofs.YtiplgdkpnhamaaaGreatDoor
