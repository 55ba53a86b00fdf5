/- The texts X7, F6, F7, joined. -/
import Derived.Test.YtiplgdkpnhamaaaGreatDoorE18
import Derived.Test.YtiplgdkpnhamaaaGreatDoorE08
import Derived.Test.YtiplgdkpnhamaaaGreatDoorE15
import Derived.Test.YtiplgdkpnhamaaaGreatDoorE17
import Derived.Test.YtiplgdkpnhamaaaGreatDoorE14
import Derived.Test.YtiplgdkpnhamaaaGreatDoorE06
import Derived.Sort.OwnSorted
import Derived.Laws.IdiomRangeMap
namespace Go.Proofs.YtiplgdkpnhamaaaGreatDoor
open Go.RowKit Go.Sort
theorem less_eq:∀ (x y:List UInt8),Op.bytesLess x y=decide (x < y)
 | [],[]=>by simp [Op.bytesLess]
 | _ :: _,[]=>by simp [Op.bytesLess]
 | [],_ :: _=>by simp [Op.bytesLess]
 | a :: x,b :: y=>by
  rw [Op.bytesLess,less_eq x y]
  simp only [List.cons_lt_cons_iff]
  by_cases h1:a < b <;> by_cases h2:a=b <;> by_cases h3:x < y <;> simp [h1,h2,h3]
theorem le_less (x y:List UInt8):decide (x ≤ y)=!Op.bytesLess y x:=by
 rw [less_eq]
 by_cases h:y < x
 ·have:¬ x ≤ y:=fun c=>c h
  simp [h,this]
 ·have:x ≤ y:=h
  simp [h,this]
theorem less_asymm {x y:List UInt8} (h:Op.bytesLess x y=true):Op.bytesLess y x=false:=by
 cases e:Op.bytesLess y x
 ·rfl
 ·have:=less_trans h e; rw [less_irr] at this; cases this
def bytesOf (a:ByteArray):List UInt8:=a.data.toList
def ofBytes (l:List UInt8):ByteArray:=⟨l.toArray⟩
theorem of_bytes (a:ByteArray):ofBytes (bytesOf a)=a:=by cases a; simp [ofBytes,bytesOf]
theorem strs_enc (l:List ByteArray):strs l=(l.map bytesOf).map encStr:=by
 unfold strs
 rw [List.map_map]
 refine List.map_congr_left fun a _=>?_
 show Value.string a=Value.string (ofBytes (bytesOf a))
 rw [of_bytes]
theorem sort_spec (l:List ByteArray) (hnd:l.Nodup):∃ l':List ByteArray,l'.Perm l ∧ Rising l' ∧ (((l.map bytesOf).mergeSort fun x y=>decide (x ≤ y)).map encStr)=strs l':=by
 have htr:∀ a b c:List UInt8,decide (a ≤ b)=true → decide (b ≤ c)=true → decide (a ≤ c)=true:=fun a b c h1 h2=>by
  rw [le_less] at *
  simp only [Bool.not_eq_true'] at *
  rcases less_total a b with rfl | h | h
  ·exact h2
  ·rcases less_total b c with rfl | h' | h'
   ·exact h1
   ·exact less_asymm (less_trans h h')
   ·rw [h2] at h'; cases h'
  ·rw [h1] at h; cases h
 have hto:∀ a b:List UInt8,(decide (a ≤ b) || decide (b ≤ a))=true:=fun a b=>by
  rw [le_less,le_less]
  rcases less_total a b with rfl | h | h
  ·simp [less_irr]
  ·simp [less_asymm h]
  ·simp [less_asymm h]
 have hp:=List.mergeSort_perm (l.map bytesOf) (fun x y=>decide (x ≤ y))
 have hs:=List.pairwise_mergeSort (le:=fun x y:List UInt8=>decide (x ≤ y)) htr hto (l.map bytesOf)
 generalize (l.map bytesOf).mergeSort (fun x y=>decide (x ≤ y))=ts at *
 have hp':(ts.map ofBytes).Perm l:=by
  have:=hp.map ofBytes
  rw [List.map_map,show ofBytes ∘ bytesOf=id from funext of_bytes,List.map_id] at this
  exact this
 have hnd':(ts.map ofBytes).Nodup:=hp'.nodup_iff.2 hnd
 refine ⟨ts.map ofBytes,hp',?_,?_⟩
 ·unfold Rising
  rw [List.pairwise_map]
  have hnd2:ts.Pairwise fun a b=>ofBytes a ≠ ofBytes b:=List.pairwise_map.1 hnd'
  refine (hs.and hnd2).imp fun {a b} h=>?_
  obtain ⟨h1,h2⟩:=h
  rw [le_less] at h1
  show Op.bytesLess (ofBytes a).toList (ofBytes b).toList=true
  have ea:(ofBytes a).toList=a:=by rw [ByteArray.toList_eq]; simp [ofBytes]
  have eb:(ofBytes b).toList=b:=by rw [ByteArray.toList_eq]; simp [ofBytes]
  rw [ea,eb]
  rcases less_total a b with rfl | h | h
  ·exact absurd rfl h2
  ·exact h
  ·rw [h] at h1; simp at h1
 ·unfold strs
  rw [List.map_map]
  rfl
theorem sort_strs (w:World) (base:Nat) (v:Value) (l:List ByteArray) (hrow:w.ownsRow base 9 1 v l.length (strs l)) (hl:l.length ≤ 1000000000) (hnd:l.Nodup) :
  Calls Tryz.prog 112 #[v] w fun e w'=>e=.returned (.tuple #[]) ∧
   ∃ l':List ByteArray,l'.Perm l ∧ Rising l' ∧ w'.ownsRow base 9 1 v l'.length (strs l') ∧ w.grownBy w' v.ownBlock:=by
 rcases Nat.eq_zero_or_pos l.length with hz | hp
 ·have hnil:l=[]:=List.length_eq_zero_iff.1 hz
  subst hnil
  obtain ⟨ao,cap,rfl,-⟩:=Row.shape (ownsRow_low hrow (Nat.zero_le _))
  have a:=AnyM.slices_Sort_string_none (P:=Tryz.prog) (ρ:=Tryz.sortStrs_ren) Tryz.sortStrs ao cap w
  change Calls Tryz.prog 112 _ _ _ at a
  refine a.mono ?_
  rintro e w' ⟨rfl,rfl⟩
  exact ⟨rfl,[],List.Perm.refl _,List.Pairwise.nil,hrow,⟨rfl,rfl,rfl,Nat.le_refl _,fun _ _ _=>rfl⟩⟩
 ·obtain ⟨l',p1,p2,p3⟩:=sort_spec l hnd
  rcases hrow.2 with ⟨hn,h0⟩ | ⟨g,cap,cur,rfl,hbase,hb,h1,h2,h3,h4⟩
  ·omega
  ·rw [strs_enc] at h4
   have hlen:(l.map bytesOf).length=l.length:=by simp
   have hH:Holds encStr w g 0 (l.map bytesOf).toArray:=holds_of_block hb (by rw [hlen]; simpa using h4)
   have a:=AnyM.slices_Sort_string (P:=Tryz.prog) (ρ:=Tryz.sortStrs_ren) Tryz.sortStrs g 0 cap (l.map bytesOf) w hH (Array.getElem?_eq_some_iff.1 hb).1 (by rw [hlen]; omega)
   change Calls Tryz.prog 112 _ _ _ at a
   rw [hlen] at a
   refine a.mono ?_
   rintro e w' ⟨rfl,m,os,rfl⟩
   refine ⟨rfl,l',p1,p2,?_,grownBy_sorted _⟩
   have b:=ownsRow_sorted (n:=m) (os:=os) (ss:=l.map bytesOf) (ts:=(l.map bytesOf).mergeSort fun x y=>decide (x ≤ y)) (by simp) hbase hb (by rw [hlen]; exact h1) h2 h3
   rw [p3,hlen] at b
   rw [p1.length_eq]
   exact b
end Go.Proofs.YtiplgdkpnhamaaaGreatDoor
namespace Go.Proofs.YtiplgdkpnhamaaaGreatDoor
open Go.RowKit Go.Sort
structure ElsRel (w0:World) (b r n:Nat) (st:St) (saw:Vec) (key:ByteArray) (v:Value) (wr:World) (left:ByteArray → Bool) (cnt:Nat) (acc:List ByteArray):Prop where
 rng:RngIn wr 9 b r n setVal unitVal (elsOf st.els key) left cnt
 own:wr.ownsRow (w0.heap.size + 1) 9 1 v acc.length (strs acc)
 once:acc.Nodup
 some_:∀ a,a ∈ acc ↔ st.els key a=true ∧ left a=false ∧ toldRaw saw st ⟨key,a⟩ ≠ []
 sub:∀ a,left a=true → st.els key a=true
 few:acc.length + cnt ≤ n
 bel:Below w0.heap.size w0 wr
theorem elsOf_some {st:St} {key a:ByteArray} {x:Unit} (h:elsOf st.els key a=some x):st.els key a=true:=by
 unfold elsOf at h; split at h
 ·assumption
 ·cases h
set_option maxRecDepth 100000 in
set_option maxHeartbeats 8000000 in
theorem snap_elements {w:World} {o:Nat → Own} {sb n nb:Nat} {st:St} {saw:Vec} {kept:Value} (hS:SnapIn w o sb n nb st saw kept) (key:ByteArray) (hk:key.size ≤ maxLen) (hn:n ≤ 900000000) :
  Calls Tryz.prog 110 #[bptr nb,.string key] w fun e w'=>∃ (v:Value) (l:List ByteArray),e=.returned v ∧ Rising l ∧ (∀ a,a ∈ l ↔ st.els key a=true ∧ toldRaw saw st ⟨key,a⟩ ≠ []) ∧ l.length ≤ n ∧ w'.ownsRow w.heap.size 9 1 v l.length (strs l) ∧ Below w.heap.size w w':=by
 obtain ⟨i0,hi,hz0,hz1,hz2⟩:=info_parts Tryz.infoStr
 have HI:=hide (⟨hi,hz0,hz1,hz2⟩:_ ∧ _ ∧ _ ∧ _)
 clear hi hz0 hz1 hz2
 obtain ⟨vb,cb,eb,ov,cv,ev,kv,h⟩:=hS.sto
 have c0:w.cell? ⟨nb,0,none⟩=some (.pointer (some ⟨sb,0,none⟩)):=hS.blk.cell 0
 have c7:w.cell? ⟨sb,7,none⟩=some (.map (some eb)):=h.blk.blk.cell 7
 have hlk:=els_look h.els hk (W:=w) rfl
 cases hev:ev key with
 | none=>
  rw [hev] at hlk
  have hnone:=h.setN key hev
  have HN:=hide (⟨hS,hnone⟩:_ ∧ _)
  clear hS h hev hnone
  have hrg:=run_range_nilMap (P:=Tryz.prog) w 244 9 195 Tryz.underlying244
  have hnx:=run_next_nilMap (P:=Tryz.prog) w 0 0 0 #[]
  have hB1:Below w.heap.size w (w.alloc (.mapIter none 0 #[] 0)):=(Below.refl _ _).alloc (Nat.le_refl _) _
  generalize w.alloc (.mapIter none 0 #[] 0)=W1 at *
  have hsort:=sort_strs W1 w.heap.size (.slice none 0 0) [] (by simpa [strs] using World.ownsRow_nil _ _ _ _) (by simp) List.nodup_nil
  have HSO:=hide hsort
  have HB:=hide hB1
  clear hsort hB1
  go_enter Tryz.func110,Tryz.ntmps110
  go_wp2_with fail
  go_loopw [5] (fun m wr=>m=.slice none 0 0 ∧ wr=W1) (fun _ _=>0)
  case atStart=>exact ⟨rfl,rfl⟩
  case round=>
   obtain ⟨rfl,rfl⟩:=hrel
   go_wp2_with fail
   refine HSO.out.mono ?_
   rintro e w2 ⟨rfl,l',hl1,hl2,hl3,hl4⟩
   have hnl:l'=[]:=List.Perm.eq_nil hl1
   subst hnl
   have HE:=hide (⟨hl3,hl4⟩:_ ∧ _)
   clear hl1 hl2 hl3 hl4
   go_wp2_with fail
   go_ret
   refine ⟨_,[],rfl,List.Pairwise.nil,fun a=>?_,Nat.zero_le _,HE.out.1,HB.out.grown HE.out.2 HB.out.size (fun j hj=>by simp [Value.ownBlock] at hj)⟩
   rw [HN.out.2 a]; simp
 | some b=>
  rw [hev] at hlk
  have hM:=h.set key b hev
  obtain ⟨w1,cnt0,hrun0,hrg0,hcnt0,hg0,hs0⟩:=hM.range str_keyed (t:=244) Tryz.underlying244
  have hB1:Below w.heap.size w w1:=(Touch.ofGrown hg0).mono (fun k _ e=>by cases e) |>.below
  have hrel0:ElsRel w b w.heap.size n st saw key (.slice none 0 0) w1 (fun a=>(elsOf st.els key a).isSome) cnt0 []:=by
   refine ⟨hrg0,by simpa [strs] using World.ownsRow_nil _ _ _ _,List.nodup_nil,fun a=>?_,fun a ha=>?_,by simpa using hcnt0,hB1⟩
   ·unfold elsOf; cases st.els key a <;> simp
   ·obtain ⟨x,hx⟩:=Option.isSome_iff_exists.1 ha; exact elsOf_some hx
  have HBL:=hide hM.lt
  have HH:=hide (⟨hS,h.elsOk,hrel0⟩:_ ∧ _ ∧ _)
  clear hS h hev hM hrg0 hcnt0 hg0 hB1 hrel0
  go_enter Tryz.func110,Tryz.ntmps110
  go_wp2_with fail
  go_loopw [5] (fun m wr=>∃ left cnt acc,ElsRel w b w.heap.size n st saw key m wr left cnt acc) (fun _ wr=>wr.rangeLeft b w.heap.size)
  case atStart=>exact ⟨_,_,_,HH.out.2.2⟩
  case round=>
   obtain ⟨left,cnt,acc,hR⟩:=hrel
   have hrl:=hR.rng.left_eq
   clear hlk c0 c7 hrun0
   rcases hR.rng.next str_keyed set_inj 0 with ⟨h0,hl,hrun⟩ | ⟨a,y,w2,cnt',hkl,hlx,hmx,hrun,hrg2,hltc,hgr,hsz,hen⟩
   ·have hall:∀ a,st.els key a=true → left a=false:=fun a ha=>by
     obtain ⟨kl,hkl⟩:=str_key (HH.out.2.1 key a ha)
     exact hl a kl hkl
    have HL:=hide (⟨hR,hall⟩:_ ∧ _)
    have hsort:=sort_strs _ _ _ _ hR.own (by have:=hR.few; omega) hR.once
    have HSO:=hide hsort
    clear hR hall hl hsort hrl
    go_wp2_with fail
    refine HSO.out.mono ?_
    rintro e w2 ⟨rfl,l',hl1,hl2,hl3,hl4⟩
    have HE:=hide (⟨hl1,hl2,hl3,hl4⟩:_ ∧ _ ∧ _ ∧ _)
    clear hl1 hl2 hl3 hl4
    go_wp2_with fail
    go_ret
    obtain ⟨hl1,hl2,hl3,hl4⟩:=HE.out
    obtain ⟨hR,hall⟩:=HL.out
    refine ⟨_,l',rfl,hl2,fun a=>?_,by rw [hl1.length_eq]; have:=hR.few; omega,ownsRow_low hl3 (by omega),hR.bel.grown hl4 hR.bel.size (fun j hj=>by have:=(hR.own.lt j hj).1; omega)⟩
    rw [hl1.mem_iff,hR.some_ a]
    constructor
    ·rintro ⟨x1,x2,x3⟩; exact ⟨x1,x3⟩
    ·rintro ⟨x1,x3⟩; exact ⟨x1,hall a x1,x3⟩
   ·have hels:st.els key a=true:=elsOf_some hmx
    have hpo:(⟨key,a⟩:Place).Ok:=⟨hk,HH.out.2.1 key a hels⟩
    have hB2:Below w.heap.size w w2:=hR.bel.grown hgr hR.bel.size (fun j hj=>by injection hj with hj; omega)
    have hS2:=HH.out.1.below hB2
    have htold:=hS2.told ⟨key,a⟩ hpo
    have hown2:w2.ownsRow (w.heap.size + 1) 9 1 u5 acc.length (strs acc):=own_base (Row.touch (ownsRow_low hR.own (Nat.zero_le _)) (Touch.ofGrown hgr) (fun j hj e=>by injection e with e; have:=(hR.own.lt j hj).1; omega)) (fun j hj=>(hR.own.lt j hj).1)
    have HT:=hide htold
    have HR:=hide (⟨hR,hrl,hlx,hels,hrg2,hltc,hB2,hown2⟩:_ ∧ _ ∧ _ ∧ _ ∧ _ ∧ _ ∧ _ ∧ _)
    clear hR hrl hlx hels hrg2 hltc hB2 hown2 hgr hsz hS2 hpo htold hkl hmx
    simp only [setVal,unitVal] at hrun hen
    go_wp2_with fail
    refine HT.out.mono ?_
    rintro e w3 ⟨v,l,rfl,hl,hsort,hown,hB3⟩
    obtain ⟨ao,cap,rfl,hcap,hmx,hcell⟩:=Row.shape (ownsRow_low hown (Nat.zero_le _))
    have hlz:l.length=0 ↔ toldRaw saw st ⟨key,a⟩=[]:=by rw [hl.length_eq,List.length_eq_zero_iff]
    have own3:=ownsRow_below HR.out.2.2.2.2.2.2.2 hB3
    have hrg3:=HR.out.2.2.2.2.1.move (hB3.block _ HR.out.2.2.2.2.1.map.lt) (hB3.block _ HR.out.2.2.2.2.1.lt)
    have hBf:Below w.heap.size w w3:=HR.out.2.2.2.2.2.2.1.trans (hB3.mono HR.out.2.2.2.2.2.2.1.size)
    have hrl3:∀ w4:World,RngIn w4 9 b w.heap.size n setVal unitVal (elsOf st.els key) (fun a'=>left a' && !decide (a'=a)) cnt' → w4.rangeLeft b w.heap.size < wr.rangeLeft b w.heap.size:=fun w4 h4=>by rw [h4.left_eq,HR.out.2.1]; exact HR.out.2.2.2.2.2.1
    have HL:=hide (⟨own3,hrg3,hBf,hrl3⟩:_ ∧ _ ∧ _ ∧ _)
    clear hl hsort hown hcell hB3 own3 hrg3 hBf hrl3 hrun hen
    rcases Nat.eq_zero_or_pos l.length with hz | hz
    ·have hz':=hlz.1 hz
     have HZ:=hide hz'
     clear hlz hz'
     rw [hz] at hcap
     have hzi:(l.length:Int)=0:=by omega
     go_wp2_with fail
     obtain ⟨hR,hrl,hlx,hels,hrg2,hltc,hB2,hown2⟩:=HR.out
     refine ⟨⟨_,cnt',acc,⟨HL.out.2.1,HL.out.1,hR.once,fun x=>?_,fun x hx=>hR.sub x (by simp only [Bool.and_eq_true] at hx; exact hx.1),by have:=hR.few; omega,HL.out.2.2.1⟩⟩,HL.out.2.2.2 _ HL.out.2.1⟩
     rw [hR.some_ x]
     by_cases c:x=a
     ·subst c; simp [hlx,HZ.out]
     ·simp [c]
    ·have hz':toldRaw saw st ⟨key,a⟩ ≠ []:=fun e=>by have:=hlz.2 e; omega
     have HZ:=hide hz'
     have hacn:acc.length + 1 ≤ 900000000:=by have:=HR.out.1.few; have:=HR.out.2.2.2.2.2.1; omega
     have hsz3:w.heap.size + 1 ≤ w3.heap.size:=by have:=HL.out.2.1.lt; omega
     clear hlz hz'
     go_wp2_with (at_builtin; refine wpList_append_own _ rfl _ _ 41 rfl (w.heap.size + 1) 9 i0 (.string ⟨#[]⟩) 1 16 Tryz.underlying41 HI.out.1 HI.out.2.1 HI.out.2.2.1 HI.out.2.2.2 rfl (by decide) _ _ _ rfl (HL.out.1.alloc _) ⟨w3.heap.size,0,none⟩ 1 1 [.string a] rfl rfl (cell_one_new _ _ _) (by intro u hu; simp at hu; subst hu; rfl) (by unfold maxLen; omega) (by omega) (by simp; omega) ?_; intro v4 w4 hown4 hgrow4 hnil4)
     obtain ⟨hR,hrl,hlx,hels,hrg2,hltc,hB2,hown2⟩:=HR.out
     have hgr4:Touch (fun k=>some k=u5.ownBlock) w3 w4:=((Touch.refl _ w3).alloc (.cells #[.string a] 9)).then ⟨hgrow4.os,hgrow4.tape,hgrow4.output,hgrow4.size,fun k hk hn=>hgrow4.block k hk hn⟩
     have hlo:∀ k,u5.ownBlock=some k → w.heap.size + 1 ≤ k:=fun k hk=>(HL.out.1.lt k hk).1
     have hrg4:=HL.out.2.1.move (w':=w4) (hgr4.block _ HL.out.2.1.map.lt (fun e=>by have:=hlo _ e.symm; have:=HBL.out; omega)) (hgr4.block _ HL.out.2.1.lt (fun e=>by have:=hlo _ e.symm; omega))
     have hB4:Below w.heap.size w w4:=(HL.out.2.2.1.alloc HL.out.2.2.1.size _).grown hgrow4 (by simp; omega) (fun j hj=>by have:=hlo j hj; omega)
     refine ⟨⟨_,cnt',acc ++ [a],⟨hrg4,by rw [strs_snoc]; simpa using hown4,?_,fun x=>?_,fun x hx=>hR.sub x (by simp only [Bool.and_eq_true] at hx; exact hx.1),by rw [List.length_append]; have:=hR.few; simp; omega,hB4⟩⟩,HL.out.2.2.2 _ hrg4⟩
     ·rw [List.nodup_append]
      refine ⟨hR.once,by simp,fun x hx y hy e=>?_⟩
      rw [List.mem_singleton] at hy
      subst hy; subst e
      have:=((hR.some_ x).1 hx).2.1
      rw [hlx] at this; cases this
     ·rw [List.mem_append,List.mem_singleton,hR.some_ x]
      by_cases c:x=a
      ·subst c; simp [hlx,HZ.out,hels]
      ·simp [c]
end Go.Proofs.YtiplgdkpnhamaaaGreatDoor
namespace Go.Proofs.YtiplgdkpnhamaaaGreatDoor
open Go.RowKit Go.Sort
structure OpenTx (w:World) (tb nb mb nW:Nat) (calls:Int) (m:Place → Option Wr):Prop where
 blk:Blk w tb [bptr nb,.int .i64 calls,.map (some mb)] 122
 own:MapIn w 129 mb nW Place.val Wr.val m
theorem OpenTx.below {w w':World} {tb nb mb nW:Nat} {calls:Int} {m:Place → Option Wr} (h:OpenTx w tb nb mb nW calls m) (hb:Below w.heap.size w w'):OpenTx w' tb nb mb nW calls m:=⟨h.blk.below hb,h.own.move (hb.block _ h.own.lt)⟩
theorem sumTold_perm {vers:VName → Option Ver} {p:Place} {l l':List Dot} (h:l.Perm l'):sumTold vers p l=sumTold vers p l':=by
 unfold sumTold
 refine h.foldl_eq' (fun x _ y _ z=>?_) 0
 rw [wrap_add,wrap_add]
 congr 1
 omega
theorem snap_sum_at {w:World} {o:Nat → Own} {sb n nb:Nat} {st:St} {saw:Vec} {kept:Value} (hS:SnapIn w o sb n nb st saw kept) (key:ByteArray) (hk:key.size ≤ maxLen) :
  Calls Tryz.prog 107 #[bptr nb,.string key] w fun e w'=>e=.returned (.int .i64 (sumTold st.vers ⟨key,noEl⟩ (toldRaw saw st ⟨key,noEl⟩))) ∧ Below w.heap.size w w':=
 (snap_sum hS key hk).mono (by rintro e w' ⟨l,hl,rfl,hB⟩; exact ⟨by rw [sumTold_perm hl],hB⟩)
theorem no_size:noEl.size ≤ maxLen:=by show (ByteArray.mk #[]).size ≤ _; exact Nat.zero_le _
theorem wr_look_ok {w:World} {mb n:Nat} {m:Place → Option Wr} {p:Place} (hM:MapIn w 129 mb n Place.val Wr.val m) (h1:p.key.size ≤ maxLen) (h2:p.el.size ≤ maxLen) {W:World} (hW:W.heap[mb]? = w.heap[mb]?) :
  (Instr.lookup 120 (.map (some mb)) (.agg #[.string p.key,.string p.el]) true).run Tryz.prog W=.ok (.tuple #[(wrAt m p).val,.bool (m p).isSome]) W:=by
 obtain ⟨kl,hk⟩:=place_key p h1 h2
 have a:=(hM.move hW).lookup_ok (t:=120) place_keyed Tryz.underlying120 (zeroWr W) hk
 have e:(m p).elim noWr.val Wr.val=(wrAt m p).val:=by unfold wrAt; cases m p <;> rfl
 rw [e] at a
 exact a
set_option maxRecDepth 100000 in
set_option maxHeartbeats 4000000 in
theorem tsum_any {w:World} {o:Nat → Own} {sb n nb tb mb nW:Nat} {st:St} {saw:Vec} {kept:Value} {calls:Int} {m:Place → Option Wr} (hS:SnapIn w o sb n nb st saw kept) (hT:OpenTx w tb nb mb nW calls m) (key:ByteArray) (hk:key.size ≤ maxLen) :
  Calls Tryz.prog 68 #[bptr tb,.string key] w fun e w'=>e=.returned (.int .i64 (wrap64 (sumTold st.vers ⟨key,noEl⟩ (toldRaw saw st ⟨key,noEl⟩) + (wrAt m ⟨key,noEl⟩).amount))) ∧ Below w.heap.size w w':=by
 have c0:=Bel.cell (show w.cell? ⟨tb,0,none⟩=some (.pointer (some ⟨nb,0,none⟩)) from hT.blk.cell 0)
 have c2:=Bel.cell (show w.cell? ⟨tb,2,none⟩=some (.map (some mb)) from hT.blk.cell 2)
 have hcall:∀ f:Fam (Bel w),Calls Tryz.prog 107 #[.pointer (some ⟨nb,0,none⟩),.string key] f.w fun e w''=>e=.returned (.int .i64 (sumTold st.vers ⟨key,noEl⟩ (toldRaw saw st ⟨key,noEl⟩))) ∧ ∃ g:Fam (Bel w),w''=g.w:=fun f=>Bel.call f (snap_sum_at (hS.below f.ok) key hk)
 have hlk:∀ f:Fam (Bel w),(Instr.lookup 120 (.map (some mb)) (.agg #[.string key,.string ⟨#[]⟩]) false).run Tryz.prog f.w=.ok (wrAt m ⟨key,noEl⟩).val f.w:=fun f=>wr_look hT.own (p:=⟨key,noEl⟩) hk no_size (f.ok.block _ hT.own.lt)
 obtain ⟨s,hs⟩:∃ s,sumTold st.vers ⟨key,noEl⟩ (toldRaw saw st ⟨key,noEl⟩)=s:=⟨_,rfl⟩
 obtain ⟨x,hx⟩:∃ x,wrAt m ⟨key,noEl⟩=x:=⟨_,rfl⟩
 rw [hs] at hcall
 rw [hx] at hlk
 rw [hs,hx]
 have hfa:=field_amount x.kind x.amount x.value
 have HC:=hide hcall
 clear hcall hs hx hS hT
 go_enter Tryz.func68,Tryz.ntmps68
 go_wp2_with fail
 refine region_fam (Bel w) (by kernel_rfl) (by kernel_rfl) (Below.refl _ _).drew ?_
 repeat (go_big_quiet_step (first | (go_at_call 107; exact HC.out _)))
 refine wpQuiet_nil ?_
 intro _ hw'
 obtain ⟨fq,rfl⟩:=hw'
 go_wp2_with fail
 go_ret
 exact ⟨rfl,fq.ok⟩
set_option maxRecDepth 100000 in
set_option maxHeartbeats 4000000 in
theorem tvalues_own {w:World} {tb nb mb nW:Nat} {calls:Int} {m:Place → Option Wr} (hT:OpenTx w tb nb mb nW calls m) (key:ByteArray) (hk:key.size ≤ maxLen) {x:Wr} (hx:m ⟨key,noEl⟩=some x) :
  Calls Tryz.prog 69 #[bptr tb,.string key] w fun e w'=>∃ v,e=.returned v ∧ w'.ownsRow w.heap.size 9 1 v 1 [.string x.value] ∧ Below w.heap.size w w':=by
 have c2:w.cell? ⟨tb,2,none⟩=some (.map (some mb)):=hT.blk.cell 2
 have hl:=hT.blk.lt
 have hlk:=wr_look_ok hT.own (p:=⟨key,noEl⟩) hk no_size (W:=w) rfl
 have hw:wrAt m ⟨key,noEl⟩=x:=by unfold wrAt; rw [hx]; rfl
 rw [hw,hx] at hlk
 simp only [noEl,Wr.val,Option.isSome_some] at hlk
 clear hT hw hx
 generalize hW1:w.alloc (.cells #[.int .i64 x.kind,.int .i64 x.amount,.string x.value] 132)=W1
 have hB1:Below w.heap.size w W1:=by rw [← hW1]; exact (Below.refl _ _).alloc (Nat.le_refl _) _
 have HB:=hide hB1
 have HW:=hide hW1
 clear hB1 hW1
 go_enter Tryz.func69,Tryz.ntmps69
 go_wp2_with fail
 rw [HW.out]
 go_ret
 refine ⟨_,rfl,?_,HB.out.alloc HB.out.size _⟩
 have a:=heap_alloc_new W1 (.cells #[.string x.value] 9)
 have hz:W1.heap.size=w.heap.size + 1:=by rw [← HW.out]; simp
 rw [hz] at a
 exact ⟨rfl,.inr ⟨w.heap.size + 1,1,#[.string x.value],rfl,by omega,a,Nat.le_refl _,by unfold maxLen; omega,rfl,rfl⟩⟩
set_option maxRecDepth 100000 in
set_option maxHeartbeats 4000000 in
theorem tvalues_told {w:World} {o:Nat → Own} {sb n nb tb mb nW:Nat} {st:St} {saw:Vec} {kept:Value} {calls:Int} {m:Place → Option Wr} (hS:SnapIn w o sb n nb st saw kept) (hT:OpenTx w tb nb mb nW calls m) (key:ByteArray) (hk:key.size ≤ maxLen) (hx:m ⟨key,noEl⟩=none) :
  Calls Tryz.prog 69 #[bptr tb,.string key] w fun e w'=>∃ (v:Value) (l:List Dot),l.Perm (toldRaw saw st ⟨key,noEl⟩) ∧ l.Pairwise dotLt ∧ e=.returned v ∧ w'.ownsRow w.heap.size 9 1 v (valsTold st.vers ⟨key,noEl⟩ l).length (strs (valsTold st.vers ⟨key,noEl⟩ l)) ∧ Below w.heap.size w w':=by
 have c0:w.cell? ⟨tb,0,none⟩=some (.pointer (some ⟨nb,0,none⟩)):=hT.blk.cell 0
 have c2:w.cell? ⟨tb,2,none⟩=some (.map (some mb)):=hT.blk.cell 2
 have hl:=hT.blk.lt
 have hlk:=wr_look_ok hT.own (p:=⟨key,noEl⟩) hk no_size (W:=w) rfl
 have hw:wrAt m ⟨key,noEl⟩=noWr:=by unfold wrAt; rw [hx]; rfl
 rw [hw,hx] at hlk
 simp only [noEl,Wr.val,noWr,Option.isSome_none] at hlk
 clear hT hw hx
 generalize hW1:w.alloc (.cells #[.int .i64 0,.int .i64 0,.string ⟨#[]⟩] 132)=W1
 have hB1:Below w.heap.size w W1:=by rw [← hW1]; exact (Below.refl _ _).alloc (Nat.le_refl _) _
 have hcall:=snap_values (hS.below hB1) key hk
 have HC:=hide hcall
 have HB:=hide hB1
 have HW:=hide hW1
 clear hB1 hW1 hcall hS
 go_enter Tryz.func69,Tryz.ntmps69
 go_wp2_with fail
 rw [HW.out]
 refine HC.out.mono ?_
 rintro e w2 ⟨v,l,h1,h2,rfl,h4,h5⟩
 have HE:=hide (⟨h1,h2,h4,h5⟩:_ ∧ _ ∧ _ ∧ _)
 clear h1 h2 h4 h5
 go_wp2_with fail
 go_ret
 exact ⟨_,l,HE.out.1,HE.out.2.1,rfl,ownsRow_low HE.out.2.2.1 HB.out.size,HB.out.trans (HE.out.2.2.2.mono HB.out.size)⟩
set_option maxRecDepth 100000 in
set_option maxHeartbeats 4000000 in
theorem elemfn {w:World} {tb nb mb nW pb kb:Nat} {calls:Int} {m:Place → Option Wr} (hT:OpenTx w tb nb mb nW calls m) (hp:w.cell? ⟨pb,0,none⟩=some (bptr tb)) (key:ByteArray) (hkb:w.cell? ⟨kb,0,none⟩=some (.string key)) (hk:key.size ≤ maxLen) (a:ByteArray) (ha:a.size ≤ maxLen) :
  Calls Tryz.prog 111 (#[Value.string a] ++ #[bptr pb,bptr kb]) w fun e w'=>e=.returned (.bool (m ⟨key,a⟩).isSome) ∧ Below w.heap.size w w':=by
 have c2:w.cell? ⟨tb,2,none⟩=some (.map (some mb)):=hT.blk.cell 2
 have hl:=hT.blk.lt
 have hpl:=World.block_lt_of_cell? w _ hp
 have hkl:=World.block_lt_of_cell? w _ hkb
 obtain ⟨x,hx⟩:∃ x,wrAt m ⟨key,a⟩=x:=⟨_,rfl⟩
 obtain ⟨b,hb⟩:∃ b,(m ⟨key,a⟩).isSome=b:=⟨_,rfl⟩
 have l1:=wr_look_ok hT.own (p:=⟨key,a⟩) hk ha (W:=w.drew) rfl
 have l2:=wr_look_ok hT.own (p:=⟨key,a⟩) hk ha (W:=(w.alloc (.cells #[.int .i64 0,.int .i64 0,.string ⟨#[]⟩] 132)).drew) (Below.heap_alloc _ _ _ hT.own.lt)
 rw [hx,hb] at l1 l2
 simp only [Wr.val] at l1 l2
 rw [hb]
 clear hT hx hb
 go_enter Tryz.func111,Tryz.ntmps111
 go_wp2_with fail
 go_region
 all_goals go_wp2_with fail
 all_goals go_ret
 all_goals exact ⟨rfl,((Below.refl _ _).alloc (Nat.le_refl _) _).drew⟩
end Go.Proofs.YtiplgdkpnhamaaaGreatDoor
