/- The texts F2, joined. -/
import Derived.Test.YtiplgdkpnhamaaaGreatDoorE12
import Derived.Test.YtiplgdkpnhamaaaGreatDoorE11
import Derived.Test.YtiplgdkpnhamaaaGreatDoorE08
import Derived.Test.YtiplgdkpnhamaaaGreatDoorE09
namespace Go.Proofs.YtiplgdkpnhamaaaGreatDoor
open Go.RowKit Go.Sort
section
variable {w:World} {g n:Nat} {os:Array Obj} {cur:Array Value} {e:TypeId} {fr:Nat × Nat}
theorem heap_put (F:Array Value) (hb:w.heap[g]? = some (.cells cur e fr)):(grow (putRow id (Sort.ahead w n) g 0 F) os).heap[g]? = some (.cells (putCells id 0 F cur) e fr):=by
 have hg:g < w.heap.size:=(Array.getElem?_eq_some_iff.1 hb).1
 rw [heap_grow_old _ _ (by simpa using hg)]
 simp [putRow,mapBlock,Sort.ahead,Array.getElem?_modify,hb,onCells]
theorem grown_put (F:Array Value):w.grownBy (grow (putRow id (Sort.ahead w n) g 0 F) os) (some g):=by
 refine ⟨rfl,rfl,rfl,by simp,fun k hk hne=>?_⟩
 rw [heap_grow_old _ _ (by simpa using hk)]
 have:g ≠ k:=fun e=>hne (by rw [e])
 simp [putRow,mapBlock,Sort.ahead,Array.getElem?_modify,this]
theorem take_put (F:Array Value) (h:F.size ≤ cur.size):(putCells id 0 F cur).toList.take F.size=F.toList:=by
 apply List.ext_getElem?
 intro j
 by_cases hj:j < F.size
 ·rw [List.getElem?_take_of_lt hj,Array.getElem?_toList]
  simp [putCells,hj,show j < cur.size by omega]
 ·rw [List.getElem?_take_eq_none (by omega),List.getElem?_eq_none (by simp; omega)]
theorem owns_put {base cap m size:Nat} {F:Array Value} {xs:List Value} (h:w.ownsRow base e size (.slice (some ⟨g,0,none⟩) m cap) m xs) (hF:F.size=m * size) :
  (grow (putRow id (Sort.ahead w n) g 0 F) os).ownsRow base e size (.slice (some ⟨g,0,none⟩) m cap) m F.toList:=by
 rcases h.2 with ⟨h',-⟩ | ⟨g',cap',cur,h',hb,hg,hnc,hcm,hcs,htake⟩
 ·cases h'
 ·cases h'
  refine ⟨by simpa using hF,.inr ⟨g,cap,_,rfl,hb,heap_put F hg,hnc,hcm,by simp [putCells,hcs],?_⟩⟩
  rw [← hF]
  exact take_put F (by rw [hF,hcs]; exact Nat.mul_le_mul_right _ hnc)
theorem holds_row {base cap m size:Nat} {F:Array Value} (h:w.ownsRow base e size (.slice (some ⟨g,0,none⟩) m cap) m F.toList):Holds id w g 0 F:=by
 intro j hj
 have hl:F.size=m * size:=by have:=h.1; simpa using this
 refine ⟨?_,by rw [Nat.zero_add]; exact World.ownsRow.frozenAt h j⟩
 rw [Nat.zero_add,World.ownsRow.cellAt h j (by omega)]
 simp [hj]
end
instance:Inhabited Dot:=⟨⟨0,0⟩⟩
theorem flat_dots (l:List Dot):flatK Dot.cells 2 l.toArray=(l.flatMap Dot.cells).toArray:=by
 apply Array.ext_getElem?
 intro t
 have hlen:=flat_len Dot.cells 2 (fun _=>rfl) l
 by_cases ht:t < l.length * 2
 ·have h1:t / 2 < l.length:=by omega
  have hg:=flat_get Dot.cells 2 (fun _=>rfl) l (t / 2) (t % 2) h1 (by omega)
  rw [show t / 2 * 2 + t % 2=t by omega] at hg
  rw [show (l.flatMap Dot.cells).toArray[t]? = (l.flatMap Dot.cells)[t]? by simp,hg]
  have:(flatK Dot.cells 2 l.toArray:Array Value)[t]? = some (flatK Dot.cells 2 l.toArray)[t]!:=by
   rw [getElem!_pos _ t (by simpa using ht)]; simp [ht]
  rw [this,get_flatK _ _ _ _ (by simpa using ht)]
  have e1:l.toArray[t / 2]! = l[t / 2]:=by rw [getElem!_pos _ _ (by simpa using h1)]; simp
  rw [e1]
  have hm:t % 2 < (Dot.cells l[t / 2]).length:=by show t % 2 < 2; omega
  rw [getElem!_pos (Dot.cells l[t / 2]) (t % 2) hm,List.getElem?_eq_getElem hm]
 ·rw [Array.getElem?_eq_none (by simp; omega),show (l.flatMap Dot.cells).toArray[t]? = (l.flatMap Dot.cells)[t]? by simp,List.getElem?_eq_none (by rw [hlen]; omega)]
instance (a b:Dot):Decidable (dotLt a b):=by unfold dotLt; infer_instance
theorem cmpDot_lt (a b:Dot):ltOf cmpDot a b=decide (dotLt a b):=by
 unfold ltOf cmpDot orInt cmpInt
 by_cases h:a.rep < b.rep ∨ a.rep=b.rep ∧ a.seq < b.seq
 ·rw [decide_eq_true (p:=dotLt a b) h,decide_eq_true_eq]
  split <;> split <;> omega
 ·rw [decide_eq_false (p:=dotLt a b) h,decide_eq_false_iff_not]
  split <;> split <;> omega
theorem swoDot:SWO (ltOf cmpDot) where
 irrefl x:=by rw [cmpDot_lt]; simp [dotLt_irr]
 trans x y z h1 h2:=by
  rw [cmpDot_lt,decide_eq_true_eq] at *
  exact dotLt_trans h1 h2
 ntrans x y z h1 h2:=by
  rw [cmpDot_lt,decide_eq_false_iff_not] at *
  unfold dotLt at *; omega
theorem enters_inorder (args:Array Value) (w:World):(callFunc 182 args).run Tryz.prog w=.ok (.enter 182 args) w:=enters_of Tryz.func182 (by kernel_rfl) rfl args w
theorem cmpLays_dots (blk off size:Nat) (w:World):CmpLays Tryz.prog 182 #[] Dot.cells 2 cmpDot blk off size w:=fun _ _ _ _ x y=>inorder_any x y _
theorem sort_dots (w:World) (g cap:Nat) (l:List Dot) (hrow:Row w 62 2 (.slice (some ⟨g,0,none⟩) l.length cap) l.length (l.flatMap Dot.cells)) (hl:l.length ≤ 1000000000) (hnd:l.Nodup) :
  Calls Tryz.prog 181 #[.slice (some ⟨g,0,none⟩) l.length cap,.func (.func 182) #[] #[]] w fun e w'=>e=.returned (.tuple #[]) ∧
   ∃ l':List Dot,l'.Perm l ∧ l'.Pairwise dotLt ∧ Row w' 62 2 (.slice (some ⟨g,0,none⟩) l.length cap) l.length (l'.flatMap Dot.cells) ∧ w.grownBy w' (some g):=by
 have hH:HoldsK Dot.cells 2 w g 0 l.toArray:=by
  unfold HoldsK
  rw [flat_dots]
  exact holds_row (by simpa using hrow)
 have hgl:g < w.heap.size:=hrow.lt rfl
 have hcon:=AnyQ.slices_SortFunc Tryz.sortDots 2 Tryz.isAgg62 Tryz.sizeOf62 Dot.cells (fun _=>rfl) (fun x v hv=>by simp [Dot.cells] at hv; rcases hv with rfl | rfl <;> rfl) cmpDot swoDot 182 #[] g 0 cap l.toArray w enters_inorder (cmpLays_dots g 0 _ w) hH hgl (by simp; omega)
 change Calls Tryz.prog 181 _ _ _ at hcon
 rw [List.size_toArray] at hcon
 refine hcon.mono ?_
 rintro e w' ⟨rfl,d',m,os,hp,hs,rfl⟩
 obtain ⟨p1,-,p3⟩:=hp
 have hsz:d'.size=l.length:=by simpa using p1
 have hperm:d'.toList.Perm l:=by
  have e1:d'.extract 0 l.length=d':=by rw [← hsz]; simp
  have e2:l.toArray.extract 0 l.length=l.toArray:=by
   have:l.length=l.toArray.size:=by simp
   rw [this]; simp
  rw [e1,e2] at p3
  simpa using p3
 have hnd':d'.toList.Nodup:=hperm.nodup_iff.2 hnd
 refine ⟨rfl,d'.toList,hperm,?_,?_,?_⟩
 ·rw [List.pairwise_iff_getElem]
  intro i j hi hj hij
  have hi':i < d'.size:=by simpa using hi
  have hj':j < d'.size:=by simpa using hj
  have a:=hs i j (Nat.zero_le _) hij (by omega)
  rw [cmpDot_lt,decide_eq_false_iff_not,getElem!_pos d' j hj',getElem!_pos d' i hi'] at a
  have hne:d'[i] ≠ d'[j]:=fun e=>by
   have:i=j:=(List.getElem_inj (xs:=d'.toList) (h₀:=hi) (h₁:=hj) hnd').1 (by rw [Array.getElem_toList,Array.getElem_toList]; exact e)
   omega
  have hne':¬ (d'[i].rep=d'[j].rep ∧ d'[i].seq=d'[j].seq):=fun c=>hne (by
   cases h1:d'[i]; cases h2:d'[j]; rw [h1,h2] at c; simp at c; simp [c])
  show dotLt d'.toList[i] d'.toList[j]
  rw [Array.getElem_toList,Array.getElem_toList]
  unfold dotLt at *; omega
 ·have hfl:=flat_dots d'.toList
  rw [Array.toArray_toList] at hfl
  unfold sortWorldK putRowK
  rw [hfl]
  have:=owns_put (n:=m) (os:=os) (F:=(d'.toList.flatMap Dot.cells).toArray) hrow (by rw [List.size_toArray,flat_len Dot.cells 2 (fun _=>rfl)]; simp [hsz])
  simpa using this
 ·unfold sortWorldK putRowK
  exact grown_put _
end Go.Proofs.YtiplgdkpnhamaaaGreatDoor
