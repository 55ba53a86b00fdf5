/- The texts U22, U23, U24, U25, U26, U27, U28, U29, U30, U31, U32, joined. -/
import Derived.Test.YtiplgdkpnhamaaaGreatDoorE35
import Derived.Test.YtiplgdkpnhamaaaGreatDoorE13
import Derived.Test.YtiplgdkpnhamaaaGreatDoorE11
import Derived.Test.YtiplgdkpnhamaaaGreatDoorE16
import Derived.Test.YtiplgdkpnhamaaaGreatDoorE21
import Derived.RangeFuncNested
import Derived.RangeFuncBound
import Derived.RangeFuncCalls
import Derived.RangeFuncLeaves
import Derived.RangeFuncBox
import Derived.Shelf.RegionOpen
import Derived.LoopNIn
import Derived.Maps.AppendAt
import Derived.Shelf.SlSortCmp.NoneTotal
namespace Go.Proofs.YtiplgdkpnhamaaaGreatDoor
open Go.RowKit
attribute [local go_sem] Oper.semAt_some
theorem info_place:(Tryz.prog.info? 129).map (fun i=>(i.zero,i.size,i.bytes))=some (some (.agg #[.string "".toUTF8,.string "".toUTF8]),2,32):=by kernel_rfl
def Box2 (W:World) (B:Nat) (t:TypeId) (x y:Value):Prop:=W.heap[B]? = some (.cells #[x,y] t (0,0))
theorem Box2.lt {W:World} {B:Nat} {t:TypeId} {x y:Value} (h:Box2 W B t x y):B < W.heap.size:=(Array.getElem?_eq_some_iff.1 h).1
theorem Box2.cell0 {W:World} {B:Nat} {t:TypeId} {x y:Value} (h:Box2 W B t x y):W.cell? ⟨B,0,none⟩=some x:=by simp [World.cell?,show W.heap[B]? = _ from h]
theorem Box2.cell1 {W:World} {B:Nat} {t:TypeId} {x y:Value} (h:Box2 W B t x y):W.cell? ⟨B,1,none⟩=some y:=by simp [World.cell?,show W.heap[B]? = _ from h]
theorem box2_own {X Y:World} {row:Option Nat} {B:Nat} {t:TypeId} {x y:Value} (h:Box2 X B t x y) (hg:X.grownBy Y row) (hrow:∀ r,row=some r → ∃ o:Obj,X.heap[r]? = some o ∧ o.isCells=false):Box2 Y B t x y:=
 (hg.block B h.lt (fun e'=>by obtain ⟨o,ho,hc⟩:=hrow B e'.symm; rw [show X.heap[B]? = _ from h] at ho; cases ho; cases hc)).trans h
theorem cell_two_new (w:World) (x y:Value) (t:TypeId):∀ j u,[x,y][j]? = some u → (w.alloc (.cells #[x,y] t)).cell? ((⟨w.heap.size,0,none⟩:Addr).add j)=some u:=by
 intro j u hj
 match j,hj with
 | 0,hj=>simp at hj; subst hj; simp [Addr.add]
 | 1,hj=>simp at hj; subst hj; simp [Addr.add]
set_option maxRecDepth 100000 in
set_option maxHeartbeats 4000000 in
theorem append_seq (g:Nat) (lb:Array Value) (S:List Place → Prop) (N:Nat) (hN:N ≤ 1000000) (eg:∀ args w,(callFunc g args).run Tryz.prog w=.ok (.enter g args) w) (w:World) (hseq:SeqStopsK Fence.wide 5 Tryz.prog g lb (fun x:Place=>#[Place.val x]) KeepsWalks S (fun _=>True) N w) :
  CallsIn Fence.wide 6 Tryz.prog 222 #[.slice none 0 0,.func (.func g) #[] lb] w fun e w'=>∃ v ks,e=.returned v ∧ S ks ∧ w'.ownsRow w.heap.size 129 2 v ks.length (ks.flatMap fun p=>[.string p.key,.string p.el]) ∧ Below w.heap.size w w':=by
 refine callsIn_of_wp_marks Tryz.func222 rfl trivial ?_ rfl
 simp only [Tryz.ntmps222,List.size_toArray,List.length_cons,List.length_nil,Nat.reduceAdd,Nat.reduceSub,Array.replicate_succ,Array.replicate_zero,List.push_toArray,List.append_toArray,List.nil_append,List.cons_append]
 obtain ⟨i0,hi,hz0,hz1,hz2⟩:=info_parts info_place
 have bO:=Boxed.new w 250 (.slice none 0 0)
 have hB0:Below w.heap.size w (w.alloc (.cells #[.slice none 0 0] 250)):=(Below.refl _ w).alloc (Nat.le_refl _) _
 gi_wp2
 refine wpIn_rangeFunc_ownH rfl (by omega) (gf:=g) (lb:=lb) rfl trivial eg hseq walksK_t walksK_b hB0 (fun _=>rfl)
  (fun pre W=>(∃ v,Boxed W w.heap.size 250 v ∧ W.ownsRow w.heap.size 129 2 v pre.length (pre.flatMap fun p:Place=>[.string p.key,.string p.el]) ∧ True) ∧ Below w.heap.size w W)
  (fun _ _ _=>False)
  (OwnFrom.and (Own.from (holdsRow_own w.heap.size w.heap.size 250 129 2 (fun pre:List Place=>pre.length) (fun pre=>pre.flatMap fun p:Place=>[.string p.key,.string p.el]) (fun _ _=>True)) _) (ownFrom_below (Nat.le_refl _) (by simp)))
  (fun _ _ _ _ _ hs _ _=>hs)
  ⟨⟨_,bO,World.ownsRow_nil _ _ _ _,trivial⟩,hB0⟩
  (fun x a' W=>∃ Bx,w.heap.size < Bx ∧ Box2 W Bx 129 (.string x.key) (.string x.el) ∧ a'={ tmps:=#[.slice none 0 0,.func (.func g) #[] lb,bptr w.heap.size,undef,.slice none 0 0,bptr Bx,.func (.func g) #[] lb,x.val,undef,undef,undef,undef,undef],defers:=[] })
  (fun x a' _ X Y row hs hg hr=>by obtain ⟨Bx,h1,h2,h3⟩:=hs; exact ⟨Bx,h1,box2_own h2 hg (fun r e=>(hr r e).2),h3⟩)
  ?assign ?body ?done ?stop
 case assign=>
  rintro l pre ⟨px,py⟩ W K ⟨⟨v,hv,hrow,-⟩,hB1⟩ hK
  simp only [Place.val]
  gi_wp2
  exact hK _ _ ((KeepsOthers.alloc _ _).from _) (KeepsOthers.alloc _ _).walks ⟨⟨v,hv.alloc _,hrow.alloc _,trivial⟩,hB1.alloc hB1.size _⟩ ⟨W.heap.size,hv.lt,World.alloc_heap_new W _,rfl⟩
 case body=>
  rintro l pre ⟨px,py⟩ a' W hl ⟨r,hr⟩ ⟨⟨v,hv,hrow,-⟩,hB1⟩ ⟨Bx,hBx,bX,rfl⟩ hlt
  have hc:=hv.cell
  have hx0:=bX.cell0
  have hx1:=bX.cell1
  simp only [Place.val]
  gi_wp2_with (gi_at_builtin; refine wpListIn_append_own _ rfl _ _ 250 rfl w.heap.size 129 i0 _ 2 32 Tryz.underlying250 hi hz0 hz1 hz2 rfl (by decide) _ _ _ rfl (hrow.alloc _) ⟨W.heap.size,0,none⟩ 1 1 [.string px,.string py] rfl rfl (cell_two_new _ _ _ _) (by simp [Value.oneCell']) (by simp only [maxLen]; omega) (by omega) (by have:=hB1.size; simp; omega) ?_; intro v' w1 hown' hgrow _; obtain ⟨g',cap',rfl⟩:=ownsRow_succ hown'; obtain ⟨hv1,hv2,hr2,hk2,hb2⟩:=hv.appended (by decide) hrow hB1.size (Nat.le_refl _) hown' hgrow; have hc1:=hv1.cell; have hf1:=hv1.frozen)
  exact ⟨hk2.from _,hk2.walks,⟨_,hv2,by simpa using hr2⟩,hB1.trans hb2⟩
 case done=>
  rintro D ks W hD hS ⟨⟨v,hv,hrow,-⟩,hB1⟩ hK
  have hc:=hv.cell
  gi_wp2
  refine ⟨by simp,.inl ⟨_,_,rfl,run_takeDeferred hK,?_⟩⟩
  exact ⟨_,results_tmp rfl _ _ _,v,ks,rfl,hS,ownsRow_putObj hrow _ hK rfl,hB1.trans (belowK_b (w:=w) (Nat.le_refl _) W D _ _ (by simp at hD; omega) hK rfl rfl)⟩
 case stop=>
  rintro D c pre W _ _ h _
  exact h.elim
end Go.Proofs.YtiplgdkpnhamaaaGreatDoor
namespace Go.Proofs.YtiplgdkpnhamaaaGreatDoor
open Go.RowKit Go.Sort
def cmpStr (a b:ByteArray):Int:=if strLt a b then -1 else if strLt b a then 1 else 0
set_option maxHeartbeats 400000 in
theorem nan_str (a:ByteArray) (w:World):Calls Tryz.prog 215 #[.string a] w fun e w'=>e=.returned (.bool false) ∧ w'=w:=by
 go_enter Tryz.func215,Tryz.ntmps215
 go_wp2
 go_ret
 exact ⟨ret_bool (by simp),rfl⟩
set_option maxHeartbeats 1000000 in
theorem cmp_str (a b:ByteArray) (w:World):Calls Tryz.prog 203 #[.string a,.string b] w fun e w'=>e=.returned (.int .i64 (cmpStr a b)) ∧ w'=w:=by
 have HC:Hid (strLt a b=true ∨ (strLt a b=false ∧ strLt b a=true) ∨ (strLt a b=false ∧ strLt b a=false)):=by
  unfold Hid; cases strLt a b <;> cases strLt b a <;> simp
 have HE:∀ x:Int,Hid (x=cmpStr a b) → Hid (x=cmpStr a b):=fun _ h=>h
 go_enter Tryz.func203,Tryz.ntmps203
 go_wp2_with fail
 refine (nan_str a _).mono ?_
 rintro e w1 ⟨rfl,rfl⟩
 go_wp2_with fail
 refine (nan_str b _).mono ?_
 rintro e w2 ⟨rfl,rfl⟩
 rcases HC.out with h | ⟨h,h'⟩ | ⟨h,h'⟩
 ·have he:Hid (cmpStr a b=-1):=by unfold Hid cmpStr; simp [h]
  unfold strLt at h
  go_wp2_with fail
  go_ret
  exact ⟨ret_int he.out.symm,rfl⟩
 ·have he:Hid (cmpStr a b=1):=by unfold Hid cmpStr; simp [h,h']
  have hq:(a.toList == b.toList)=false:=by
   rw [beq_eq_false_iff_ne]
   intro c
   unfold strLt at h'; rw [c,less_irr] at h'; cases h'
  unfold strLt at h h'
  go_wp2_with fail
  go_ret
  exact ⟨ret_int he.out.symm,rfl⟩
 ·have he:Hid (cmpStr a b=0):=by unfold Hid cmpStr; simp [h,h']
  have hq:(a.toList == b.toList)=true:=by
   rw [beq_iff_eq]
   rcases strLt_total a b with c | c | c
   ·rw [c]
   ·rw [h] at c; cases c
   ·rw [h'] at c; cases c
  unfold strLt at h h'
  go_wp2_with fail
  go_ret
  exact ⟨ret_int he.out.symm,rfl⟩
def cmpPlace (a b:Place):Int:=orInt (cmpStr a.key b.key) (cmpStr a.el b.el)
set_option maxHeartbeats 4000000 in
set_option maxRecDepth 100000 in
theorem text_inorder (a b:Place) (W:World):Calls Tryz.prog 165 #[a.val,b.val] W fun e w'=>e=.returned (.int .i64 (cmpPlace a b)) ∧ Gr W w':=by
 obtain ⟨ar,aq⟩:=a
 obtain ⟨br,bq⟩:=b
 generalize hW0:(W.alloc (.cells #[.string ar,.string aq] 129)).alloc (.cells #[.string br,.string bq] 129)=W0
 have hG:Gr W W0:=by rw [← hW0]; exact (Gr.alloc _ _).of (Gr.alloc _ _)
 have b1:Blk W0 W.heap.size [.string ar,.string aq] 129:=by rw [← hW0]; exact Blk.first W _ _ _
 have b2:Blk W0 (W.heap.size + 1) [.string br,.string bq] 129:=by rw [← hW0]; exact Blk.second W _ _ _
 have x0:=Gr.cell (show W0.cell? ⟨W.heap.size,0,none⟩=some (.string ar) from b1.cell 0)
 have x1:=Gr.cell (show W0.cell? ⟨W.heap.size,1,none⟩=some (.string aq) from b1.cell 1)
 have y0:=Gr.cell (show W0.cell? ⟨W.heap.size + 1,0,none⟩=some (.string br) from b2.cell 0)
 have y1:=Gr.cell (show W0.cell? ⟨W.heap.size + 1,1,none⟩=some (.string bq) from b2.cell 1)
 unfold cmpPlace
 simp only
 have k1:∀ f:Fam (Gr W0),Calls Tryz.prog 203 #[.string ar,.string br] f.w fun e w''=>e=.returned (.int .i64 (cmpStr ar br)) ∧ ∃ g:Fam (Gr W0),w''=g.w:=fun f=>(cmp_str ar br f.w).mono fun e w'' ⟨h1,h2⟩=>⟨h1,f,h2⟩
 have k2:∀ f:Fam (Gr W0),Calls Tryz.prog 203 #[.string aq,.string bq] f.w fun e w''=>e=.returned (.int .i64 (cmpStr aq bq)) ∧ ∃ g:Fam (Gr W0),w''=g.w:=fun f=>(cmp_str aq bq f.w).mono fun e w'' ⟨h1,h2⟩=>⟨h1,f,h2⟩
 obtain ⟨p,hp⟩:∃ p,cmpStr ar br=p:=⟨_,rfl⟩
 obtain ⟨q,hq⟩:∃ q,cmpStr aq bq=q:=⟨_,rfl⟩
 rw [hp] at k1 ⊢
 rw [hq] at k2 ⊢
 have K1:=hide k1
 have K2:=hide k2
 have HG:=hide hG
 have HW0:=hide hW0
 clear hp hq k1 k2 hG b1 b2 hW0
 simp only [Place.val]
 go_enter Tryz.func165,Tryz.ntmps165
 go_wp2_with fail
 rw [HW0.out]
 refine region_fam_tail (Gr W0) 10 (by kernel_rfl) (by kernel_rfl) ((Gr.refl _).drew) ?_
 simp only [List.take_succ_cons,List.take_zero,List.drop_succ_cons,List.drop_zero]
 repeat (go_big_quiet_step (first | (go_at_call_of 203 (Value.string ar); exact K1.out _) | (go_at_call_of 203 (Value.string aq); exact K2.out _)))
 refine wpQuiet_nil ?_
 intro _ hw'
 obtain ⟨fq,rfl⟩:=hw'
 obtain ⟨W1,hG1⟩:=fq
 try dsimp only
 clear x0 x1 y0 y1
 have o1:Blk (W1.alloc (.cells #[.int .i64 p,.int .i64 q] 3)) W1.heap.size [.int .i64 p,.int .i64 q] 3:=heap_alloc_new W1 _
 have hor:=or_two (W1.alloc (.cells #[.int .i64 p,.int .i64 q] 3)) W1.heap.size p q (o1.cell 0) (o1.cell 1)
 have HOR:=hide hor
 clear hor o1
 go_wp2_with fail
 refine HOR.out.mono ?_
 rintro e w2 ⟨rfl,rfl⟩
 go_wp2_with fail
 go_ret
 exact ⟨rfl,(HG.out.of hG1).of (Gr.alloc _ _)⟩
end Go.Proofs.YtiplgdkpnhamaaaGreatDoor
namespace Go.Proofs.YtiplgdkpnhamaaaGreatDoor
open Go.RowKit Go.Sort
theorem own_lt {w:World} {base e size g m cap k:Nat} {xs:List Value} (h:w.ownsRow base e size (.slice (some ⟨g,0,none⟩) m cap) k xs):g < w.heap.size:=by
 rcases h.2 with ⟨h',-⟩ | ⟨g',cap',cur,h',hb,hg,-⟩
 ·cases h'
 ·cases h'; exact (Array.getElem?_eq_some_iff.1 hg).1
instance:Inhabited Place:=⟨⟨⟨#[]⟩,⟨#[]⟩⟩⟩
def pcells (p:Place):List Value:=[.string p.key,.string p.el]
theorem flat_places (l:List Place):flatK pcells 2 l.toArray=(l.flatMap pcells).toArray:=by
 apply Array.ext_getElem?
 intro t
 have hlen:=flat_len pcells 2 (fun _=>rfl) l
 by_cases ht:t < l.length * 2
 ·have h1:t / 2 < l.length:=by omega
  have hg:=flat_get pcells 2 (fun _=>rfl) l (t / 2) (t % 2) h1 (by omega)
  rw [show t / 2 * 2 + t % 2=t by omega] at hg
  rw [show (l.flatMap pcells).toArray[t]? = (l.flatMap pcells)[t]? by simp,hg]
  have:(flatK pcells 2 l.toArray:Array Value)[t]? = some (flatK pcells 2 l.toArray)[t]!:=by
   rw [getElem!_pos _ t (by simpa using ht)]; simp [ht]
  rw [this,get_flatK _ _ _ _ (by simpa using ht)]
  have e1:l.toArray[t / 2]! = l[t / 2]:=by rw [getElem!_pos _ _ (by simpa using h1)]; simp
  rw [e1]
  have hm:t % 2 < (pcells l[t / 2]).length:=by show t % 2 < 2; omega
  rw [getElem!_pos (pcells l[t / 2]) (t % 2) hm,List.getElem?_eq_getElem hm]
 ·rw [Array.getElem?_eq_none (by simp; omega),show (l.flatMap pcells).toArray[t]? = (l.flatMap pcells)[t]? by simp,List.getElem?_eq_none (by rw [hlen]; omega)]
def placeLt (a b:Place):Prop:=strLt a.key b.key=true ∨ a.key=b.key ∧ strLt a.el b.el=true
instance (a b:Place):Decidable (placeLt a b):=by unfold placeLt; infer_instance
theorem cmpStr_neg (a b:ByteArray):cmpStr a b < 0 ↔ strLt a b=true:=by
 unfold cmpStr; cases h:strLt a b <;> simp <;> split <;> simp
theorem cmpStr_zero (a b:ByteArray):cmpStr a b=0 ↔ a=b:=by
 unfold cmpStr
 constructor
 ·intro h
  rcases strLt_total a b with c | c | c
  ·exact c
  ·rw [if_pos c] at h; simp at h
  ·by_cases d:strLt a b=true
   ·rw [if_pos d] at h; simp at h
   ·rw [if_neg d,if_pos c] at h; simp at h
 ·rintro rfl
  rw [strLt_irr]; simp
theorem cmpPlace_neg (a b:Place):cmpPlace a b < 0 ↔ placeLt a b:=by
 unfold cmpPlace orInt placeLt
 by_cases h:cmpStr a.key b.key=0
 ·rw [if_pos h,cmpStr_neg]
  have e:=(cmpStr_zero _ _).1 h
  rw [e,strLt_irr]
  simp
 ·rw [if_neg h,cmpStr_neg]
  have e:=mt (cmpStr_zero _ _).2 h
  simp [e]
theorem cmpPlace_lt (a b:Place):ltOf cmpPlace a b=decide (placeLt a b):=by
 unfold ltOf
 by_cases h:placeLt a b
 ·rw [decide_eq_true h,decide_eq_true_eq]; exact (cmpPlace_neg a b).2 h
 ·rw [decide_eq_false h,decide_eq_false_iff_not]; exact fun c=>h ((cmpPlace_neg a b).1 c)
theorem placeLt_irr (a:Place):¬ placeLt a a:=by
 unfold placeLt; rw [strLt_irr,strLt_irr]; simp
theorem placeLt_trans {a b c:Place} (h1:placeLt a b) (h2:placeLt b c):placeLt a c:=by
 unfold placeLt at *
 rcases h1 with h1 | ⟨e1,h1⟩ <;> rcases h2 with h2 | ⟨e2,h2⟩
 ·exact Or.inl (strLt_trans h1 h2)
 ·exact Or.inl (by rw [← e2]; exact h1)
 ·exact Or.inl (by rw [e1]; exact h2)
 ·exact Or.inr ⟨e1.trans e2,strLt_trans h1 h2⟩
theorem placeLt_total (a b:Place):a=b ∨ placeLt a b ∨ placeLt b a:=by
 unfold placeLt
 rcases strLt_total a.key b.key with c | c | c
 ·rcases strLt_total a.el b.el with d | d | d
  ·left; cases a; cases b; simp at c d; simp [c,d]
  ·exact Or.inr (Or.inl (Or.inr ⟨c,d⟩))
  ·exact Or.inr (Or.inr (Or.inr ⟨c.symm,d⟩))
 ·exact Or.inr (Or.inl (Or.inl c))
 ·exact Or.inr (Or.inr (Or.inl c))
theorem swoPlace:SWO (ltOf cmpPlace) where
 irrefl x:=by rw [cmpPlace_lt]; simp [placeLt_irr]
 trans x y z h1 h2:=by
  rw [cmpPlace_lt,decide_eq_true_eq] at *
  exact placeLt_trans h1 h2
 ntrans x y z h1 h2:=by
  rw [cmpPlace_lt,decide_eq_false_iff_not] at *
  intro c
  rcases placeLt_total x y with e | e | e
  ·subst e; exact h2 c
  ·exact h1 e
  ·exact h2 (placeLt_trans e c)
theorem enters_text_inorder (args:Array Value) (w:World):(callFunc 165 args).run Tryz.prog w=.ok (.enter 165 args) w:=enters_of Tryz.func165 (by kernel_rfl) rfl args w
theorem cmpLays_places (blk off size:Nat) (w:World):CmpLays Tryz.prog 165 #[] pcells 2 cmpPlace blk off size w:=fun _ _ _ _ x y=>text_inorder x y _
theorem sort_places (w:World) (g cap:Nat) (l:List Place) (base:Nat) (hrow:World.ownsRow w base 129 2 (.slice (some ⟨g,0,none⟩) l.length cap) l.length (l.flatMap pcells)) (hl:l.length ≤ 1000000000) (hnd:l.Nodup) :
  Calls Tryz.prog 200 #[.slice (some ⟨g,0,none⟩) l.length cap,.func (.func 165) #[] #[]] w fun e w'=>e=.returned (.tuple #[]) ∧
   ∃ l':List Place,l'.Perm l ∧ l'.Pairwise placeLt ∧ World.ownsRow w' base 129 2 (.slice (some ⟨g,0,none⟩) l.length cap) l.length (l'.flatMap pcells) ∧ w.grownBy w' (some g):=by
 have hH:HoldsK pcells 2 w g 0 l.toArray:=by
  unfold HoldsK
  rw [flat_places]
  exact holds_row (by simpa using hrow)
 have hgl:g < w.heap.size:=own_lt hrow
 have hcon:=AnyQ.slices_SortFunc Tryz.sortPlaces 2 Tryz.isAgg129 Tryz.sizeOf129 pcells (fun _=>rfl) (fun x v hv=>by simp [pcells] at hv; rcases hv with rfl | rfl <;> rfl) cmpPlace swoPlace 165 #[] g 0 cap l.toArray w enters_text_inorder (cmpLays_places g 0 _ w) hH hgl (by simp; omega)
 change Calls Tryz.prog 200 _ _ _ at hcon
 rw [List.size_toArray] at hcon
 refine hcon.mono ?_
 rintro e w' ⟨rfl,d',m,os,hp,hs,rfl⟩
 obtain ⟨p1,-,p3⟩:=hp
 have hsz:d'.size=l.length:=by simpa using p1
 have hperm:d'.toList.Perm l:=by
  have e1:d'.extract 0 l.length=d':=by rw [← hsz]; simp
  have e2:l.toArray.extract 0 l.length=l.toArray:=by
   have:l.length=l.toArray.size:=by simp
   rw [this]; simp
  rw [e1,e2] at p3
  simpa using p3
 have hnd':d'.toList.Nodup:=hperm.nodup_iff.2 hnd
 refine ⟨rfl,d'.toList,hperm,?_,?_,?_⟩
 ·rw [List.pairwise_iff_getElem]
  intro i j hi hj hij
  have hi':i < d'.size:=by simpa using hi
  have hj':j < d'.size:=by simpa using hj
  have a:=hs i j (Nat.zero_le _) hij (by omega)
  rw [cmpPlace_lt,decide_eq_false_iff_not,getElem!_pos d' j hj',getElem!_pos d' i hi'] at a
  have hne:d'[i] ≠ d'[j]:=fun e=>by
   have:i=j:=(List.getElem_inj (xs:=d'.toList) (h₀:=hi) (h₁:=hj) hnd').1 (by rw [Array.getElem_toList,Array.getElem_toList]; exact e)
   omega
  show placeLt d'.toList[i] d'.toList[j]
  rw [Array.getElem_toList,Array.getElem_toList]
  rcases placeLt_total d'[i] d'[j] with c | c | c
  ·exact absurd c hne
  ·exact c
  ·exact absurd c a
 ·have hfl:=flat_places d'.toList
  rw [Array.toArray_toList] at hfl
  unfold sortWorldK putRowK
  rw [hfl]
  have:=owns_put (n:=m) (os:=os) (F:=(d'.toList.flatMap pcells).toArray) hrow (by rw [List.size_toArray,flat_len pcells 2 (fun _=>rfl)]; simp [hsz])
  simpa using this
 ·unfold sortWorldK putRowK
  exact grown_put _
set_option maxHeartbeats 400000 in
theorem keys_any (b:Nat) (w:World):Calls Tryz.prog 164 #[.map (some b)] w fun e w'=>e=.returned (.func (.func 201) #[] #[bptr w.heap.size]) ∧ w'=w.alloc (.cells #[.map (some b)] 120):=by
 go_enter Tryz.func164,Tryz.ntmps164
 go_wp2_with fail
 go_ret
 exact ⟨rfl,rfl⟩
theorem enters_keys (args:Array Value) (w:World):(callFunc 201 args).run Tryz.prog w=.ok (.enter 201 args) w:=enters_of Tryz.func201 (by kernel_rfl) rfl args w
def KeysOf (m:Place → Option Wr) (ks:List Place):Prop:=ks.Nodup ∧ ∀ p,p ∈ ks ↔ (m p).isSome
set_option maxHeartbeats 1000000 in
theorem collect_any (Bm b nn:Nat) (m:Place → Option Wr) (w:World) (hm0:w.cell? ⟨Bm,0,none⟩=some (.map (some b))) (hown0:MapIn w 129 b nn Place.val Wr.val m) (hOk:∀ p,(m p).isSome → p.Ok) (hnn:nn ≤ 1000000) :
  Calls Tryz.prog 199 #[.func (.func 201) #[] #[bptr Bm]] w fun e w'=>∃ v ks,e=.returned v ∧ KeysOf m ks ∧ w'.ownsRow w.heap.size 129 2 v ks.length (ks.flatMap pcells) ∧ Below w.heap.size w w':=by
 have HC:=hide (callsIn_wide.1 (append_seq 201 #[bptr Bm] _ nn hnn enters_keys w (keys_stops 5 Bm b nn m w hm0 hown0 hOk)))
 clear hm0 hown0 hOk hnn
 go_enter Tryz.func199,Tryz.ntmps199
 go_wp2_with fail
 refine HC.out.mono ?_
 rintro e w2 ⟨v,ks,rfl,hS,hrow,hB⟩
 have H:=hide (⟨hS,hrow,hB⟩:_ ∧ _ ∧ _)
 clear hS hrow hB HC
 go_wp2_with fail
 go_ret
 exact ⟨v,ks,rfl,H.out.1,H.out.2.1,H.out.2.2⟩
set_option maxHeartbeats 1000000 in
theorem sorted_func (Bm b nn:Nat) (m:Place → Option Wr) (w:World) (hm0:w.cell? ⟨Bm,0,none⟩=some (.map (some b))) (hown0:MapIn w 129 b nn Place.val Wr.val m) (hOk:∀ p,(m p).isSome → p.Ok) (hnn:nn ≤ 1000000) (hks:∀ ks,KeysOf m ks → ks.length ≤ 1000000) :
  Calls Tryz.prog 163 #[.func (.func 201) #[] #[bptr Bm],.func (.func 165) #[] #[]] w fun e w'=>∃ v ks,e=.returned v ∧ KeysOf m ks ∧ ks.Pairwise placeLt ∧ w'.ownsRow w.heap.size 129 2 v ks.length (ks.flatMap pcells) ∧ Below w.heap.size w w':=by
 have HC:=hide (collect_any Bm b nn m w hm0 hown0 hOk hnn)
 clear hm0 hown0 hOk hnn
 go_enter Tryz.func163,Tryz.ntmps163
 go_wp2_with fail
 refine HC.out.mono ?_
 clear HC
 rintro e w2 ⟨v,ks,rfl,hS,hrow,hB⟩
 have hl:=hks ks hS
 rcases hrow.2 with ⟨rfl,h0⟩ | ⟨g,cap,cur,rfl,hb,-⟩
 ·have hs:=AnyF.slices_SortFunc_none (P:=Tryz.prog) (ρ:=Tryz.sortPlaces_ren) { Tryz.sortPlaces with } none 0 (.func (.func 165) #[] #[]) w2
  change Calls Tryz.prog 200 _ _ _ at hs
  have HS:=hide hs
  have H:=hide (⟨hS,hrow,hB,List.eq_nil_of_length_eq_zero h0⟩:_ ∧ _ ∧ _ ∧ _)
  clear hS hrow hB hs h0 hl hks
  go_wp2_with fail
  refine HS.out.mono ?_
  rintro e w3 ⟨rfl,rfl⟩
  go_wp2_with fail
  go_ret
  exact ⟨_,ks,rfl,H.out.1,by rw [H.out.2.2.2]; exact List.Pairwise.nil,H.out.2.1,H.out.2.2.1⟩
 ·have HS:=hide (sort_places w2 g cap ks w.heap.size hrow (by omega) hS.1)
  have H:=hide (⟨hS,hb,hB⟩:_ ∧ _ ∧ _)
  clear hS hrow hB hl hks
  obtain ⟨n,hn⟩:∃ n,ks.length=n:=⟨_,rfl⟩
  rw [hn] at HS ⊢
  have HN:=hide hn
  clear hn
  go_wp2_with fail
  refine HS.out.mono ?_
  rintro e w3 ⟨rfl,ks',hp,hpw,hrow',hg⟩
  have H2:=hide (⟨hp,hpw,hrow',hg⟩:_ ∧ _ ∧ _ ∧ _)
  clear hp hpw hrow' hg HS
  go_wp2_with fail
  go_ret
  obtain ⟨hp,hpw,hrow',hg⟩:=H2.out
  obtain ⟨hS,hb,hB⟩:=H.out
  exact ⟨_,ks',rfl,⟨hp.nodup_iff.2 hS.1,fun p=>(hp.mem_iff).trans (hS.2 p)⟩,hpw,by rw [hp.length_eq,HN.out]; exact hrow',hB.grown hg hB.size (fun k e=>by cases e; exact hb)⟩
end Go.Proofs.YtiplgdkpnhamaaaGreatDoor
namespace Go.Proofs.YtiplgdkpnhamaaaGreatDoor
open Go.RowKit Go.Sort
open Go.Maps (Keyed)
theorem MapIn.len_keys {α β:Type} {w:World} {k t e:TypeId} {b n:Nat} {kv:α → Value} {ev:β → Value} {m:α → Option β} (h:MapIn w k b n kv ev m) (K:Keyed Tryz.prog k) (hinj:∀ a a',kv a=kv a' → a=a') (hlit:∀ a,(m a).isSome → ∃ kl,keyOf Tryz.prog k (kv a)=some kl) (ht:Tryz.prog.underlying t=some (.map k e)) (ty:TypeId) :
  ∃ c:Nat,c ≤ n ∧ (∀ ks:List α,ks.Nodup → (∀ a,a ∈ ks ↔ (m a).isSome) → ks.length=c) ∧ ∀ W:World,W.heap[b]? = w.heap[b]? → (Builtin.len_ #[t] ty #[.map (some b)]).run Tryz.prog W=.ok (.int .i64 c) W:=by
 obtain ⟨D,hD,hat,hall⟩:=h.ex
 have hsz:∀ ks:List α,ks.Nodup → (∀ a,a ∈ ks ↔ (m a).isSome) → ks.length=Maps.size D:=fun ks hnd hks=>by
  obtain ⟨es,rfl,hap,hkl⟩:=hD.entries K
  rw [Maps.size_eq]
  have hf:∀ a,a ∈ ks → keyOf Tryz.prog k (kv a)=some ((keyOf Tryz.prog k (kv a)).getD (.bool false)):=fun a ha=>by
   obtain ⟨kl,hk⟩:=hlit a ((hks a).1 ha)
   rw [hk]; rfl
  have h1:(es.map Prod.fst).Nodup:=by
   rw [List.Nodup,List.pairwise_map]; exact hap
  have h2:(ks.map fun a=>(keyOf Tryz.prog k (kv a)).getD (.bool false)).Nodup:=by
   rw [List.Nodup,List.pairwise_map]
   refine List.Pairwise.imp_of_mem ?_ hnd
   intro a a' ha ha' hne e
   have e1:=hf a ha
   have e2:=hf a' ha'
   rw [← e] at e2
   exact hne (hinj _ _ (K.inj e1 e2))
  have h3:=(List.perm_ext_iff_of_nodup h1 h2).2 fun kl=>by
   rw [List.mem_map,List.mem_map]
   constructor
   ·rintro ⟨p,hp,rfl⟩
    have hh:Maps.has (.map es) p.1=true:=by
     rw [Maps.has_eq,List.any_eq_true]; exact ⟨p,hp,WideAt.sameKey_self (hkl p hp)⟩
    obtain ⟨a,x,ha,hx⟩:=hall _ hh
    exact ⟨a,(hks a).2 (by rw [hx]; rfl),by rw [ha]; rfl⟩
   ·rintro ⟨a,ha,rfl⟩
    have hh:=(hat a _ (hf a ha)).1
    rw [(hks a).1 ha,Maps.has_eq,List.any_eq_true] at hh
    obtain ⟨p,hp,hs⟩:=hh
    exact ⟨p,hp,WideAt.sameKey_eq hs⟩
  have:=h3.length_eq
  simpa using this.symm
 refine ⟨Maps.size D,hD.size_le,hsz,fun W hW=>?_⟩
 obtain ⟨es,clock,hb,F,hs,hDe⟩:=hD
 exact World.ownsMap.len (w:=W) (n:=n) (R:=rawElem) (D:=D) ⟨es,clock,hW.trans hb,F,hs,hDe⟩ ht ty
theorem places_uniq:∀ {l l':List Place},l.Pairwise placeLt → l'.Pairwise placeLt → (∀ p,p ∈ l ↔ p ∈ l') → l=l'
 | [],[],_,_,_=>rfl
 | [],b :: l',_,_,h=>by have:=(h b).2 (by simp); simp at this
 | a :: l,[],_,_,h=>by have:=(h a).1 (by simp); simp at this
 | a :: l,b :: l',h1,h2,h=>by
  rw [List.pairwise_cons] at h1 h2
  have hab:a=b:=by
   have x:=(h a).1 (by simp)
   have y:=(h b).2 (by simp)
   rw [List.mem_cons] at x y
   rcases x with x | x
   ·exact x
   ·rcases y with y | y
    ·exact y.symm
    ·exact absurd (placeLt_trans (h1.1 b y) (h2.1 a x)) (placeLt_irr a)
  subst hab
  rw [places_uniq h1.2 h2.2 fun p=>?_]
  have hp:=h p
  rw [List.mem_cons,List.mem_cons] at hp
  constructor
  ·intro x
   rcases hp.1 (Or.inr x) with c | c
   ·subst c; exact absurd (h1.1 p x) (placeLt_irr p)
   ·exact c
  ·intro x
   rcases hp.2 (Or.inr x) with c | c
   ·subst c; exact absurd (h2.1 p x) (placeLt_irr p)
   ·exact c
open Classical in
noncomputable def keysOf (m:Place → Option Wr):List Place:=if h:∃ ks,KeysOf m ks ∧ ks.Pairwise placeLt then Classical.choose h else []
theorem keysOf_eq {m:Place → Option Wr} {ks:List Place} (h:KeysOf m ks) (hp:ks.Pairwise placeLt):keysOf m=ks:=by
 have hx:∃ ks,KeysOf m ks ∧ ks.Pairwise placeLt:=⟨ks,h,hp⟩
 unfold keysOf
 rw [dif_pos hx]
 obtain ⟨h1,h2⟩:=Classical.choose_spec hx
 exact places_uniq h2 hp fun p=>(h1.2 p).trans (h.2 p).symm
def wrsT (m:Place → Option Wr) (ks:List Place):List UInt8:=ks.flatMap fun p=>wrT p ((m p).getD noWr)
noncomputable def txT (n:Nat) (saw:Vec) (m:Place → Option Wr):List UInt8:=vecT (saw.list.take n) ++ (numT (keysOf m).length ++ wrsT m (keysOf m))
theorem wrs_step (m:Place → Option Wr) {ks:List Place} {k:Nat} (hk:k < ks.length):wrsT m (ks.take (k + 1))=wrsT m (ks.take k) ++ wrT ks[k] ((m ks[k]).getD noWr):=by
 unfold wrsT
 rw [List.take_succ_eq_append_getElem hk,List.flatMap_append,List.flatMap_cons,List.flatMap_nil,List.append_nil]
structure WrFit (p:Place) (x:Wr):Prop where
 kd:x.kind=0 ∨ x.kind=1 ∨ x.kind=2 ∨ x.kind=3
 key:p.key.size ≤ 8
 el:p.el.size ≤ 8
 val:x.value.size ≤ 8
 lo:-9223372036854775808 ≤ x.amount
 hi:x.amount ≤ 9223372036854775807
theorem wr_len {p:Place} {x:Wr} (h:WrFit p x):(wrT p x).length ≤ 70:=by
 have hb:∀ {s:ByteArray},s.size ≤ 8 → (bytesT s).length ≤ 30:=fun {s} h=>by
  have h1:=num_len (k:=s.size) (by omega) (by omega)
  have h2:s.data.toList.length=s.size:=by simp
  simp only [bytesT,List.length_append]; omega
 have h1:=hb h.key
 have h2:=hb h.el
 have h3:=hb h.val
 have h4:=num_len h.lo h.hi
 unfold wrT
 split
 ·simp only [List.length_append]; omega
 ·split
  ·simp only [List.length_append]; omega
  ·split <;> (simp only [List.length_append,List.length_cons,List.length_nil]; omega)
theorem wrs_len {m:Place → Option Wr}:∀ {ks:List Place},(∀ p,p ∈ ks → ∃ x,m p=some x ∧ WrFit p x) → (wrsT m ks).length ≤ 70 * ks.length
 | [],_=>by simp [wrsT]
 | a :: l,h=>by
  have h1:=wrs_len (m:=m) (ks:=l) fun p hp=>h p (by simp [hp])
  obtain ⟨x,hx,ho⟩:=h a (by simp)
  have h2:=wr_len ho
  simp only [wrsT,List.flatMap_cons,List.length_append,List.length_cons,hx,Option.getD_some] at h1 ⊢
  omega
theorem WrFit.ok {p:Place} {x:Wr} (h:WrFit p x):p.Ok:=⟨by have:=h.key; unfold maxLen; omega,by have:=h.el; unfold maxLen; omega⟩
end Go.Proofs.YtiplgdkpnhamaaaGreatDoor
namespace Go.Proofs.YtiplgdkpnhamaaaGreatDoor
open Go.RowKit Go.Sort
theorem Keeps.map {wb:Nat} {w w':World} (h:Keeps wb w w') {α β:Type} {k:TypeId} {b n:Nat} {kv:α → Value} {ev:β → Value} {m:α → Option β} (hm:MapIn w k b n kv ev m) (hne:b ≠ wb):MapIn w' k b n kv ev m:=by
 obtain ⟨D,⟨es,clock,h1,h2⟩,-⟩:=hm.ex
 exact hm.move ((h b _ h1 (by simpa using hne) (fun c fz e=>by cases e)).trans h1.symm)
theorem Keeps.row {wb B:Nat} {w w':World} (h:Keeps wb w w') {e:TypeId} {size:Nat} {v:Value} {n:Nat} {xs:List Value} (hr:w.ownsRow B e size v n xs) (he:e ≠ 5) (hne:e ≠ 193) (hw:∃ cs,Blk w wb cs 193):w'.ownsRow B e size v n xs:=by
 rcases hr.2 with ⟨h1,-⟩ | ⟨g,cap,cur,rfl,-,hg,-⟩
 ·exact own_move hr fun g hg=>by rw [h1] at hg; simp [Value.ownBlock] at hg
 ·refine own_move hr fun g' hg'=>?_
  have hgg:g=g':=by simpa [Value.ownBlock] using hg'
  subst hgg
  refine (h g _ hg ?_ (fun c fz e=>by injection e with _ e; exact he e)).trans hg.symm
  intro c
  have c:g=wb:=by simpa using c
  subst c
  obtain ⟨cs,hcs⟩:=hw
  rw [Blk,hg] at hcs
  injection hcs with hcs
  injection hcs with _ hcs
  exact hne hcs
theorem WrIn.blk {B:Nat} {w:World} {wb n:Nat} {xs:List UInt8} (h:WrIn B w wb n xs):∃ cs,Blk w wb cs 193:=by
 obtain ⟨sv,h⟩:=h; exact ⟨_,h.blk⟩
set_option maxRecDepth 100000 in
set_option maxHeartbeats 8000000 in
theorem wr_transaction (B:Nat) (w:World) (wb n:Nat) (xs:List UInt8) (rep seq:Int) (saw:Vec) (m:Place → Option Wr) (b nn:Nat) (h:WrIn B w wb n xs) (hn:n ≤ 5) (hl:xs.length ≤ 70000000000) (hv:∀ k,k ∈ saw.list → -9223372036854775808 ≤ k ∧ k ≤ 9223372036854775807) (hm:MapIn w 129 b nn Place.val Wr.val m) (hb:b ≠ wb) (hf:∀ p x,m p=some x → WrFit p x) (hnn:nn ≤ 1000) (htab:PowTab B w) :
  Calls Tryz.prog 120 #[bptr wb,txVal rep seq saw (.map (some b))] w fun e w'=>e=.returned (.tuple #[]) ∧ WrIn B w' wb n (xs ++ txT n saw m) ∧ Below B w w' ∧ Keeps wb w w':=by
 have hwb:=h.hB
 have hlit:∀ a,(m a).isSome → a.Ok:=fun a ha=>by
  obtain ⟨x,hx⟩:=Option.isSome_iff_exists.1 ha
  exact (hf a x hx).ok
 generalize hW1:w.alloc (.cells #[.int .i64 rep,.int .i64 seq,.int .i64 saw.a,.int .i64 saw.b,.int .i64 saw.c,.int .i64 saw.d,.int .i64 saw.e,.map (some b)] 139)=W1
 have b1:Blk W1 w.heap.size [.int .i64 rep,.int .i64 seq,.int .i64 saw.a,.int .i64 saw.b,.int .i64 saw.c,.int .i64 saw.d,.int .i64 saw.e,.map (some b)] 139:=by rw [← hW1]; exact heap_alloc_new w _
 have H1:Hid (WrAt B w wb n xs W1):=by rw [← hW1]; exact WrAt.start h _
 have hm1:MapIn W1 129 b nn Place.val Wr.val m:=by rw [← hW1]; exact hm.move (Below.heap_alloc w _ _ hm.lt)
 have hne:w.heap.size ≠ wb:=by omega
 have d1:W1.cell? ⟨w.heap.size,2,none⟩=some (.int .i64 saw.a):=b1.cell 2
 have d2:W1.cell? ⟨w.heap.size,3,none⟩=some (.int .i64 saw.b):=b1.cell 3
 have d3:W1.cell? ⟨w.heap.size,4,none⟩=some (.int .i64 saw.c):=b1.cell 4
 have d4:W1.cell? ⟨w.heap.size,5,none⟩=some (.int .i64 saw.d):=b1.cell 5
 have d5:W1.cell? ⟨w.heap.size,6,none⟩=some (.int .i64 saw.e):=b1.cell 6
 have HB1:=hide (⟨b1,hm1⟩:_ ∧ _)
 have HW1:=hide hW1
 have HV:=hide (wr_vector B W1 wb n xs saw H1.out.wr hn (by omega) hv (htab.on H1.out.bel))
 have HF:=hide hf
 have HO:=hide hlit
 have lv:=vec_take_len hv (k:=n) hn
 have LV:=hide lv
 clear h b1 hW1 hm1 hm hf hlit hv lv
 go_enter Tryz.func120,Tryz.ntmps120
 go_upto_region 1 with (fail)
 rw [HW1.out]
 clear HW1
 go_wp2_with (go_at_call 119; refine HV.out.mono ?_; rintro e w2 ⟨rfl,hp⟩; refine Hid.out ?_)
 refine Lib.hid ?_
 have H2:=hide (H1.out.step hp)
 have hb2:=hp.2.2.blk HB1.out.1 hne (by decide)
 have hm2:=hp.2.2.map HB1.out.2 hb
 have l2:(xs ++ vecT (saw.list.take n)).length ≤ 75000000000:=by have:=LV.out; rw [List.length_append]; omega
 obtain ⟨c,hcn,hck,hcl⟩:=hm2.len_keys place_keyed place_inj (fun a ha=>(HO.out a ha).lit) Tryz.underlying120 3
 have hlen:=hcl w2 rfl
 have t2:w2.cell? ⟨w.heap.size,7,none⟩=some (.map (some b)):=hb2.cell 7
 have HN:=hide (wr_number B w2 wb n _ c H2.out.wr (by omega) (by omega) (by omega) (htab.on H2.out.bel))
 have HB2:=hide (⟨hb2,hm2⟩:_ ∧ _)
 have HC:=hide hck
 clear hp HV H1 HB1 d1 d2 d3 d4 d5 hb2 hm2 hcl hck
 go_wp2_with (go_at_call 157; refine HN.out.mono ?_; rintro e w3 ⟨rfl,hp⟩; refine Hid.out ?_)
 refine Lib.hid ?_
 have H3:=hide (H2.out.step hp)
 have hb3:=hp.2.2.blk HB2.out.1 hne (by decide)
 have hm3:=hp.2.2.map HB2.out.2 hb
 have lc:=num_len (k:=(c:Int)) (by omega) (by omega)
 have l3:(xs ++ vecT (saw.list.take n) ++ numT c).length ≤ 76000000000:=by rw [List.length_append]; omega
 have t3:w3.cell? ⟨w.heap.size,7,none⟩=some (.map (some b)):=hb3.cell 7
 have hz3:w.heap.size < w3.heap.size:=hb3.lt
 have HB3:=hide (⟨hb3,hm3⟩:_ ∧ _)
 have HK:=hide (keys_any b w3)
 clear hp HN H2 HB2 t2 hlen l2 lc
 go_wp2_with (go_at_call 164; refine HK.out.mono ?_; rintro e w4 ⟨rfl,rfl⟩; refine Hid.out ?_)
 refine Lib.hid ?_
 generalize hW4:w3.alloc (.cells #[.map (some b)] 120)=W4
 have hB4:Below w3.heap.size w3 W4:=by rw [← hW4]; exact (Below.refl _ _).alloc (Nat.le_refl _) _
 have c4:W4.cell? ⟨w3.heap.size,0,none⟩=some (.map (some b)):=by rw [← hW4]; exact (show Blk _ w3.heap.size [.map (some b)] 120 from heap_alloc_new w3 _).cell 0
 have hm4:MapIn W4 129 b nn Place.val Wr.val m:=HB3.out.2.move (hB4.block b HB3.out.2.lt)
 have H4:=hide (H3.out.later hB4)
 have HB4:=hide (⟨HB3.out.1.below hB4,hm4⟩:Blk W4 w.heap.size _ _ ∧ MapIn W4 129 b nn Place.val Wr.val m)
 have HS:=hide (sorted_func w3.heap.size b nn m W4 c4 hm4 HO.out (by omega) (fun ks hks=>by have:=HC.out ks hks.1 hks.2; omega))
 clear hW4 hB4 c4 hm4 HK H3 HB3 t3
 go_wp2_with (go_at_call 163; refine HS.out.mono ?_; rintro e w5 ⟨v,ks,rfl,hK,hpw,hrow,hB5⟩; refine Hid.out ?_)
 refine Lib.hid ?_
 have hkl:ks.length=c:=HC.out ks hK.1 hK.2
 have hko:keysOf m=ks:=keysOf_eq hK hpw
 have H5:=hide (H4.out.later hB5)
 have HB5:=hide (⟨HB4.out.1.below hB5,HB4.out.2.move (hB5.block b HB4.out.2.lt)⟩:Blk w5 w.heap.size _ _ ∧ MapIn w5 129 b nn Place.val Wr.val m)
 have HR:=hide hrow
 have HE:Hid (txT n saw m=vecT (saw.list.take n) ++ (numT c ++ wrsT m ks)):=by show txT n saw m=_; rw [txT,hko,hkl]
 have HM:Hid (∀ j (hj:j < ks.length),∃ x,m ks[j]=some x ∧ WrFit ks[j] x):=fun j hj=>by
  obtain ⟨x,hx⟩:=Option.isSome_iff_exists.1 ((hK.2 ks[j]).1 (List.getElem_mem hj))
  exact ⟨x,hx,HF.out _ x hx⟩
 have hz5:w.heap.size < w5.heap.size:=HB5.out.1.lt
 subst hkl
 obtain ⟨ao,cap,rfl,hao⟩:=Row.shape (ownsRow_low hrow (Nat.zero_le _))
 clear hrow hB5 hpw hK hko HS H4 HB4 HC HF HO
 go_upto_region 4 with (fail)
 have hR5:=HR.out
 go_loopw [5,20] (fun _ i wr=>∃ k:Nat,k ≤ ks.length ∧ i=.int .i64 k ∧ Hid (WrAt B w wb n (xs ++ vecT (saw.list.take n) ++ numT ks.length ++ wrsT m (ks.take k)) wr ∧ Blk wr w.heap.size [.int .i64 rep,.int .i64 seq,.int .i64 saw.a,.int .i64 saw.b,.int .i64 saw.c,.int .i64 saw.d,.int .i64 saw.e,.map (some b)] 139 ∧ MapIn wr 129 b nn Place.val Wr.val m ∧ wr.ownsRow W4.heap.size 129 2 (.slice ao ks.length cap) ks.length (ks.flatMap pcells))) (fun _ i _=>ks.length - (intOf i).toNat)
 case atStart=>exact ⟨0,Nat.zero_le _,rfl,by simpa [wrsT] using H5.out,HB5.out.1,HB5.out.2,HR.out⟩
 case round=>
  clear HR HB5 H5 hR5
  obtain ⟨k,hk,rfl,HS⟩:=hrel
  by_cases hlt:k < ks.length
  ·obtain ⟨x,hx,hfit⟩:=HM.out k hlt
   obtain ⟨g,hg,-⟩:=hao.2.2 0 (by omega)
   subst hg
   have hr:=HS.out.2.2.2
   have q0:wr.cell? ⟨g,k * 2,none⟩=some (.string ks[k].key):=by
    rw [World.ownsRow.cellAt hr (k * 2) (by omega),show k * 2=k * 2 + 0 by omega,flat_get pcells 2 (fun _=>rfl) ks k 0 hlt (by omega)]; rfl
   have q1:wr.cell? ⟨g,k * 2 + 1,none⟩=some (.string ks[k].el):=by
    rw [World.ownsRow.cellAt hr (k * 2 + 1) (by omega),flat_get pcells 2 (fun _=>rfl) ks k 1 hlt (by omega)]; rfl
   generalize hp:ks[k]=p at *
   obtain ⟨pk,pe⟩:=p
   simp only at q0 q1
   clear hr
   have HX:=hide (⟨hx,hfit,hp⟩:_ ∧ _ ∧ _)
   clear hx hfit hp
   go_upto_region 6 with (fail)
   generalize hW6:wr.alloc (.cells #[.string pk,.string pe] 129)=W6
   have hB6:Below wr.heap.size wr W6:=by rw [← hW6]; exact (Below.refl _ _).alloc (Nat.le_refl _) _
   have b6:Blk W6 wr.heap.size [.string pk,.string pe] 129:=by rw [← hW6]; exact heap_alloc_new wr _
   have hx:=HX.out.1
   have H6:=hide (HS.out.1.later hB6)
   have HB6:=hide (⟨HS.out.2.1.below hB6,HS.out.2.2.1.move (hB6.block b HS.out.2.2.1.lt),own_move HS.out.2.2.2 fun g' hg'=>hB6.block g' (HS.out.2.2.2.lt g' hg').2⟩:Blk W6 w.heap.size _ _ ∧ MapIn W6 129 b nn Place.val Wr.val m ∧ W6.ownsRow W4.heap.size 129 2 _ ks.length (ks.flatMap pcells))
   have s0:=Bel.cell (show W6.cell? ⟨wr.heap.size,0,none⟩=some (.string pk) from b6.cell 0)
   have s1:=Bel.cell (show W6.cell? ⟨wr.heap.size,1,none⟩=some (.string pe) from b6.cell 1)
   have s2:=Bel.cell (show W6.cell? ⟨w.heap.size,7,none⟩=some (.map (some b)) from HB6.out.1.cell 7)
   obtain ⟨kl,hkl⟩:=HX.out.2.1.ok.lit
   have s3:∀ f:Fam (Bel W6),(Instr.lookup 120 (.map (some b)) (.agg #[.string pk,.string pe]) false).run Tryz.prog f.w=.ok x.val f.w:=fun f=>by
    have a:=(HB6.out.2.1.move (f.ok.block b HB6.out.2.1.lt)).lookup place_keyed Tryz.underlying120 (zeroWr f.w) hkl
    rw [hx] at a
    exact a
   clear hx hkl hW6 b6 q0 q1
   have hz6:w.heap.size < W6.heap.size:=HB6.out.1.lt
   refine region_fam_tail (Bel W6) 6 (by kernel_rfl) (by kernel_rfl) (Below.refl _ _).drew ?_
   simp only [List.take_succ_cons,List.take_zero,List.drop_succ_cons,List.drop_zero]
   repeat (go_big_quiet_step (fail))
   refine wpQuiet_nil ?_
   intro _ hw'
   obtain ⟨fq,rfl⟩:=hw'
   obtain ⟨W7,hB7⟩:=fq
   try dsimp only
   clear s0 s1 s2 s3
   have H7:=hide (H6.out.later hB7)
   have HB7:=hide (⟨HB6.out.1.below hB7,HB6.out.2.1.move (hB7.block b HB6.out.2.1.lt),own_move HB6.out.2.2 fun g' hg'=>hB7.block g' (HB6.out.2.2.lt g' hg').2⟩:Blk W7 w.heap.size _ _ ∧ MapIn W7 129 b nn Place.val Wr.val m ∧ W7.ownsRow W4.heap.size 129 2 _ ks.length (ks.flatMap pcells))
   have ll:(xs ++ vecT (saw.list.take n) ++ numT ks.length ++ wrsT m (ks.take k)).length ≤ 80000000000:=by
    have:=wrs_len (m:=m) (ks:=ks.take k) fun p hp=>by
     obtain ⟨j,hj,rfl⟩:=List.getElem_of_mem (List.mem_of_mem_take hp)
     exact HM.out j hj
    rw [List.length_append]
    have:(ks.take k).length ≤ 1000:=by simp; omega
    omega
   have HWr:=hide (wr_write B W7 wb n _ ⟨pk,pe⟩ x H7.out.wr ll HX.out.2.1.kd (Nat.le_trans HX.out.2.1.key (by omega)) (Nat.le_trans HX.out.2.1.el (by omega)) (Nat.le_trans HX.out.2.1.val (by omega)) HX.out.2.1.lo HX.out.2.1.hi (htab.on H7.out.bel))
   simp only [Place.val] at HWr
   clear H6 HB6 hB6 hB7
   go_wp2_with (go_at_call 166; refine HWr.out.mono ?_; rintro e w8 ⟨rfl,hp⟩; refine Hid.out ?_)
   refine Lib.hid ?_
   have H8:Hid (WrAt B w wb n (xs ++ vecT (saw.list.take n) ++ numT ks.length ++ wrsT m (ks.take (k + 1))) w8):=by
    have a:=H7.out.step hp
    have e:=wrs_step m hlt
    rw [HX.out.2.2,HX.out.1] at e
    show WrAt B w wb n (xs ++ vecT (saw.list.take n) ++ numT ks.length ++ wrsT m (ks.take (k + 1))) w8
    rw [e,← List.append_assoc]; exact a
   have HB8:=hide (⟨hp.2.2.blk HB7.out.1 hne (by decide),hp.2.2.map HB7.out.2.1 hb,hp.2.2.row HB7.out.2.2 (by decide) (by decide) H7.out.wr.blk⟩:_ ∧ _ ∧ _)
   clear hp HWr H7 HB7 HS
   go_wp2_with fail
   exact ⟨⟨k + 1,by omega,by go_num,H8.out,HB8.out.1,HB8.out.2.1,HB8.out.2.2⟩,by simp [intOf]; omega⟩
  ·have hkn:k=ks.length:=by omega
   subst hkn
   go_wp2_with fail
   go_end0
   exact ⟨rfl,by rw [HE.out,← List.append_assoc,← List.append_assoc]; simpa using HS.out.1.wr,HS.out.1.bel,HS.out.1.kp⟩
end Go.Proofs.YtiplgdkpnhamaaaGreatDoor
namespace Go.Proofs.YtiplgdkpnhamaaaGreatDoor
open Go.RowKit Go.Sort
structure Tr where
 rep:Nat
 seq:Int
 saw:Vec
 wr:Place → Option Wr
def trCells (x:Tr × Nat):List Value:=[.int .i64 x.1.rep,.int .i64 x.1.seq,.int .i64 x.1.saw.a,.int .i64 x.1.saw.b,.int .i64 x.1.saw.c,.int .i64 x.1.saw.d,.int .i64 x.1.saw.e,.map (some x.2)]
structure Tr.Fit (t:Tr):Prop where
 rep:t.rep < 5
 saw:∀ k,k ∈ t.saw.list → -9223372036854775808 ≤ k ∧ k ≤ 9223372036854775807
 wr:∀ p x,t.wr p=some x → WrFit p x
def TrIn (w:World) (x:Tr × Nat):Prop:=MapIn w 129 x.2 16 Place.val Wr.val x.1.wr
theorem TrIn.later {w w':World} {x:Tr × Nat} (h:TrIn w x) (hb:Below w.heap.size w w'):TrIn w' x:=h.move (hb.block x.2 h.lt)
def noVec:Vec:=⟨0,0,0,0,0⟩
def countsOf:List Tr → Vec
 | []=>noVec
 | t :: l=>(countsOf l).put t.rep ((countsOf l).get t.rep + 1)
theorem vec_put_get (v:Vec) {r:Nat} (hr:r < 5) (s:Int) (k:Nat):(v.put r s).get k=if k=r then s else v.get k:=by
 have h1:r=0 ∨ r=1 ∨ r=2 ∨ r=3 ∨ r=4:=by omega
 by_cases h5:k < 5
 ·have h2:k=0 ∨ k=1 ∨ k=2 ∨ k=3 ∨ k=4:=by omega
  rcases h1 with rfl | rfl | rfl | rfl | rfl <;> rcases h2 with rfl | rfl | rfl | rfl | rfl <;> simp [Vec.put,Vec.get,Vec.list]
 ·have:∀ x:Vec,x.get k=0:=fun x=>by
   unfold Vec.get Vec.list
   rw [Int.toNat_natCast,List.getD_eq_getElem?_getD,List.getElem?_eq_none (by simp; omega)]; rfl
  rw [this,this,if_neg (by omega)]
theorem vec_ext {v v':Vec} (h:∀ k:Nat,k < 5 → v.get k=v'.get k):v=v':=by
 have h0:=h 0 (by omega)
 have h1:=h 1 (by omega)
 have h2:=h 2 (by omega)
 have h3:=h 3 (by omega)
 have h4:=h 4 (by omega)
 cases v; cases v'
 simp only [Vec.get,Vec.list] at h0 h1 h2 h3 h4
 simp at h0 h1 h2 h3 h4
 simp [h0,h1,h2,h3,h4]
theorem counts_get (l:List Tr) (hl:∀ t,t ∈ l → t.rep < 5) (k:Nat):(countsOf l).get k=(l.countP fun t=>t.rep=k:Nat):=by
 induction l with
 | nil=>
  by_cases h5:k < 5
  ·have h2:k=0 ∨ k=1 ∨ k=2 ∨ k=3 ∨ k=4:=by omega
   rcases h2 with rfl | rfl | rfl | rfl | rfl <;> rfl
  ·unfold Vec.get Vec.list
   rw [Int.toNat_natCast,List.getD_eq_getElem?_getD,List.getElem?_eq_none (by simp; omega)]; rfl
 | cons t l ih=>
  have hh:=hl t (by simp)
  have hr:=ih fun x hx=>hl x (by simp [hx])
  rw [countsOf,vec_put_get _ hh,List.countP_cons]
  by_cases c:k=t.rep
  ·subst c; simp [hr]
  ·rw [if_neg c,hr,if_neg (by simp; omega)]; simp
theorem counts_snoc (l:List Tr) (t:Tr) (hl:∀ t,t ∈ l → t.rep < 5) (ht:t.rep < 5):countsOf (l ++ [t])=(countsOf l).put t.rep ((countsOf l).get t.rep + 1):=by
 refine vec_ext fun k hk=>?_
 rw [counts_get _ (fun x hx=>by
  rw [List.mem_append,List.mem_singleton] at hx
  rcases hx with hx | rfl
  ·exact hl x hx
  ·exact ht),vec_put_get _ ht,counts_get l hl,counts_get l hl,List.countP_append]
 by_cases c:k=t.rep
 ·subst c; simp
 ·rw [if_neg c]; simp [show ¬ t.rep=k by omega]
theorem counts_small (l:List Tr) (hl:∀ t,t ∈ l → t.rep < 5) (k:Nat):0 ≤ (countsOf l).get k ∧ (countsOf l).get k ≤ l.length:=by
 rw [counts_get l hl]
 have:=List.countP_le_length (p:=fun t:Tr=>decide (t.rep=k)) (l:=l)
 omega
theorem put_cells (v:Vec) {r:Nat} (hr:r < 5) (s:Int):v.cells.set r (.int .i64 s)=(v.put r s).cells:=by
 have h1:r=0 ∨ r=1 ∨ r=2 ∨ r=3 ∨ r=4:=by omega
 rcases h1 with rfl | rfl | rfl | rfl | rfl <;> simp [Vec.put,Vec.cells]
theorem vec_mem {v:Vec} {k:Int} (h:k ∈ v.list):∃ r:Nat,r < 5 ∧ v.get r=k:=by
 simp only [Vec.list,List.mem_cons,List.not_mem_nil,or_false] at h
 rcases h with rfl | rfl | rfl | rfl | rfl
 ·exact ⟨0,by omega,rfl⟩
 ·exact ⟨1,by omega,rfl⟩
 ·exact ⟨2,by omega,rfl⟩
 ·exact ⟨3,by omega,rfl⟩
 ·exact ⟨4,by omega,rfl⟩
noncomputable def txsT (n:Nat) (l:List Tr):List UInt8:=l.flatMap fun t=>txT n t.saw t.wr
noncomputable def ansT (n i:Nat) (v:Vec) (l:List Tr):List UInt8:=sealed (headT 97 n i (v.list.take n) ++ (vecT ((countsOf l).list.take n) ++ txsT n l))
theorem tx_len {n:Nat} {t:Tr} (hn:n ≤ 5) (h:t.Fit) {w:World} {b:Nat} (hm:TrIn w (t,b)):(txT n t.saw t.wr).length ≤ 1300:=by
 have hlit:∀ a,(t.wr a).isSome → ∃ kl,keyOf Tryz.prog 129 a.val=some kl:=fun a ha=>by
  obtain ⟨x,hx⟩:=Option.isSome_iff_exists.1 ha
  exact (h.wr a x hx).ok.lit
 obtain ⟨c,hc,hk,-⟩:=MapIn.len_keys hm place_keyed place_inj hlit (t:=120) Tryz.underlying120 0
 have hc:c ≤ 16:=hc
 have hx:(keysOf t.wr).length ≤ 16 ∧ ∀ p,p ∈ keysOf t.wr → (t.wr p).isSome:=by
  unfold keysOf
  split
  ·rename_i hh
   obtain ⟨h1,-⟩:=Classical.choose_spec hh
   exact ⟨by have:=hk _ h1.1 h1.2; omega,fun p hp=>(h1.2 p).1 hp⟩
  ·exact ⟨by simp,fun p hp=>by simp at hp⟩
 have h1:=vec_take_len h.saw (k:=n) hn
 have h2:=num_len (k:=((keysOf t.wr).length:Int)) (by omega) (by omega)
 have h3:=wrs_len (m:=t.wr) (ks:=keysOf t.wr) fun p hp=>by
  obtain ⟨x,e⟩:=Option.isSome_iff_exists.1 (hx.2 p hp)
  exact ⟨x,e,h.wr p x e⟩
 simp only [txT,List.length_append]
 omega
theorem txs_len {n:Nat} (hn:n ≤ 5) {w:World}:∀ {l:List (Tr × Nat)},(∀ x,x ∈ l → x.1.Fit ∧ TrIn w x) → (txsT n (l.map Prod.fst)).length ≤ 1300 * l.length
 | [],_=>by simp [txsT]
 | a :: l,h=>by
  have h1:=txs_len hn (w:=w) (l:=l) fun x hx=>h x (by simp [hx])
  have h2:=tx_len hn (h a (by simp)).1 (h a (by simp)).2
  simp only [txsT,List.map_cons,List.flatMap_cons,List.length_append,List.length_cons] at h1 ⊢
  omega
theorem txs_step (n:Nat) {l:List Tr} {k:Nat} (hk:k < l.length):txsT n (l.take (k + 1))=txsT n (l.take k) ++ txT n l[k].saw l[k].wr:=by
 unfold txsT
 rw [List.take_succ_eq_append_getElem hk,List.flatMap_append,List.flatMap_cons,List.flatMap_nil,List.append_nil]
end Go.Proofs.YtiplgdkpnhamaaaGreatDoor
namespace Go.Proofs.YtiplgdkpnhamaaaGreatDoor
open Go.RowKit Go.Sort
structure AnsW (w:World) (n i:Nat) (v:Vec) (l:List (Tr × Nat)) (lv:Value) (xs:List UInt8) (wr:World):Prop where
 bel:Below w.heap.size w wr
 wrt:WrIn w.heap.size wr (w.heap.size + 1) n xs
 ans:Blk wr w.heap.size [.int .i64 i,.int .i64 v.a,.int .i64 v.b,.int .i64 v.c,.int .i64 v.d,.int .i64 v.e,lv] 154
theorem AnsW.later {w:World} {n i:Nat} {v:Vec} {l:List (Tr × Nat)} {lv:Value} {xs:List UInt8} {wr w':World} (h:AnsW w n i v l lv xs wr) (hb:Below wr.heap.size wr w'):AnsW w n i v l lv xs w':=
 ⟨h.bel.trans (hb.mono h.bel.size),h.wrt.later hb,h.ans.below hb⟩
theorem AnsW.step {w:World} {n i:Nat} {v:Vec} {l:List (Tr × Nat)} {lv:Value} {xs ys:List UInt8} {wr w':World} (h:AnsW w n i v l lv xs wr) (hp:WrIn w.heap.size w' (w.heap.size + 1) n ys ∧ Below w.heap.size wr w' ∧ Keeps (w.heap.size + 1) wr w'):AnsW w n i v l lv ys w':=
 ⟨h.bel.trans hp.2.1,hp.1,hp.2.2.blk h.ans (by omega) (by decide)⟩
theorem tr_cell {w wr:World} {base g cap:Nat} {l:List (Tr × Nat)} (hr:w.ownsRow base 139 8 (.slice (some ⟨g,0,none⟩) l.length cap) l.length (l.flatMap trCells)) (hb:Below w.heap.size w wr) {k:Nat} (hk:k < l.length) {j:Nat} (hj:j < 8):wr.cell? ⟨g,k * 8 + j,none⟩=(trCells l[k])[j]?:=by
 have h1:=World.ownsRow.cellAt hr (k * 8 + j) (by omega)
 rw [flat_get trCells 8 (fun _=>rfl) l k j hk hj] at h1
 rw [← h1]
 exact hb.cell (p:=⟨g,k * 8 + j,none⟩) (hr.lt g rfl).2
set_option maxRecDepth 100000 in
set_option maxHeartbeats 8000000 in
theorem write_answer (w:World) (n i base:Nat) (v:Vec) (l:List (Tr × Nat)) (lv:Value) (hn:n ≤ 5) (hi:i ≤ 5) (hv:∀ k,k ∈ v.list → -9223372036854775808 ≤ k ∧ k ≤ 9223372036854775807) (hrow:w.ownsRow base 139 8 lv l.length (l.flatMap trCells)) (hl:l.length ≤ 50000000) (hf:∀ x,x ∈ l → x.1.Fit ∧ TrIn w x) (ht:Tabs w) :
  Calls Tryz.prog 77 #[.int .i64 n,.agg #[.int .i64 i,.int .i64 v.a,.int .i64 v.b,.int .i64 v.c,.int .i64 v.d,.int .i64 v.e,lv]] w fun e w'=>e=.returned (.string ⟨(ansT n i v (l.map Prod.fst)).toArray⟩) ∧ Below w.heap.size w w':=by
 obtain ⟨ao,cap,rfl,hao⟩:=Row.shape (ownsRow_low hrow (Nat.zero_le _))
 generalize hW1:(w.alloc (.cells #[.int .i64 i,.int .i64 v.a,.int .i64 v.b,.int .i64 v.c,.int .i64 v.d,.int .i64 v.e,.slice ao l.length cap] 154)).alloc (.cells #[.int .i64 n,.slice none 0 0] 193)=W1
 have hB1:Below w.heap.size w W1:=by rw [← hW1]; exact ((Below.refl _ _).alloc (Nat.le_refl _) _).alloc (by simp) _
 have b1:Blk W1 w.heap.size [.int .i64 i,.int .i64 v.a,.int .i64 v.b,.int .i64 v.c,.int .i64 v.d,.int .i64 v.e,.slice ao l.length cap] 154:=by
  rw [← hW1]; exact Blk.alloc (heap_alloc_new w _) _
 have hr1:WrIn w.heap.size W1 (w.heap.size + 1) n []:=by
  refine ⟨.slice none 0 0,?_,Nat.le_succ _,World.ownsRow_nil _ _ _ _⟩
  rw [← hW1,show w.heap.size + 1=(w.alloc (.cells #[.int .i64 i,.int .i64 v.a,.int .i64 v.b,.int .i64 v.c,.int .i64 v.d,.int .i64 v.e,.slice ao l.length cap] 154)).heap.size by simp]
  exact heap_alloc_new _ _
 have hp:=Lib.tabBelow_of_tabIs ht.pow
 have hh:=wr_head w.heap.size W1 (w.heap.size + 1) n i [] 97 v hr1 hn hi (by simp) hv (hp.on hB1)
 rw [show ((97:UInt8).toNat:Int)=97 from rfl,List.nil_append] at hh
 have HH:=hide hh
 have H1:Hid (AnsW w n i v l (.slice ao l.length cap) [] W1):=⟨hB1,hr1,b1⟩
 have HW1:=hide hW1
 have HT:=hide ht
 have HP:=hide hp
 have HR:=hide hrow
 have HF:=hide hf
 have hln:(headT 97 n i (v.list.take n)).length ≤ 1000:=by
  have h1:=vec_take_len hv (k:=n) hn
  have h2:=num_len (k:=n) (by omega) (by omega)
  have h3:=num_len (k:=i) (by omega) (by omega)
  simp only [headT,List.length_cons,List.length_append]; omega
 have HL:=hide hln
 have d0:W1.cell? ⟨w.heap.size,0,none⟩=some (.int .i64 i):=b1.cell 0
 have d1:W1.cell? ⟨w.heap.size,1,none⟩=some (.int .i64 v.a):=b1.cell 1
 have d2:W1.cell? ⟨w.heap.size,2,none⟩=some (.int .i64 v.b):=b1.cell 2
 have d3:W1.cell? ⟨w.heap.size,3,none⟩=some (.int .i64 v.c):=b1.cell 3
 have d4:W1.cell? ⟨w.heap.size,4,none⟩=some (.int .i64 v.d):=b1.cell 4
 have d5:W1.cell? ⟨w.heap.size,5,none⟩=some (.int .i64 v.e):=b1.cell 5
 clear hW1 hB1 hr1 hp ht hh b1 hrow hf hv hln
 go_enter Tryz.func77,Tryz.ntmps77
 go_upto_region 2 with (fail)
 rw [HW1.out]
 clear HW1
 go_wp2_with (go_at_call 113; refine HH.out.mono ?_; rintro e w2 ⟨rfl,hp⟩; refine Hid.out ?_)
 refine Lib.hid ?_
 have H2:=hide (H1.out.step hp)
 have hz2:w.heap.size + 1 < w2.heap.size:=hp.1.hB.2.1
 clear hp HH H1 d0 d1 d2 d3 d4 d5
 generalize hW3:w2.alloc (.cells #[.int .i64 0,.int .i64 0,.int .i64 0,.int .i64 0,.int .i64 0] 104)=W3
 have hB3:Below w2.heap.size w2 W3:=by rw [← hW3]; exact (Below.refl _ _).alloc (Nat.le_refl _) _
 have b3:Blk W3 w2.heap.size (countsOf ((l.take 0).map Prod.fst)).cells 104:=by rw [← hW3]; exact heap_alloc_new w2 _
 have H3:=hide (H2.out.later hB3)
 have HB3:=hide b3
 have HW3:=hide hW3
 have z3:W3.cell? ⟨w.heap.size,6,none⟩=some (.slice ao l.length cap):=H3.out.ans.cell 6
 clear hB3 b3 hW3 H2
 go_upto_region 4 with (fail)
 rw [HW3.out]
 clear HW3
 go_upto_region 5 with (fail)
 clear z3
 go_loopw [8,21] (fun _ ii wr=>∃ k:Nat,k ≤ l.length ∧ ii=.int .i64 k ∧ Hid (AnsW w n i v l (.slice ao l.length cap) (headT 97 n i (v.list.take n)) wr ∧ Blk wr w2.heap.size (countsOf ((l.take k).map Prod.fst)).cells 104)) (fun _ ii _=>l.length - (intOf ii).toNat)
 case atStart=>exact ⟨0,Nat.zero_le _,rfl,H3.out,HB3.out⟩
 case round=>
  clear H3 HB3
  obtain ⟨k,hk,rfl,HS⟩:=hrel
  by_cases hlt:k < l.length
  ·have hx:=HF.out l[k] (List.getElem_mem hlt)
   obtain ⟨g,hg,-⟩:=hao.2.2 0 (by omega)
   subst hg
   have hc:=fun (j:Nat) (hj:j < 8)=>tr_cell HR.out HS.out.1.bel hlt hj
   have hstep:(l.take (k + 1)).map Prod.fst=(l.take k).map Prod.fst ++ [l[k].1]:=by rw [List.take_succ_eq_append_getElem hlt,List.map_append]; rfl
   have hreps:∀ t,t ∈ (l.take k).map Prod.fst → t.rep < 5:=fun t ht=>by
    obtain ⟨x,hx,rfl⟩:=List.mem_map.1 ht
    exact (HF.out x (List.mem_of_mem_take hx)).1.rep
   generalize hp:l[k]=p at *
   obtain ⟨⟨rep,seq,saw,m⟩,mb⟩:=p
   have q0:wr.cell? ⟨g,k * 8,none⟩=some (.int .i64 rep):=hc 0 (by omega)
   have q1:wr.cell? ⟨g,k * 8 + 1,none⟩=some (.int .i64 seq):=hc 1 (by omega)
   have q2:wr.cell? ⟨g,k * 8 + 2,none⟩=some (.int .i64 saw.a):=hc 2 (by omega)
   have q3:wr.cell? ⟨g,k * 8 + 3,none⟩=some (.int .i64 saw.b):=hc 3 (by omega)
   have q4:wr.cell? ⟨g,k * 8 + 4,none⟩=some (.int .i64 saw.c):=hc 4 (by omega)
   have q5:wr.cell? ⟨g,k * 8 + 5,none⟩=some (.int .i64 saw.d):=hc 5 (by omega)
   have q6:wr.cell? ⟨g,k * 8 + 6,none⟩=some (.int .i64 saw.e):=hc 6 (by omega)
   have q7:wr.cell? ⟨g,k * 8 + 7,none⟩=some (.map (some mb)):=hc 7 (by omega)
   have hrep:rep < 5:=hx.1.rep
   have HX:=hide (⟨hx,hp,hstep⟩:_ ∧ _ ∧ _)
   have HC:=hide (counts_small _ hreps rep)
   have HY:=hide hreps
   clear hx hp hstep hc hreps
   go_upto_region 7 with (fail)
   generalize hW6:wr.alloc (.cells #[.int .i64 rep,.int .i64 seq,.int .i64 saw.a,.int .i64 saw.b,.int .i64 saw.c,.int .i64 saw.d,.int .i64 saw.e,.map (some mb)] 139)=W6
   have hB6:Below wr.heap.size wr W6:=by rw [← hW6]; exact (Below.refl _ _).alloc (Nat.le_refl _) _
   have b6:Blk W6 wr.heap.size [.int .i64 rep,.int .i64 seq,.int .i64 saw.a,.int .i64 saw.b,.int .i64 saw.c,.int .i64 saw.d,.int .i64 saw.e,.map (some mb)] 139:=by rw [← hW6]; exact heap_alloc_new wr _
   have H6:=hide (HS.out.1.later hB6)
   have HB6:=hide (HS.out.2.below hB6)
   have s0:W6.cell? ⟨wr.heap.size,0,none⟩=some (.int .i64 rep):=b6.cell 0
   have s1:W6.cell? ⟨w2.heap.size,rep,none⟩=some (.int .i64 ((countsOf ((l.take k).map Prod.fst)).get rep)):=by rw [HB6.out.cell rep]; exact vec_cell _ hrep
   have s2:W6.frozen? ⟨w2.heap.size,rep,none⟩=false:=HB6.out.frozen rep
   have g1:(rep:Int) < 5:=by omega
   obtain ⟨c,hc⟩:∃ c,(countsOf ((l.take k).map Prod.fst)).get rep=c:=⟨_,rfl⟩
   rw [hc] at s1 HC
   have c0:0 ≤ c:=HC.out.1
   have c1:c ≤ 50000000:=by have:=HC.out.2; simp at this; omega
   have hz6:w2.heap.size < W6.heap.size:=HB6.out.lt
   have HN:Hid (AnsW w n i v l (.slice (some ⟨g,0,none⟩) l.length cap) (headT 97 n i (v.list.take n)) (W6.setCell ⟨w2.heap.size,rep,none⟩ (.int .i64 (c + 1))) ∧ Blk (W6.setCell ⟨w2.heap.size,rep,none⟩ (.int .i64 (c + 1))) w2.heap.size (countsOf ((l.take (k + 1)).map Prod.fst)).cells 104):=by
    refine ⟨?_,?_⟩
    ·have hT:Touch (fun q=>q=w2.heap.size) W6 (W6.setCell ⟨w2.heap.size,rep,none⟩ (.int .i64 (c + 1))):=(Touch.refl (fun q=>q=w2.heap.size) W6).setCell (p:=⟨w2.heap.size,rep,none⟩) (Or.inl rfl) _
     refine ⟨H6.out.bel.setCell (p:=⟨w2.heap.size,rep,none⟩) (by show w.heap.size ≤ w2.heap.size; omega) _,?_,H6.out.ans.other (by show w.heap.size ≠ w2.heap.size; omega) _⟩
     obtain ⟨sv,hs⟩:=H6.out.wrt
     refine ⟨sv,hs.blk.other (by show w.heap.size + 1 ≠ w2.heap.size; omega) _,hs.hB,own_move hs.own fun q hq=>Below.heap_setCell _ _ _ _ fun e=>?_⟩
     obtain ⟨cc,fz,hh⟩:=own_bytes hs.own q hq
     have e':q=w2.heap.size:=e
     rw [e',show W6.heap[w2.heap.size]? = _ from HB6.out] at hh
     injection hh with hh
     injection hh with _ hh
     exact absurd hh (by decide)
    ·rw [HX.out.2.2,counts_snoc _ _ HY.out hrep,← put_cells _ hrep,hc]
     exact HB6.out.set rep _
   clear hW6 hB6 b6 q0 q1 q2 q3 q4 q5 q6 q7 HC hc
   go_wp2_with fail
   exact ⟨⟨k + 1,by omega,by go_num,HN.out⟩,by simp [intOf]; omega⟩
  ·have hkn:k=l.length:=by omega
   subst hkn
   rw [List.take_length] at HS
   go_upto_region 9 with (fail)
   have HY:Hid (∀ t,t ∈ l.map Prod.fst → t.rep < 5):=fun t ht=>by
    obtain ⟨x,hx,rfl⟩:=List.mem_map.1 ht
    exact (HF.out x hx).1.rep
   obtain ⟨cv,hcv⟩:∃ cv,countsOf (l.map Prod.fst)=cv:=⟨_,rfl⟩
   have hsm:∀ k,k ∈ cv.list → -9223372036854775808 ≤ k ∧ k ≤ 9223372036854775807:=fun k hk=>by
    obtain ⟨r,-,rfl⟩:=vec_mem hk
    have:=counts_small _ HY.out r
    rw [hcv] at this
    simp at this; omega
   rw [hcv] at HS
   have e0:wr.cell? ⟨w2.heap.size,0,none⟩=some (.int .i64 cv.a):=HS.out.2.cell 0
   have e1:wr.cell? ⟨w2.heap.size,1,none⟩=some (.int .i64 cv.b):=HS.out.2.cell 1
   have e2:wr.cell? ⟨w2.heap.size,2,none⟩=some (.int .i64 cv.c):=HS.out.2.cell 2
   have e3:wr.cell? ⟨w2.heap.size,3,none⟩=some (.int .i64 cv.d):=HS.out.2.cell 3
   have e4:wr.cell? ⟨w2.heap.size,4,none⟩=some (.int .i64 cv.e):=HS.out.2.cell 4
   have lv:=vec_take_len hsm (k:=n) hn
   have LV:=hide lv
   have HV:=hide (wr_vector w.heap.size wr (w.heap.size + 1) n _ cv HS.out.1.wrt hn (by have:=HL.out; omega) hsm (HP.out.on HS.out.1.bel))
   have HCV:=hide hcv
   clear hsm lv hcv
   go_wp2_with (go_at_call 119; refine HV.out.mono ?_; rintro e w3 ⟨rfl,hp⟩; refine Hid.out ?_)
   refine Lib.hid ?_
   have H4:=hide (HS.out.1.step hp)
   have z4:w3.cell? ⟨w.heap.size,6,none⟩=some (.slice ao l.length cap):=H4.out.ans.cell 6
   have hz4:w.heap.size + 1 < w3.heap.size:=hp.1.hB.2.1
   clear hp HV HS e0 e1 e2 e3 e4
   go_upto_region 11 with (fail)
   clear z4
   have ll4:(headT 97 n i (v.list.take n) ++ vecT (cv.list.take n)).length ≤ 2000:=by have h1:=LV.out; have h2:=HL.out; rw [List.length_append]; omega
   go_loopw [10,39] (fun _ ii wq=>∃ k:Nat,k ≤ l.length ∧ ii=.int .i64 k ∧ Hid (AnsW w n i v l (.slice ao l.length cap) (headT 97 n i (v.list.take n) ++ vecT (cv.list.take n) ++ txsT n ((l.take k).map Prod.fst)) wq)) (fun _ ii _=>l.length - (intOf ii).toNat)
   case atStart=>exact ⟨0,Nat.zero_le _,rfl,by simpa [txsT] using H4⟩
   case round=>
    clear H4
    obtain ⟨k,hk2,rfl,HS⟩:=hrel
    have lk:(headT 97 n i (v.list.take n) ++ vecT (cv.list.take n) ++ txsT n ((l.take k).map Prod.fst)).length ≤ 70000000000:=by
     have h1:=txs_len (n:=n) hn (w:=w) (l:=l.take k) fun x hx=>HF.out x (List.mem_of_mem_take hx)
     have h2:(l.take k).length ≤ 50000000:=by simp; omega
     rw [List.length_append]; omega
    by_cases hlt:k < l.length
    ·have hx:=HF.out l[k] (List.getElem_mem hlt)
     obtain ⟨g,hg,-⟩:=hao.2.2 0 (by omega)
     subst hg
     have hc:=fun (j:Nat) (hj:j < 8)=>tr_cell HR.out HS.out.bel hlt hj
     have hstep:txsT n ((l.take (k + 1)).map Prod.fst)=txsT n ((l.take k).map Prod.fst) ++ txT n l[k].1.saw l[k].1.wr:=by
      rw [List.map_take,List.map_take,txs_step n (by simpa using hlt)]; simp
     generalize hp:l[k]=p at *
     obtain ⟨⟨rep,seq,saw,m⟩,mb⟩:=p
     have q0:wr.cell? ⟨g,k * 8,none⟩=some (.int .i64 rep):=hc 0 (by omega)
     have q1:wr.cell? ⟨g,k * 8 + 1,none⟩=some (.int .i64 seq):=hc 1 (by omega)
     have q2:wr.cell? ⟨g,k * 8 + 2,none⟩=some (.int .i64 saw.a):=hc 2 (by omega)
     have q3:wr.cell? ⟨g,k * 8 + 3,none⟩=some (.int .i64 saw.b):=hc 3 (by omega)
     have q4:wr.cell? ⟨g,k * 8 + 4,none⟩=some (.int .i64 saw.c):=hc 4 (by omega)
     have q5:wr.cell? ⟨g,k * 8 + 5,none⟩=some (.int .i64 saw.d):=hc 5 (by omega)
     have q6:wr.cell? ⟨g,k * 8 + 6,none⟩=some (.int .i64 saw.e):=hc 6 (by omega)
     have q7:wr.cell? ⟨g,k * 8 + 7,none⟩=some (.map (some mb)):=hc 7 (by omega)
     have HX:=hide (⟨hx,hp,hstep⟩:_ ∧ _ ∧ _)
     clear hx hp hstep hc
     go_upto_region 13 with (fail)
     generalize hW6:wr.alloc (.cells #[.int .i64 rep,.int .i64 seq,.int .i64 saw.a,.int .i64 saw.b,.int .i64 saw.c,.int .i64 saw.d,.int .i64 saw.e,.map (some mb)] 139)=W6
     have hB6:Below wr.heap.size wr W6:=by rw [← hW6]; exact (Below.refl _ _).alloc (Nat.le_refl _) _
     have b6:Blk W6 wr.heap.size [.int .i64 rep,.int .i64 seq,.int .i64 saw.a,.int .i64 saw.b,.int .i64 saw.c,.int .i64 saw.d,.int .i64 saw.e,.map (some mb)] 139:=by rw [← hW6]; exact heap_alloc_new wr _
     have H6:=hide (HS.out.later hB6)
     have s0:W6.cell? ⟨wr.heap.size,0,none⟩=some (.int .i64 rep):=b6.cell 0
     have s1:W6.cell? ⟨wr.heap.size,1,none⟩=some (.int .i64 seq):=b6.cell 1
     have s2:W6.cell? ⟨wr.heap.size,2,none⟩=some (.int .i64 saw.a):=b6.cell 2
     have s3:W6.cell? ⟨wr.heap.size,3,none⟩=some (.int .i64 saw.b):=b6.cell 3
     have s4:W6.cell? ⟨wr.heap.size,4,none⟩=some (.int .i64 saw.c):=b6.cell 4
     have s5:W6.cell? ⟨wr.heap.size,5,none⟩=some (.int .i64 saw.d):=b6.cell 5
     have s6:W6.cell? ⟨wr.heap.size,6,none⟩=some (.int .i64 saw.e):=b6.cell 6
     have s7:W6.cell? ⟨wr.heap.size,7,none⟩=some (.map (some mb)):=b6.cell 7
     have hm:TrIn w (⟨rep,seq,saw,m⟩,mb):=HX.out.1.2
     have hbw:mb < w.heap.size:=hm.lt
     have HT6:=hide (wr_transaction w.heap.size W6 (w.heap.size + 1) n _ rep seq saw m mb 16 H6.out.wrt hn lk HX.out.1.1.saw (hm.move (H6.out.bel.block mb hbw)) (by omega) HX.out.1.1.wr (by omega) (HP.out.on H6.out.bel))
     clear hW6 hB6 b6 q0 q1 q2 q3 q4 q5 q6 q7 hm hbw
     go_wp2_with (go_at_call 120; refine HT6.out.mono ?_; rintro e w7 ⟨rfl,hp⟩; refine Hid.out ?_)
     refine Lib.hid ?_
     have H7:Hid (AnsW w n i v l (.slice (some ⟨g,0,none⟩) l.length cap) (headT 97 n i (v.list.take n) ++ vecT (cv.list.take n) ++ txsT n ((l.take (k + 1)).map Prod.fst)) w7):=by
      have a:=H6.out.step hp
      show AnsW _ _ _ _ _ _ _ _
      rw [HX.out.2.2,← List.append_assoc]; exact a
     clear hp HT6 H6 HS s0 s1 s2 s3 s4 s5 s6 s7
     go_wp2_with fail
     exact ⟨⟨k + 1,by omega,by go_num,H7.out⟩,by simp [intOf]; omega⟩
    ·have hkn:k=l.length:=by omega
     subst hkn
     rw [List.take_length] at HS lk
     have HE:=hide (wr_end w.heap.size wr (w.heap.size + 1) n _ HS.out.wrt (by simp [headT]) (by omega) (HT.out.later HS.out.bel).bru)
     go_wp2_with (go_at_call 114; refine HE.out.mono ?_; rintro e w8 ⟨rfl,hb8⟩; have HB8:=hide hb8; clear hb8)
     go_ret
     refine ⟨?_,HS.out.bel.trans (HB8.out.mono HS.out.bel.size)⟩
     rw [ansT,HCV.out,← List.append_assoc]
     rfl
end Go.Proofs.YtiplgdkpnhamaaaGreatDoor
namespace Go.Proofs.YtiplgdkpnhamaaaGreatDoor
open Go.RowKit
theorem bytes_back (s:ByteArray):(⟨s.data.toList.toArray⟩:ByteArray)=s:=by
 apply ByteArray.ext; simp
set_option maxRecDepth 100000 in
set_option maxHeartbeats 4000000 in
theorem bytes_at (w:World) (rb n:Nat) (t:ByteArray) (a:Nat) (s:ByteArray) (hi:Int) (m:Bool) (u:List UInt8) (h:RdIn w rb n t a) (hs:(s.size:Int) ≤ hi) (hi1:hi ≤ 1000) (hx:Rem m (t.data.toList.drop a) (bytesT s ++ u)) (ht:Tabs w) :
  Calls Tryz.prog 256 #[bptr rb,.int .i64 hi] w (Ends w rb n t m (a + (bytesT s).length) u (.string s)):=by
 have hx1:Rem m (t.data.toList.drop a) (numT s.size ++ (s.data.toList ++ u)):=by simpa [bytesT] using hx
 have HN:=hide (number_at w rb n t a 0 hi s.size m _ h hx1 (by omega) (by omega) (by omega) hs ht)
 have HH:=hide h
 clear hx hx1 h
 go_enter Tryz.func256,Tryz.ntmps256
 go_wp2_with (go_at_call 161; refine HN.out.mono ?_; rintro e w2 ⟨T2,⟨rfl,h2,r2⟩ | ⟨hm,rfl⟩⟩ <;> refine Hid.out ?_)
 all_goals refine Lib.hid ?_
 rotate_left
 ·exact ⟨rfl,T2,Or.inr ⟨by first | exact hm | rfl,rfl⟩⟩
 have HK:=hide (take_at w2 rb n t (a + (numT s.size).length) s.size s.data.toList m u h2 (by simp) r2)
 have HT2:=hide T2
 clear T2 h2 r2 HN
 go_wp2_with (go_at_call 160; refine HK.out.mono ?_; rintro e w3 ⟨T3,⟨rfl,h3,r3⟩ | ⟨hm,rfl⟩⟩ <;> refine Hid.out ?_)
 all_goals refine Lib.hid ?_
 rotate_left
 ·exact ⟨rfl,HT2.out.then T3,Or.inr ⟨by first | exact hm | rfl,rfl⟩⟩
 have H3:=hide (⟨HT2.out.then T3,h3,r3⟩:_ ∧ _ ∧ _)
 rw [bytes_back]
 have HC:=hide (clone_any s (by omega) w3)
 clear T3 h3 r3 HK HT2
 go_wp2_with (go_at_call 63; refine HC.out.mono ?_; rintro e w4 ⟨rfl,b4⟩; have HB4:=hide b4; clear b4)
 go_ret
 have ha:a + (bytesT s).length=a + (numT s.size).length + s.size:=by simp [bytesT]; omega
 refine ⟨H3.out.1.then (Touch.ofBelow HB4.out),Or.inl ⟨rfl,?_,?_⟩⟩
 ·rw [ha]; exact H3.out.2.1.later HB4.out
 ·rw [ha]; exact H3.out.2.2
set_option maxRecDepth 100000 in
set_option maxHeartbeats 4000000 in
theorem change_at (w:World) (rb n:Nat) (t:ByteArray) (a:Nat) (k:Int) (hk:k=2 ∨ k=3) (m:Bool) (u:List UInt8) (h:RdIn w rb n t a) (hx:Rem m (t.data.toList.drop a) ([if k=2 then 43 else 45] ++ u)) :
  Calls Tryz.prog 257 #[bptr rb] w (Ends w rb n t m (a + 1) u (.int .i64 k)):=by
 obtain ⟨c,hc⟩:∃ c:UInt8,(if k=2 then 43 else 45)=c:=⟨_,rfl⟩
 rw [hc] at hx
 have HK:=hide (take_at w rb n t a 1 [c] m u h rfl hx)
 have HCC:=hide hc
 clear hx h hc
 rcases hk with rfl | rfl
 ·have hcc:c=43:=by have:=HCC.out; simpa using this.symm
  subst hcc
  go_enter Tryz.func257,Tryz.ntmps257
  go_wp2_with (go_at_call 160; refine HK.out.mono ?_; rintro e w2 ⟨T2,⟨rfl,h2,r2⟩ | ⟨hm,rfl⟩⟩ <;> refine Hid.out ?_)
  all_goals refine Lib.hid ?_
  rotate_left
  ·exact ⟨rfl,T2,Or.inr ⟨by first | exact hm | rfl,rfl⟩⟩
  have H2:=hide (⟨T2,h2,r2⟩:_ ∧ _ ∧ _)
  clear T2 h2 r2 HK
  go_wp2_with (go_at_call 159; refine (demand_ok _).mono ?_; rintro e w3 ⟨rfl,rfl⟩)
  go_ret
  exact ⟨H2.out.1,Or.inl ⟨rfl,H2.out.2.1,H2.out.2.2⟩⟩
 ·have hcc:c=45:=by have:=HCC.out; simpa using this.symm
  subst hcc
  go_enter Tryz.func257,Tryz.ntmps257
  go_wp2_with (go_at_call 160; refine HK.out.mono ?_; rintro e w2 ⟨T2,⟨rfl,h2,r2⟩ | ⟨hm,rfl⟩⟩ <;> refine Hid.out ?_)
  all_goals refine Lib.hid ?_
  rotate_left
  ·exact ⟨rfl,T2,Or.inr ⟨by first | exact hm | rfl,rfl⟩⟩
  have H2:=hide (⟨T2,h2,r2⟩:_ ∧ _ ∧ _)
  clear T2 h2 r2 HK
  go_wp2_with (go_at_call 159; refine (demand_ok _).mono ?_; rintro e w3 ⟨rfl,rfl⟩)
  go_ret
  exact ⟨H2.out.1,Or.inl ⟨rfl,H2.out.2.1,H2.out.2.2⟩⟩
end Go.Proofs.YtiplgdkpnhamaaaGreatDoor
namespace Go.Proofs.YtiplgdkpnhamaaaGreatDoor
open Go.RowKit
def WrRd (p:Place) (x:Wr):Prop:=
 (kindOf p.key=99 ∧ p.el=⟨#[]⟩ ∧ x.kind=0 ∧ x.value=⟨#[]⟩ ∧ -16000000 ≤ x.amount ∧ x.amount ≤ 16000000) ∨
 (kindOf p.key=114 ∧ p.el=⟨#[]⟩ ∧ x.kind=1 ∧ x.amount=0 ∧ x.value.size ≤ 8) ∨
 (kindOf p.key=115 ∧ (x.kind=2 ∨ x.kind=3) ∧ x.amount=0 ∧ x.value=⟨#[]⟩ ∧ p.el.size ≤ 8)
theorem kind_size {s:ByteArray} {k:Int} (h:kindOf s=k) (hk:k ≠ 0):s.size ≤ 8:=by
 unfold kindOf at h
 split at h
 ·rename_i hh; exact hh.2
 ·exact absurd h.symm hk
theorem WrRd.fit {p:Place} {x:Wr} (h:WrRd p x):WrFit p x:=by
 rcases h with ⟨h1,h2,h3,h4,h5,h6⟩ | ⟨h1,h2,h3,h4,h5⟩ | ⟨h1,h2,h3,h4,h5⟩
 ·exact ⟨Or.inl h3,kind_size h1 (by omega),by rw [h2]; decide,by rw [h4]; decide,by omega,by omega⟩
 ·exact ⟨Or.inr (Or.inl h3),kind_size h1 (by omega),by rw [h2]; decide,h5,by omega,by omega⟩
 ·exact ⟨Or.inr (Or.inr h2),kind_size h1 (by omega),h5,by rw [h4]; decide,by omega,by omega⟩
structure WRead (w:World) (rb n:Nat) (t:ByteArray) (m:Bool) (a':Nat) (u:List UInt8) (wr:World):Prop where
 rd:RdIn wr rb n t a'
 rem:Rem m (t.data.toList.drop a') u
 tch:Touch (fun q=>q=rb) w wr
 b0:Blk wr w.heap.size [.string ⟨#[]⟩,.string ⟨#[]⟩] 129
 b1:Blk wr (w.heap.size + 1) [.int .i64 0,.int .i64 0,.string ⟨#[]⟩] 132
theorem WRead.step {w:World} {rb n:Nat} {t:ByteArray} {m:Bool} {a' a2:Nat} {u u2:List UInt8} {wr w2:World} (h:WRead w rb n t m a' u wr) (hrb:rb < w.heap.size) (T:Touch (fun q=>q=rb) wr w2) (r:RdIn w2 rb n t a2) (q:Rem m (t.data.toList.drop a2) u2):WRead w rb n t m a2 u2 w2:=
 ⟨r,q,h.tch.then T,h.b0.touch T (by omega),h.b1.touch T (by omega)⟩
theorem WRead.later {w:World} {rb n:Nat} {t:ByteArray} {m:Bool} {a':Nat} {u:List UInt8} {wr w2:World} (h:WRead w rb n t m a' u wr) (hb:Below wr.heap.size wr w2):WRead w rb n t m a' u w2:=
 ⟨h.rd.later hb,h.rem,h.tch.then (Touch.ofBelow hb),h.b0.below hb,h.b1.below hb⟩
abbrev put23 (w:World) (b c:Nat) (p:Place) (x:Wr):World:=((((w.setCell ⟨b,0,none⟩ (.string p.key)).setCell ⟨b,1,none⟩ (.string p.el)).setCell ⟨c,0,none⟩ (.int .i64 x.kind)).setCell ⟨c,1,none⟩ (.int .i64 x.amount)).setCell ⟨c,2,none⟩ (.string x.value)
theorem WRead.put {w:World} {rb n:Nat} {t:ByteArray} {m:Bool} {a':Nat} {u:List UInt8} {wr:World} (h:WRead w rb n t m a' u wr) (hrb:rb < w.heap.size) (p:Place) (x:Wr) :
  Blk (put23 wr w.heap.size (w.heap.size + 1) p x).drew w.heap.size [.string p.key,.string p.el] 129 ∧ Blk (put23 wr w.heap.size (w.heap.size + 1) p x).drew (w.heap.size + 1) [.int .i64 x.kind,.int .i64 x.amount,.string x.value] 132 ∧ Touch (fun q=>q=rb) w (put23 wr w.heap.size (w.heap.size + 1) p x).drew ∧ RdIn (put23 wr w.heap.size (w.heap.size + 1) p x).drew rb n t a':=by
 have n1:w.heap.size + 1 ≠ w.heap.size:=by omega
 have n2:w.heap.size ≠ w.heap.size + 1:=by omega
 have n3:rb ≠ w.heap.size:=by omega
 have n4:rb ≠ w.heap.size + 1:=by omega
 have a0:=h.b0.set 0 (.string p.key)
 have a1:=a0.set 1 (.string p.el)
 have a2:=a1.other (p:=⟨w.heap.size + 1,0,none⟩) n2 (.int .i64 x.kind)
 have a3:=a2.other (p:=⟨w.heap.size + 1,1,none⟩) n2 (.int .i64 x.amount)
 have a4:=a3.other (p:=⟨w.heap.size + 1,2,none⟩) n2 (.string x.value)
 have c0:=h.b1.other (p:=⟨w.heap.size,0,none⟩) n1 (.string p.key)
 have c1:=c0.other (p:=⟨w.heap.size,1,none⟩) n1 (.string p.el)
 have c2:=c1.set 0 (.int .i64 x.kind)
 have c3:=c2.set 1 (.int .i64 x.amount)
 have c4:=c3.set 2 (.string x.value)
 have d0:=h.rd.blk.other (p:=⟨w.heap.size,0,none⟩) n3 (.string p.key)
 have d1:=d0.other (p:=⟨w.heap.size,1,none⟩) n3 (.string p.el)
 have d2:=d1.other (p:=⟨w.heap.size + 1,0,none⟩) n4 (.int .i64 x.kind)
 have d3:=d2.other (p:=⟨w.heap.size + 1,1,none⟩) n4 (.int .i64 x.amount)
 have d4:=d3.other (p:=⟨w.heap.size + 1,2,none⟩) n4 (.string x.value)
 have e0:=h.tch.setCell (p:=⟨w.heap.size,0,none⟩) (Or.inr (Nat.le_refl _)) (.string p.key)
 have e1:=e0.setCell (p:=⟨w.heap.size,1,none⟩) (Or.inr (Nat.le_refl _)) (.string p.el)
 have e2:=e1.setCell (p:=⟨w.heap.size + 1,0,none⟩) (Or.inr (Nat.le_succ _)) (.int .i64 x.kind)
 have e3:=e2.setCell (p:=⟨w.heap.size + 1,1,none⟩) (Or.inr (Nat.le_succ _)) (.int .i64 x.amount)
 have e4:=e3.setCell (p:=⟨w.heap.size + 1,2,none⟩) (Or.inr (Nat.le_succ _)) (.string x.value)
 clear a0 a1 a2 a3 c0 c1 c2 c3 d0 d1 d2 d3 e0 e1 e2 e3
 unfold put23
 generalize World.setCell _ _ _=Z at *
 exact ⟨a4,c4,e4.drew,⟨d4,h.rd.le,h.rd.sm,h.rd.gl⟩⟩
set_option maxRecDepth 100000 in
set_option maxHeartbeats 8000000 in
theorem write_at0 (w:World) (rb n:Nat) (t:ByteArray) (a:Nat) (key:ByteArray) (am:Int) (m:Bool) (u:List UInt8) (h:RdIn w rb n t a) (hk:kindOf key=99) (h0:-16000000 ≤ am) (h1:am ≤ 16000000) (hx:Rem m (t.data.toList.drop a) (bytesT key ++ (numT am ++ u))) (ht:Tabs w) :
  Calls Tryz.prog 224 #[bptr rb] w (Ends w rb n t m (a + (bytesT key).length + (numT am).length) u (.tuple #[.agg #[.string key,.string ⟨#[]⟩],.agg #[.int .i64 0,.int .i64 am,.string ⟨#[]⟩]])):=by
 have hks:=kind_size hk (by omega)
 have hrb:=h.blk.lt
 generalize hW0:(w.alloc (.cells #[.string ⟨#[]⟩,.string ⟨#[]⟩] 129)).alloc (.cells #[.int .i64 0,.int .i64 0,.string ⟨#[]⟩] 132)=W0
 have hB0:Below w.heap.size w W0:=by rw [← hW0]; exact ((Below.refl _ _).alloc (Nat.le_refl _) _).alloc (by simp) _
 have H0:Hid (WRead w rb n t m a (bytesT key ++ (numT am ++ u)) W0):=by
  refine ⟨h.later hB0,hx,Touch.ofBelow hB0,?_,?_⟩
  ·rw [← hW0]; exact Blk.alloc (heap_alloc_new w _) _
  ·rw [← hW0,show w.heap.size + 1=(w.alloc (.cells #[.string ⟨#[]⟩,.string ⟨#[]⟩] 129)).heap.size by simp]
   exact heap_alloc_new _ _
 have HN:=hide (bytes_at W0 rb n t a key 8 m _ H0.out.rd (by omega) (by omega) H0.out.rem (ht.later hB0))
 have HH:=hide h
 have HW0:=hide hW0
 have hkd:=thing_any key
 rw [hk] at hkd
 have HTH:=hide hkd
 have HT:=hide ht
 clear h hx hW0 hB0 hkd hk ht
 go_enter Tryz.func224,Tryz.ntmps224
 go_wp2_with (go_at_call 256; rw [HW0.out]; refine HN.out.mono ?_; rintro e w2 ⟨T2,⟨rfl,h2,r2⟩ | ⟨hm,rfl⟩⟩ <;> refine Hid.out ?_)
 all_goals refine Lib.hid ?_
 rotate_left
 ·exact ⟨rfl,H0.out.tch.then T2,Or.inr ⟨by first | exact hm | rfl,rfl⟩⟩
 have H2:=hide (H0.out.step hrb T2 h2 r2)
 clear T2 h2 r2 HN HW0 H0
 have hz2:w.heap.size + 1 < w2.heap.size:=H2.out.b1.lt
 go_upto_region 3 with (fail)
 generalize hW3:(w2.alloc (.cells #[.string key,.string ⟨#[]⟩] 129)).alloc (.cells #[.int .i64 0,.int .i64 0,.string ⟨#[]⟩] 132)=W3
 have hB3:Below w2.heap.size w2 W3:=by rw [← hW3]; exact ((Below.refl _ _).alloc (Nat.le_refl _) _).alloc (by simp) _
 have H3:=hide (H2.out.later hB3)
 have p3:Blk W3 w2.heap.size [.string key,.string ⟨#[]⟩] 129:=by rw [← hW3]; exact Blk.alloc (heap_alloc_new w2 _) _
 have x3:Blk W3 (w2.heap.size + 1) [.int .i64 0,.int .i64 0,.string ⟨#[]⟩] 132:=by
  rw [← hW3,show w2.heap.size + 1=(w2.alloc (.cells #[.string key,.string ⟨#[]⟩] 129)).heap.size by simp]
  exact heap_alloc_new _ _
 have k0:W3.cell? ⟨w2.heap.size,0,none⟩=some (.string key):=p3.cell 0
 have hz3:w2.heap.size + 1 < W3.heap.size:=x3.lt
 have HP3:=hide (⟨p3,x3⟩:_ ∧ _)
 have HNB:=hide (number_at W3 rb n t (a + (bytesT key).length) (-16000000) 16000000 am m u H3.out.rd H3.out.rem (by omega) (by omega) h0 h1 (HH.out.tabs HT.out H3.out.tch))
 clear hW3 hB3 p3 x3 H2
 go_wp2_with (first | (go_at_call 61; refine (HTH.out _ (by unfold maxLen; omega)).mono ?_; rintro e w3 ⟨rfl,rfl⟩) | (go_at_call 161; refine HNB.out.mono ?_; rintro e w4 ⟨T4,⟨rfl,h4,r4⟩ | ⟨hm,rfl⟩⟩ <;> refine Hid.out ?_))
 all_goals refine Lib.hid ?_
 rotate_left
 ·exact ⟨rfl,H3.out.tch.then T4,Or.inr ⟨by first | exact hm | rfl,rfl⟩⟩
 have H4:=hide (H3.out.step hrb T4 h4 r4)
 have p4:=HP3.out.1.touch T4 (by omega)
 have x4:=HP3.out.2.touch T4 (by omega)
 have HP4:=hide (⟨p4,x4⟩:_ ∧ _)
 have y0:w4.cell? ⟨w2.heap.size + 1,0,none⟩=some (.int .i64 0):=x4.cell 0
 have y1:w4.cell? ⟨w2.heap.size + 1,1,none⟩=some (.int .i64 0):=x4.cell 1
 have y2:w4.cell? ⟨w2.heap.size + 1,2,none⟩=some (.string ⟨#[]⟩):=x4.cell 2
 have f0:w4.frozen? ⟨w2.heap.size + 1,0,none⟩=false:=x4.frozen 0
 have f1:w4.frozen? ⟨w2.heap.size + 1,1,none⟩=false:=x4.frozen 1
 have f2:w4.frozen? ⟨w2.heap.size + 1,2,none⟩=false:=x4.frozen 2
 have hz4:w2.heap.size + 1 < w4.heap.size:=x4.lt
 clear T4 h4 r4 HNB H3 HP3 k0 p4 x4 HTH
 go_upto_region 12 with (fail)
 have x5:=((HP4.out.2.set 0 (.int .i64 0)).set 1 (.int .i64 am)).set 2 (.string ⟨#[]⟩)
 have hT5:Touch (fun q=>q=w2.heap.size + 1) w4 (((w4.setCell ⟨w2.heap.size + 1,0,none⟩ (.int .i64 0)).setCell ⟨w2.heap.size + 1,1,none⟩ (.int .i64 am)).setCell ⟨w2.heap.size + 1,2,none⟩ (.string ⟨#[]⟩)):=(((Touch.refl (fun q=>q=w2.heap.size + 1) w4).setCell (p:=⟨w2.heap.size + 1,0,none⟩) (Or.inl rfl) _).setCell (p:=⟨w2.heap.size + 1,1,none⟩) (Or.inl rfl) _).setCell (p:=⟨w2.heap.size + 1,2,none⟩) (Or.inl rfl) _
 clear y0 y1 y2 f0 f1 f2
 generalize World.setCell _ _ _=W5 at *
 have p5:=HP4.out.1.touch hT5 (by omega)
 have H5:Hid (WRead w rb n t m (a + (bytesT key).length + (numT am).length) u W5):=
  ⟨⟨H4.out.rd.blk.touch hT5 (by omega),H4.out.rd.le,H4.out.rd.sm,H4.out.rd.gl⟩,H4.out.rem,H4.out.tch.trans (hT5.mono fun q _ e=>Or.inr (by omega)),H4.out.b0.touch hT5 (by omega),H4.out.b1.touch hT5 (by omega)⟩
 clear H4 HP4 hT5
 have HP5:=hide (⟨p5,x5⟩:_ ∧ _)
 have j0:W5.cell? ⟨w2.heap.size,0,none⟩=some (.string key):=p5.cell 0
 have j1:W5.cell? ⟨w2.heap.size,1,none⟩=some (.string ⟨#[]⟩):=p5.cell 1
 have y0:W5.cell? ⟨w2.heap.size + 1,0,none⟩=some (.int .i64 0):=x5.cell 0
 have y1:W5.cell? ⟨w2.heap.size + 1,1,none⟩=some (.int .i64 am):=x5.cell 1
 have y2:W5.cell? ⟨w2.heap.size + 1,2,none⟩=some (.string ⟨#[]⟩):=x5.cell 2
 have r0:W5.cell? ⟨w.heap.size,0,none⟩=some (.string ⟨#[]⟩):=H5.out.b0.cell 0
 have r1:W5.cell? ⟨w.heap.size,1,none⟩=some (.string ⟨#[]⟩):=H5.out.b0.cell 1
 have q0:W5.frozen? ⟨w.heap.size,0,none⟩=false:=H5.out.b0.frozen 0
 have q1:W5.frozen? ⟨w.heap.size,1,none⟩=false:=H5.out.b0.frozen 1
 have s0:W5.cell? ⟨w.heap.size + 1,0,none⟩=some (.int .i64 0):=H5.out.b1.cell 0
 have s1:W5.cell? ⟨w.heap.size + 1,1,none⟩=some (.int .i64 0):=H5.out.b1.cell 1
 have s2:W5.cell? ⟨w.heap.size + 1,2,none⟩=some (.string ⟨#[]⟩):=H5.out.b1.cell 2
 have g0:W5.frozen? ⟨w.heap.size + 1,0,none⟩=false:=H5.out.b1.frozen 0
 have g1:W5.frozen? ⟨w.heap.size + 1,1,none⟩=false:=H5.out.b1.frozen 1
 have g2:W5.frozen? ⟨w.heap.size + 1,2,none⟩=false:=H5.out.b1.frozen 2
 clear p5 x5
 go_region
 have hput:=H5.out.put hrb ⟨key,⟨#[]⟩⟩ ⟨0,am,⟨#[]⟩⟩
 unfold put23 at hput
 have HPUT:=hide hput
 clear hput r0 r1 q0 q1 s0 s1 s2 g0 g1 g2 j0 j1 y0 y1 y2
 go_wp2_with fail
 obtain ⟨hb0,hb1,hT,hR⟩:=HPUT.out
 generalize World.drew _=W7 at *
 have d0:W7.cell? ⟨w.heap.size,0,none⟩=some (.string key):=hb0.cell 0
 have d1:W7.cell? ⟨w.heap.size,1,none⟩=some (.string ⟨#[]⟩):=hb0.cell 1
 have e0:W7.cell? ⟨w.heap.size + 1,0,none⟩=some (.int .i64 0):=hb1.cell 0
 have e1:W7.cell? ⟨w.heap.size + 1,1,none⟩=some (.int .i64 am):=hb1.cell 1
 have e2:W7.cell? ⟨w.heap.size + 1,2,none⟩=some (.string ⟨#[]⟩):=hb1.cell 2
 exact bodyPost_ret (v:=.tuple #[.agg #[.string key,.string ⟨#[]⟩],.agg #[.int .i64 0,.int .i64 am,.string ⟨#[]⟩]]) (by simp [results,Tryz.results224,go_sem,d0,d1,e0,e1,e2]) rfl ⟨hT,Or.inl ⟨rfl,hR,H5.out.rem⟩⟩
end Go.Proofs.YtiplgdkpnhamaaaGreatDoor
namespace Go.Proofs.YtiplgdkpnhamaaaGreatDoor
open Go.RowKit
set_option maxRecDepth 100000 in
set_option maxHeartbeats 8000000 in
theorem write_at1 (w:World) (rb n:Nat) (t:ByteArray) (a:Nat) (key va:ByteArray) (m:Bool) (u:List UInt8) (h:RdIn w rb n t a) (hk:kindOf key=114) (hv:va.size ≤ 8) (hx:Rem m (t.data.toList.drop a) (bytesT key ++ (bytesT va ++ u))) (ht:Tabs w) :
  Calls Tryz.prog 224 #[bptr rb] w (Ends w rb n t m (a + (bytesT key).length + (bytesT va).length) u (.tuple #[.agg #[.string key,.string ⟨#[]⟩],.agg #[.int .i64 1,.int .i64 0,.string va]])):=by
 have hks:=kind_size hk (by omega)
 have hrb:=h.blk.lt
 generalize hW0:(w.alloc (.cells #[.string ⟨#[]⟩,.string ⟨#[]⟩] 129)).alloc (.cells #[.int .i64 0,.int .i64 0,.string ⟨#[]⟩] 132)=W0
 have hB0:Below w.heap.size w W0:=by rw [← hW0]; exact ((Below.refl _ _).alloc (Nat.le_refl _) _).alloc (by simp) _
 have H0:Hid (WRead w rb n t m a (bytesT key ++ (bytesT va ++ u)) W0):=by
  refine ⟨h.later hB0,hx,Touch.ofBelow hB0,?_,?_⟩
  ·rw [← hW0]; exact Blk.alloc (heap_alloc_new w _) _
  ·rw [← hW0,show w.heap.size + 1=(w.alloc (.cells #[.string ⟨#[]⟩,.string ⟨#[]⟩] 129)).heap.size by simp]
   exact heap_alloc_new _ _
 have HN:=hide (bytes_at W0 rb n t a key 8 m _ H0.out.rd (by omega) (by omega) H0.out.rem (ht.later hB0))
 have HH:=hide h
 have HW0:=hide hW0
 have hkd:=thing_any key
 rw [hk] at hkd
 have HTH:=hide hkd
 have HT:=hide ht
 clear h hx hW0 hB0 hkd hk ht
 go_enter Tryz.func224,Tryz.ntmps224
 go_wp2_with (go_at_call 256; rw [HW0.out]; refine HN.out.mono ?_; rintro e w2 ⟨T2,⟨rfl,h2,r2⟩ | ⟨hm,rfl⟩⟩ <;> refine Hid.out ?_)
 all_goals refine Lib.hid ?_
 rotate_left
 ·exact ⟨rfl,H0.out.tch.then T2,Or.inr ⟨by first | exact hm | rfl,rfl⟩⟩
 have H2:=hide (H0.out.step hrb T2 h2 r2)
 clear T2 h2 r2 HN HW0 H0
 have hz2:w.heap.size + 1 < w2.heap.size:=H2.out.b1.lt
 go_upto_region 3 with (fail)
 generalize hW3:(w2.alloc (.cells #[.string key,.string ⟨#[]⟩] 129)).alloc (.cells #[.int .i64 0,.int .i64 0,.string ⟨#[]⟩] 132)=W3
 have hB3:Below w2.heap.size w2 W3:=by rw [← hW3]; exact ((Below.refl _ _).alloc (Nat.le_refl _) _).alloc (by simp) _
 have H3:=hide (H2.out.later hB3)
 have p3:Blk W3 w2.heap.size [.string key,.string ⟨#[]⟩] 129:=by rw [← hW3]; exact Blk.alloc (heap_alloc_new w2 _) _
 have x3:Blk W3 (w2.heap.size + 1) [.int .i64 0,.int .i64 0,.string ⟨#[]⟩] 132:=by
  rw [← hW3,show w2.heap.size + 1=(w2.alloc (.cells #[.string key,.string ⟨#[]⟩] 129)).heap.size by simp]
  exact heap_alloc_new _ _
 have k0:W3.cell? ⟨w2.heap.size,0,none⟩=some (.string key):=p3.cell 0
 have hz3:w2.heap.size + 1 < W3.heap.size:=x3.lt
 have HP3:=hide (⟨p3,x3⟩:_ ∧ _)
 have HNB:=hide (bytes_at W3 rb n t (a + (bytesT key).length) va 8 m u H3.out.rd (by omega) (by omega) H3.out.rem (HH.out.tabs HT.out H3.out.tch))
 clear hW3 hB3 p3 x3 H2
 go_wp2_with (first | (go_at_call 61; refine (HTH.out _ (by unfold maxLen; omega)).mono ?_; rintro e w3 ⟨rfl,rfl⟩) | (go_at_call 256; refine HNB.out.mono ?_; rintro e w4 ⟨T4,⟨rfl,h4,r4⟩ | ⟨hm,rfl⟩⟩ <;> refine Hid.out ?_))
 all_goals refine Lib.hid ?_
 rotate_left
 ·exact ⟨rfl,H3.out.tch.then T4,Or.inr ⟨by first | exact hm | rfl,rfl⟩⟩
 have H4:=hide (H3.out.step hrb T4 h4 r4)
 have p4:=HP3.out.1.touch T4 (by omega)
 have x4:=HP3.out.2.touch T4 (by omega)
 have HP4:=hide (⟨p4,x4⟩:_ ∧ _)
 have y0:w4.cell? ⟨w2.heap.size + 1,0,none⟩=some (.int .i64 0):=x4.cell 0
 have y1:w4.cell? ⟨w2.heap.size + 1,1,none⟩=some (.int .i64 0):=x4.cell 1
 have y2:w4.cell? ⟨w2.heap.size + 1,2,none⟩=some (.string ⟨#[]⟩):=x4.cell 2
 have f0:w4.frozen? ⟨w2.heap.size + 1,0,none⟩=false:=x4.frozen 0
 have f1:w4.frozen? ⟨w2.heap.size + 1,1,none⟩=false:=x4.frozen 1
 have f2:w4.frozen? ⟨w2.heap.size + 1,2,none⟩=false:=x4.frozen 2
 have hz4:w2.heap.size + 1 < w4.heap.size:=x4.lt
 clear T4 h4 r4 HNB H3 HP3 k0 p4 x4 HTH
 go_upto_region 12 with (fail)
 have x5:=((HP4.out.2.set 0 (.int .i64 1)).set 1 (.int .i64 0)).set 2 (.string va)
 have hT5:Touch (fun q=>q=w2.heap.size + 1) w4 (((w4.setCell ⟨w2.heap.size + 1,0,none⟩ (.int .i64 1)).setCell ⟨w2.heap.size + 1,1,none⟩ (.int .i64 0)).setCell ⟨w2.heap.size + 1,2,none⟩ (.string va)):=(((Touch.refl (fun q=>q=w2.heap.size + 1) w4).setCell (p:=⟨w2.heap.size + 1,0,none⟩) (Or.inl rfl) _).setCell (p:=⟨w2.heap.size + 1,1,none⟩) (Or.inl rfl) _).setCell (p:=⟨w2.heap.size + 1,2,none⟩) (Or.inl rfl) _
 clear y0 y1 y2 f0 f1 f2
 generalize World.setCell _ _ _=W5 at *
 have p5:=HP4.out.1.touch hT5 (by omega)
 have H5:Hid (WRead w rb n t m (a + (bytesT key).length + (bytesT va).length) u W5):=
  ⟨⟨H4.out.rd.blk.touch hT5 (by omega),H4.out.rd.le,H4.out.rd.sm,H4.out.rd.gl⟩,H4.out.rem,H4.out.tch.trans (hT5.mono fun q _ e=>Or.inr (by omega)),H4.out.b0.touch hT5 (by omega),H4.out.b1.touch hT5 (by omega)⟩
 clear H4 HP4 hT5
 have HP5:=hide (⟨p5,x5⟩:_ ∧ _)
 have j0:W5.cell? ⟨w2.heap.size,0,none⟩=some (.string key):=p5.cell 0
 have j1:W5.cell? ⟨w2.heap.size,1,none⟩=some (.string ⟨#[]⟩):=p5.cell 1
 have y0:W5.cell? ⟨w2.heap.size + 1,0,none⟩=some (.int .i64 1):=x5.cell 0
 have y1:W5.cell? ⟨w2.heap.size + 1,1,none⟩=some (.int .i64 0):=x5.cell 1
 have y2:W5.cell? ⟨w2.heap.size + 1,2,none⟩=some (.string va):=x5.cell 2
 have r0:W5.cell? ⟨w.heap.size,0,none⟩=some (.string ⟨#[]⟩):=H5.out.b0.cell 0
 have r1:W5.cell? ⟨w.heap.size,1,none⟩=some (.string ⟨#[]⟩):=H5.out.b0.cell 1
 have q0:W5.frozen? ⟨w.heap.size,0,none⟩=false:=H5.out.b0.frozen 0
 have q1:W5.frozen? ⟨w.heap.size,1,none⟩=false:=H5.out.b0.frozen 1
 have s0:W5.cell? ⟨w.heap.size + 1,0,none⟩=some (.int .i64 0):=H5.out.b1.cell 0
 have s1:W5.cell? ⟨w.heap.size + 1,1,none⟩=some (.int .i64 0):=H5.out.b1.cell 1
 have s2:W5.cell? ⟨w.heap.size + 1,2,none⟩=some (.string ⟨#[]⟩):=H5.out.b1.cell 2
 have g0:W5.frozen? ⟨w.heap.size + 1,0,none⟩=false:=H5.out.b1.frozen 0
 have g1:W5.frozen? ⟨w.heap.size + 1,1,none⟩=false:=H5.out.b1.frozen 1
 have g2:W5.frozen? ⟨w.heap.size + 1,2,none⟩=false:=H5.out.b1.frozen 2
 clear p5 x5
 go_region
 have hput:=H5.out.put hrb ⟨key,⟨#[]⟩⟩ ⟨1,0,va⟩
 unfold put23 at hput
 have HPUT:=hide hput
 clear hput r0 r1 q0 q1 s0 s1 s2 g0 g1 g2 j0 j1 y0 y1 y2
 go_wp2_with fail
 obtain ⟨hb0,hb1,hT,hR⟩:=HPUT.out
 generalize World.drew _=W7 at *
 have d0:W7.cell? ⟨w.heap.size,0,none⟩=some (.string key):=hb0.cell 0
 have d1:W7.cell? ⟨w.heap.size,1,none⟩=some (.string ⟨#[]⟩):=hb0.cell 1
 have e0:W7.cell? ⟨w.heap.size + 1,0,none⟩=some (.int .i64 1):=hb1.cell 0
 have e1:W7.cell? ⟨w.heap.size + 1,1,none⟩=some (.int .i64 0):=hb1.cell 1
 have e2:W7.cell? ⟨w.heap.size + 1,2,none⟩=some (.string va):=hb1.cell 2
 exact bodyPost_ret (v:=.tuple #[.agg #[.string key,.string ⟨#[]⟩],.agg #[.int .i64 1,.int .i64 0,.string va]]) (by simp [results,Tryz.results224,go_sem,d0,d1,e0,e1,e2]) rfl ⟨hT,Or.inl ⟨rfl,hR,H5.out.rem⟩⟩
set_option maxRecDepth 100000 in
set_option maxHeartbeats 8000000 in
theorem write_at2 (w:World) (rb n:Nat) (t:ByteArray) (a:Nat) (key el:ByteArray) (kd:Int) (hkd:kd=2 ∨ kd=3) (m:Bool) (u:List UInt8) (h:RdIn w rb n t a) (hk:kindOf key=115) (hv:el.size ≤ 8) (hx:Rem m (t.data.toList.drop a) (bytesT key ++ (bytesT el ++ ([if kd=2 then 43 else 45] ++ u)))) (ht:Tabs w) :
  Calls Tryz.prog 224 #[bptr rb] w (Ends w rb n t m (a + (bytesT key).length + (bytesT el).length + 1) u (.tuple #[.agg #[.string key,.string el],.agg #[.int .i64 kd,.int .i64 0,.string ⟨#[]⟩]])):=by
 have hks:=kind_size hk (by omega)
 have hrb:=h.blk.lt
 generalize hW0:(w.alloc (.cells #[.string ⟨#[]⟩,.string ⟨#[]⟩] 129)).alloc (.cells #[.int .i64 0,.int .i64 0,.string ⟨#[]⟩] 132)=W0
 have hB0:Below w.heap.size w W0:=by rw [← hW0]; exact ((Below.refl _ _).alloc (Nat.le_refl _) _).alloc (by simp) _
 have H0:Hid (WRead w rb n t m a (bytesT key ++ (bytesT el ++ ([if kd=2 then 43 else 45] ++ u))) W0):=by
  refine ⟨h.later hB0,hx,Touch.ofBelow hB0,?_,?_⟩
  ·rw [← hW0]; exact Blk.alloc (heap_alloc_new w _) _
  ·rw [← hW0,show w.heap.size + 1=(w.alloc (.cells #[.string ⟨#[]⟩,.string ⟨#[]⟩] 129)).heap.size by simp]
   exact heap_alloc_new _ _
 have HN:=hide (bytes_at W0 rb n t a key 8 m _ H0.out.rd (by omega) (by omega) H0.out.rem (ht.later hB0))
 have HH:=hide h
 have HW0:=hide hW0
 have hkd:=thing_any key
 rw [hk] at hkd
 have HTH:=hide hkd
 have HT:=hide ht
 clear h hx hW0 hB0 hkd hk ht
 go_enter Tryz.func224,Tryz.ntmps224
 go_wp2_with (go_at_call 256; rw [HW0.out]; refine HN.out.mono ?_; rintro e w2 ⟨T2,⟨rfl,h2,r2⟩ | ⟨hm,rfl⟩⟩ <;> refine Hid.out ?_)
 all_goals refine Lib.hid ?_
 rotate_left
 ·exact ⟨rfl,H0.out.tch.then T2,Or.inr ⟨by first | exact hm | rfl,rfl⟩⟩
 have H2:=hide (H0.out.step hrb T2 h2 r2)
 clear T2 h2 r2 HN HW0 H0
 have hz2:w.heap.size + 1 < w2.heap.size:=H2.out.b1.lt
 go_upto_region 3 with (fail)
 generalize hW3:(w2.alloc (.cells #[.string key,.string ⟨#[]⟩] 129)).alloc (.cells #[.int .i64 0,.int .i64 0,.string ⟨#[]⟩] 132)=W3
 have hB3:Below w2.heap.size w2 W3:=by rw [← hW3]; exact ((Below.refl _ _).alloc (Nat.le_refl _) _).alloc (by simp) _
 have H3:=hide (H2.out.later hB3)
 have p3:Blk W3 w2.heap.size [.string key,.string ⟨#[]⟩] 129:=by rw [← hW3]; exact Blk.alloc (heap_alloc_new w2 _) _
 have x3:Blk W3 (w2.heap.size + 1) [.int .i64 0,.int .i64 0,.string ⟨#[]⟩] 132:=by
  rw [← hW3,show w2.heap.size + 1=(w2.alloc (.cells #[.string key,.string ⟨#[]⟩] 129)).heap.size by simp]
  exact heap_alloc_new _ _
 have k0:W3.cell? ⟨w2.heap.size,0,none⟩=some (.string key):=p3.cell 0
 have hz3:w2.heap.size + 1 < W3.heap.size:=x3.lt
 have HP3:=hide (⟨p3,x3⟩:_ ∧ _)
 have HNB:=hide (bytes_at W3 rb n t (a + (bytesT key).length) el 8 m _ H3.out.rd (by omega) (by omega) H3.out.rem (HH.out.tabs HT.out H3.out.tch))
 clear hW3 hB3 p3 x3 H2
 go_wp2_with (first | (go_at_call 61; refine (HTH.out _ (by unfold maxLen; omega)).mono ?_; rintro e w3 ⟨rfl,rfl⟩) | (go_at_call 256; refine HNB.out.mono ?_; rintro e w4 ⟨T4,⟨rfl,h4,r4⟩ | ⟨hm,rfl⟩⟩ <;> refine Hid.out ?_))
 all_goals refine Lib.hid ?_
 rotate_left
 ·exact ⟨rfl,H3.out.tch.then T4,Or.inr ⟨by first | exact hm | rfl,rfl⟩⟩
 have H4:=hide (H3.out.step hrb T4 h4 r4)
 have p4:=HP3.out.1.touch T4 (by omega)
 have x4:=HP3.out.2.touch T4 (by omega)
 have j1:w4.cell? ⟨w2.heap.size,1,none⟩=some (.string ⟨#[]⟩):=p4.cell 1
 have f1:w4.frozen? ⟨w2.heap.size,1,none⟩=false:=p4.frozen 1
 have hz4:w2.heap.size + 1 < w4.heap.size:=x4.lt
 have HP4:=hide (⟨p4,x4⟩:_ ∧ _)
 clear T4 h4 r4 HNB H3 HP3 k0 p4 x4 HTH
 go_upto_region 11 with (fail)
 have p6:=HP4.out.1.set 1 (.string el)
 have hT6:Touch (fun q=>q=w2.heap.size) w4 (w4.setCell ⟨w2.heap.size,1,none⟩ (.string el)):=(Touch.refl (fun q=>q=w2.heap.size) w4).setCell (p:=⟨w2.heap.size,1,none⟩) (Or.inl rfl) _
 clear j1 f1
 generalize World.setCell _ _ _=W6 at *
 have x6:=HP4.out.2.touch hT6 (by omega)
 have H6:Hid (WRead w rb n t m (a + (bytesT key).length + (bytesT el).length) ([if kd=2 then 43 else 45] ++ u) W6):=
  ⟨⟨H4.out.rd.blk.touch hT6 (by omega),H4.out.rd.le,H4.out.rd.sm,H4.out.rd.gl⟩,H4.out.rem,H4.out.tch.trans (hT6.mono fun q _ e=>Or.inr (by omega)),H4.out.b0.touch hT6 (by omega),H4.out.b1.touch hT6 (by omega)⟩
 have HNC:=hide (change_at W6 rb n t (a + (bytesT key).length + (bytesT el).length) kd hkd m u H6.out.rd H6.out.rem)
 have HP6:=hide (⟨p6,x6⟩:_ ∧ _)
 have hz6:w2.heap.size + 1 < W6.heap.size:=x6.lt
 clear p6 x6 hT6 H4 HP4
 go_wp2_with (go_at_call 257; refine HNC.out.mono ?_; rintro e w8 ⟨T8,⟨rfl,h8,r8⟩ | ⟨hm,rfl⟩⟩ <;> refine Hid.out ?_)
 all_goals refine Lib.hid ?_
 rotate_left
 ·exact ⟨rfl,H6.out.tch.then T8,Or.inr ⟨by first | exact hm | rfl,rfl⟩⟩
 have H8:=hide (H6.out.step hrb T8 h8 r8)
 have p8:=HP6.out.1.touch T8 (by omega)
 have x8:=HP6.out.2.touch T8 (by omega)
 have HP8:=hide (⟨p8,x8⟩:_ ∧ _)
 have y0:w8.cell? ⟨w2.heap.size + 1,0,none⟩=some (.int .i64 0):=x8.cell 0
 have y1:w8.cell? ⟨w2.heap.size + 1,1,none⟩=some (.int .i64 0):=x8.cell 1
 have y2:w8.cell? ⟨w2.heap.size + 1,2,none⟩=some (.string ⟨#[]⟩):=x8.cell 2
 have f0:w8.frozen? ⟨w2.heap.size + 1,0,none⟩=false:=x8.frozen 0
 have f1:w8.frozen? ⟨w2.heap.size + 1,1,none⟩=false:=x8.frozen 1
 have f2:w8.frozen? ⟨w2.heap.size + 1,2,none⟩=false:=x8.frozen 2
 have hz8:w2.heap.size + 1 < w8.heap.size:=x8.lt
 clear T8 h8 r8 HNC H6 HP6 p8 x8
 go_upto_region 12 with (fail)
 have x5:=((HP8.out.2.set 0 (.int .i64 kd)).set 1 (.int .i64 0)).set 2 (.string ⟨#[]⟩)
 have hT5:Touch (fun q=>q=w2.heap.size + 1) w8 (((w8.setCell ⟨w2.heap.size + 1,0,none⟩ (.int .i64 kd)).setCell ⟨w2.heap.size + 1,1,none⟩ (.int .i64 0)).setCell ⟨w2.heap.size + 1,2,none⟩ (.string ⟨#[]⟩)):=(((Touch.refl (fun q=>q=w2.heap.size + 1) w8).setCell (p:=⟨w2.heap.size + 1,0,none⟩) (Or.inl rfl) _).setCell (p:=⟨w2.heap.size + 1,1,none⟩) (Or.inl rfl) _).setCell (p:=⟨w2.heap.size + 1,2,none⟩) (Or.inl rfl) _
 clear y0 y1 y2 f0 f1 f2
 generalize World.setCell _ _ _=W5 at *
 have p5:=HP8.out.1.touch hT5 (by omega)
 have H5:Hid (WRead w rb n t m (a + (bytesT key).length + (bytesT el).length + 1) u W5):=
  ⟨⟨H8.out.rd.blk.touch hT5 (by omega),H8.out.rd.le,H8.out.rd.sm,H8.out.rd.gl⟩,H8.out.rem,H8.out.tch.trans (hT5.mono fun q _ e=>Or.inr (by omega)),H8.out.b0.touch hT5 (by omega),H8.out.b1.touch hT5 (by omega)⟩
 clear H8 HP8 hT5
 have HP5:=hide (⟨p5,x5⟩:_ ∧ _)
 have j0:W5.cell? ⟨w2.heap.size,0,none⟩=some (.string key):=p5.cell 0
 have j1:W5.cell? ⟨w2.heap.size,1,none⟩=some (.string el):=p5.cell 1
 have y0:W5.cell? ⟨w2.heap.size + 1,0,none⟩=some (.int .i64 kd):=x5.cell 0
 have y1:W5.cell? ⟨w2.heap.size + 1,1,none⟩=some (.int .i64 0):=x5.cell 1
 have y2:W5.cell? ⟨w2.heap.size + 1,2,none⟩=some (.string ⟨#[]⟩):=x5.cell 2
 have r0:W5.cell? ⟨w.heap.size,0,none⟩=some (.string ⟨#[]⟩):=H5.out.b0.cell 0
 have r1:W5.cell? ⟨w.heap.size,1,none⟩=some (.string ⟨#[]⟩):=H5.out.b0.cell 1
 have q0:W5.frozen? ⟨w.heap.size,0,none⟩=false:=H5.out.b0.frozen 0
 have q1:W5.frozen? ⟨w.heap.size,1,none⟩=false:=H5.out.b0.frozen 1
 have s0:W5.cell? ⟨w.heap.size + 1,0,none⟩=some (.int .i64 0):=H5.out.b1.cell 0
 have s1:W5.cell? ⟨w.heap.size + 1,1,none⟩=some (.int .i64 0):=H5.out.b1.cell 1
 have s2:W5.cell? ⟨w.heap.size + 1,2,none⟩=some (.string ⟨#[]⟩):=H5.out.b1.cell 2
 have g0:W5.frozen? ⟨w.heap.size + 1,0,none⟩=false:=H5.out.b1.frozen 0
 have g1:W5.frozen? ⟨w.heap.size + 1,1,none⟩=false:=H5.out.b1.frozen 1
 have g2:W5.frozen? ⟨w.heap.size + 1,2,none⟩=false:=H5.out.b1.frozen 2
 clear p5 x5
 go_region
 have hput:=H5.out.put hrb ⟨key,el⟩ ⟨kd,0,⟨#[]⟩⟩
 unfold put23 at hput
 have HPUT:=hide hput
 clear hput r0 r1 q0 q1 s0 s1 s2 g0 g1 g2 j0 j1 y0 y1 y2
 go_wp2_with fail
 obtain ⟨hb0,hb1,hT,hR⟩:=HPUT.out
 generalize World.drew _=W7 at *
 have d0:W7.cell? ⟨w.heap.size,0,none⟩=some (.string key):=hb0.cell 0
 have d1:W7.cell? ⟨w.heap.size,1,none⟩=some (.string el):=hb0.cell 1
 have e0:W7.cell? ⟨w.heap.size + 1,0,none⟩=some (.int .i64 kd):=hb1.cell 0
 have e1:W7.cell? ⟨w.heap.size + 1,1,none⟩=some (.int .i64 0):=hb1.cell 1
 have e2:W7.cell? ⟨w.heap.size + 1,2,none⟩=some (.string ⟨#[]⟩):=hb1.cell 2
 exact bodyPost_ret (v:=.tuple #[.agg #[.string key,.string el],.agg #[.int .i64 kd,.int .i64 0,.string ⟨#[]⟩]]) (by simp [results,Tryz.results224,go_sem,d0,d1,e0,e1,e2]) rfl ⟨hT,Or.inl ⟨rfl,hR,H5.out.rem⟩⟩
theorem write_at (w:World) (rb n:Nat) (t:ByteArray) (a:Nat) (p:Place) (x:Wr) (m:Bool) (u:List UInt8) (h:RdIn w rb n t a) (hr:WrRd p x) (hx:Rem m (t.data.toList.drop a) (wrT p x ++ u)) (ht:Tabs w) :
  Calls Tryz.prog 224 #[bptr rb] w (Ends w rb n t m (a + (wrT p x).length) u (.tuple #[p.val,x.val])):=by
 obtain ⟨key,el⟩:=p
 obtain ⟨kd,am,va⟩:=x
 rcases hr with ⟨h1,h2,h3,h4,h5,h6⟩ | ⟨h1,h2,h3,h4,h5⟩ | ⟨h1,h2,h3,h4,h5⟩
 ·simp only at h1 h2 h3 h4 h5 h6
  subst h2 h3 h4
  have e:wrT ⟨key,⟨#[]⟩⟩ ⟨0,am,⟨#[]⟩⟩=bytesT key ++ numT am:=by simp [wrT]
  rw [e] at hx ⊢
  have:=write_at0 w rb n t a key am m u h h1 h5 h6 (by rw [← List.append_assoc]; exact hx) ht
  rw [List.length_append,← Nat.add_assoc]
  exact this
 ·simp only at h1 h2 h3 h4 h5
  subst h2 h3 h4
  have e:wrT ⟨key,⟨#[]⟩⟩ ⟨1,0,va⟩=bytesT key ++ bytesT va:=by simp [wrT]
  rw [e] at hx ⊢
  have:=write_at1 w rb n t a key va m u h h1 h5 (by rw [← List.append_assoc]; exact hx) ht
  rw [List.length_append,← Nat.add_assoc]
  exact this
 ·simp only at h1 h2 h3 h4 h5
  subst h3 h4
  have e:wrT ⟨key,el⟩ ⟨kd,0,⟨#[]⟩⟩=bytesT key ++ (bytesT el ++ [if kd=2 then 43 else 45]):=by
   rcases h2 with rfl | rfl <;> simp [wrT]
  rw [e] at hx ⊢
  have:=write_at2 w rb n t a key el kd h2 m u h h1 h5 (by rw [← List.append_assoc,← List.append_assoc,List.append_assoc (bytesT key)]; exact hx) ht
  rw [List.length_append,List.length_append,List.length_singleton,← Nat.add_assoc,← Nat.add_assoc]
  exact this
end Go.Proofs.YtiplgdkpnhamaaaGreatDoor
namespace Go.Proofs.YtiplgdkpnhamaaaGreatDoor
open Go.RowKit Go.Sort
def mapTo (mm:Place → Option Wr) (l:List Place):Place → Option Wr:=fun p=>if p ∈ l then mm p else none
theorem mapTo_step (mm:Place → Option Wr) {ks:List Place} {k:Nat} (hk:k < ks.length) {x:Wr} (hx:mm ks[k]=some x):(fun q=>if q=ks[k] then some x else mapTo mm (ks.take k) q)=mapTo mm (ks.take (k + 1)):=by
 funext q
 unfold mapTo
 rw [List.take_succ_eq_append_getElem hk]
 by_cases c:q=ks[k]
 ·rw [if_pos c,if_pos (List.mem_append.2 (Or.inr (List.mem_singleton.2 c))),c,hx]
 ·rw [if_neg c]
  by_cases d:q ∈ ks.take k
  ·rw [if_pos d,if_pos (List.mem_append.2 (Or.inl d))]
  ·rw [if_neg d,if_neg (fun e=>(List.mem_append.1 e).elim d (fun e=>c (List.mem_singleton.1 e)))]
theorem mapTo_all {mm:Place → Option Wr} {ks:List Place} (h:KeysOf mm ks):mapTo mm ks=mm:=by
 funext q
 unfold mapTo
 by_cases c:q ∈ ks
 ·rw [if_pos c]
 ·rw [if_neg c]
  have:=mt (h.2 q).2 c
  cases e:mm q
  ·rfl
  ·rw [e] at this; simp at this
def lastAt (ks:List Place) (k:Nat):Place:=if h:0 < k ∧ k - 1 < ks.length then ks[k - 1]'h.2 else ⟨⟨#[]⟩,⟨#[]⟩⟩
theorem lastAt_zero (ks:List Place):lastAt ks 0=⟨⟨#[]⟩,⟨#[]⟩⟩:=by simp [lastAt]
theorem lastAt_succ {ks:List Place} {k:Nat} (hk:k < ks.length):lastAt ks (k + 1)=ks[k]:=by
 unfold lastAt
 rw [dif_pos ⟨by omega,by simpa using hk⟩]
 simp
theorem empty_lt {s:ByteArray} (h:s.size ≠ 0):strLt ⟨#[]⟩ s=true:=by
 unfold strLt
 have h1:(ByteArray.mk #[]).toList=[]:=by rw [ByteArray.toList_eq]
 have h2:s.toList ≠ []:=by
  rw [ByteArray.toList_eq]
  intro e
  have:=congrArg List.length e
  rw [Array.length_toList] at this
  exact h this
 rw [h1]
 cases e:s.toList with
 | nil=>exact absurd e h2
 | cons x l=>rfl
theorem kind_pos {s:ByteArray} {k:Int} (h:kindOf s=k) (hk:k ≠ 0):s.size ≠ 0:=by
 unfold kindOf at h
 split at h
 ·rename_i hh; omega
 ·exact absurd h.symm hk
theorem WrRd.pos {p:Place} {x:Wr} (h:WrRd p x):p.key.size ≠ 0:=by
 rcases h with h | h | h
 ·exact kind_pos h.1 (by omega)
 ·exact kind_pos h.1 (by omega)
 ·exact kind_pos h.1 (by omega)
theorem last_lt {ks:List Place} {k:Nat} (hp:ks.Pairwise placeLt) (hk:k < ks.length) (h0:ks[k].key.size ≠ 0):placeLt (lastAt ks k) ks[k]:=by
 cases k with
 | zero=>rw [lastAt_zero]; exact Or.inl (empty_lt h0)
 | succ j=>
  rw [lastAt_succ (by omega)]
  exact (List.pairwise_iff_getElem.1 hp) j (j + 1) (by omega) hk (by omega)
theorem wrs_drop (mm:Place → Option Wr) {ks:List Place} {k:Nat} (hk:k < ks.length):wrsT mm (ks.drop k)=wrT ks[k] ((mm ks[k]).getD noWr) ++ wrsT mm (ks.drop (k + 1)):=by
 unfold wrsT
 rw [List.drop_eq_getElem_cons hk,List.flatMap_cons]
theorem Gr.below {w W:World} (h:Gr w W):Below w.heap.size w W:=by
 obtain ⟨q,os,rfl⟩:=h
 exact Lib.below_grow _ _ (Nat.le_refl _) _ _
def EndsM (w:World) (rb n:Nat) (t:ByteArray) (m:Bool) (a':Nat) (u:List UInt8) (mm:Place → Option Wr) (e:Ending) (w':World):Prop:=
 Touch (fun q=>q=rb) w w' ∧ ((∃ b,e=.returned (.map (some b)) ∧ w.heap.size ≤ b ∧ MapIn w' 129 b 16 Place.val Wr.val mm ∧ RdIn w' rb n t a' ∧ Rem m (t.data.toList.drop a') u) ∨ (m=false ∧ e=fault))
structure MRead (w:World) (rb n:Nat) (t:ByteArray) (m:Bool) (a':Nat) (u:List UInt8) (mm:Place → Option Wr) (p:Place) (k:Nat) (wr:World):Prop where
 rd:RdIn wr rb n t a'
 rem:Rem m (t.data.toList.drop a') u
 tch:Touch (fun q=>q=rb) w wr
 map:MapIn wr 129 w.heap.size k Place.val Wr.val mm
 last:Blk wr (w.heap.size + 1) [.string p.key,.string p.el] 129
theorem MRead.step {w:World} {rb n:Nat} {t:ByteArray} {m:Bool} {a' a2:Nat} {u u2:List UInt8} {mm:Place → Option Wr} {p:Place} {k:Nat} {wr w2:World} (h:MRead w rb n t m a' u mm p k wr) (hrb:rb < w.heap.size) (T:Touch (fun q=>q=rb) wr w2) (r:RdIn w2 rb n t a2) (q:Rem m (t.data.toList.drop a2) u2):MRead w rb n t m a2 u2 mm p k w2:=
 ⟨r,q,h.tch.then T,h.map.move (T.block _ h.map.lt (by omega)),h.last.touch T (by omega)⟩
theorem MRead.later {w:World} {rb n:Nat} {t:ByteArray} {m:Bool} {a':Nat} {u:List UInt8} {mm:Place → Option Wr} {p:Place} {k:Nat} {wr w2:World} (h:MRead w rb n t m a' u mm p k wr) (hb:Below wr.heap.size wr w2):MRead w rb n t m a' u mm p k w2:=
 ⟨h.rd.later hb,h.rem,h.tch.then (Touch.ofBelow hb),h.map.move (hb.block _ h.map.lt),h.last.below hb⟩
set_option maxRecDepth 100000 in
set_option maxHeartbeats 8000000 in
theorem writes_at (w:World) (rb n:Nat) (t:ByteArray) (a:Nat) (mm:Place → Option Wr) (ks:List Place) (m:Bool) (u:List UInt8) (h:RdIn w rb n t a) (hk:KeysOf mm ks) (hpw:ks.Pairwise placeLt) (h1:1 ≤ ks.length) (h16:ks.length ≤ 16) (hr:∀ p x,mm p=some x → WrRd p x) (hx:Rem m (t.data.toList.drop a) (numT ks.length ++ (wrsT mm ks ++ u))) (ht:Tabs w) :
  Calls Tryz.prog 205 #[bptr rb] w (EndsM w rb n t m (a + (numT ks.length).length + (wrsT mm ks).length) u mm):=by
 have hrb:=h.blk.lt
 have hmm:=@run_makeMap Tryz.prog
 generalize hW0:(w.alloc (.map #[] 0)).alloc (.cells #[.string ⟨#[]⟩,.string ⟨#[]⟩] 129)=W0
 have hB0:Below w.heap.size w W0:=by rw [← hW0]; exact ((Below.refl _ _).alloc (Nat.le_refl _) _).alloc (by simp) _
 have H0:Hid (MRead w rb n t m a (numT ks.length ++ (wrsT mm ks ++ u)) (mapTo mm (ks.take 0)) (lastAt ks 0) 0 W0):=by
  refine ⟨h.later hB0,hx,Touch.ofBelow hB0,?_,?_⟩
  ·rw [← hW0]
   have e:mapTo mm (ks.take 0)=fun _=>none:=by funext q; simp [mapTo]
   rw [e]
   exact (MapIn.made w 129 Place.val Wr.val).move (Below.heap_alloc _ _ _ (by simp))
  ·rw [lastAt_zero,← hW0,show w.heap.size + 1=(w.alloc (.map #[] 0)).heap.size by simp]
   exact heap_alloc_new _ _
 have HN:=hide (number_at W0 rb n t a 1 16 ks.length m _ H0.out.rd H0.out.rem (by omega) (by omega) (by omega) (by omega) (ht.later hB0))
 have HH:=hide h
 have HW0:=hide hW0
 have HT:=hide ht
 have HK:=hide (⟨hk,hpw,hr⟩:_ ∧ _ ∧ _)
 clear h hx hW0 hB0 ht hk hpw hr
 go_enter Tryz.func205,Tryz.ntmps205
 go_wp2_with (go_at_call 161; rw [HW0.out]; refine HN.out.mono ?_; rintro e w2 ⟨T2,⟨rfl,h2,r2⟩ | ⟨hm,rfl⟩⟩ <;> refine Hid.out ?_)
 all_goals refine Lib.hid ?_
 rotate_left
 ·exact ⟨rfl,H0.out.tch.then T2,Or.inr ⟨by first | exact hm | rfl,rfl⟩⟩
 have H2:=hide (H0.out.step hrb T2 h2 r2)
 clear T2 h2 r2 HN HW0 H0
 have hz2:w.heap.size + 1 < w2.heap.size:=H2.out.last.lt
 go_upto_region 4 with (fail)
 go_loopw [5,6,10] (fun _ _ ii wr=>∃ k:Nat,k ≤ ks.length ∧ ii=.int .i64 k ∧ Hid (MRead w rb n t m (a + (numT ks.length).length + (wrsT mm (ks.take k)).length) (wrsT mm (ks.drop k) ++ u) (mapTo mm (ks.take k)) (lastAt ks k) k wr)) (fun _ _ ii _=>ks.length - (intOf ii).toNat)
 case atStart=>exact ⟨0,Nat.zero_le _,rfl,by simpa [wrsT] using H2⟩
 case round=>
  clear H2
  obtain ⟨k,hk,rfl,HS⟩:=hrel
  by_cases hlt:k < ks.length
  ·have hsome:=(HK.out.1.2 ks[k]).1 (List.getElem_mem hlt)
   obtain ⟨x,hx⟩:=Option.isSome_iff_exists.1 hsome
   have hrd:=HK.out.2.2 _ _ hx
   have hll:=last_lt HK.out.2.1 hlt hrd.pos
   have hrem:=HS.out.rem
   have e0:=wrs_drop mm hlt
   rw [hx,Option.getD_some] at e0
   rw [e0,List.append_assoc] at hrem
   have es:=wrs_step mm hlt
   rw [hx,Option.getD_some] at es
   have HWr:=hide (write_at wr rb n t _ ks[k] x m _ HS.out.rd hrd hrem (HH.out.tabs HT.out HS.out.tch))
   have HQ:=hide (⟨hx,hrd,es,mapTo_step mm hlt hx,lastAt_succ hlt⟩:_ ∧ _ ∧ _ ∧ _ ∧ _)
   obtain ⟨la,hla⟩:∃ la,lastAt ks k=la:=⟨_,rfl⟩
   rw [hla] at HS hll
   clear hx hrd hrem e0 es hla hsome
   generalize ks[k]=p at *
   obtain ⟨pk,pe⟩:=p
   obtain ⟨lk,le⟩:=la
   simp only [Place.val] at HWr
   go_wp2_with (go_at_call 224; refine HWr.out.mono ?_; rintro e w3 ⟨T3,⟨rfl,h3,r3⟩ | ⟨hm,rfl⟩⟩ <;> refine Hid.out ?_)
   all_goals refine Lib.hid ?_
   rotate_left
   ·exact ⟨rfl,HS.out.tch.then T3,Or.inr ⟨by first | exact hm | rfl,rfl⟩⟩
   have H3:=hide (HS.out.step hrb T3 h3 r3)
   have hz3:w.heap.size + 1 < w3.heap.size:=H3.out.last.lt
   clear T3 h3 r3 HWr HS
   go_upto_region 6 with (fail)
   generalize hW4:(w3.alloc (.cells #[.string pk,.string pe] 129)).alloc (.cells #[.int .i64 x.kind,.int .i64 x.amount,.string x.value] 132)=W4
   have hB4:Below w3.heap.size w3 W4:=by rw [← hW4]; exact ((Below.refl _ _).alloc (Nat.le_refl _) _).alloc (by simp) _
   have p4:Blk W4 w3.heap.size [.string pk,.string pe] 129:=by rw [← hW4]; exact Blk.alloc (heap_alloc_new w3 _) _
   have x4:Blk W4 (w3.heap.size + 1) [.int .i64 x.kind,.int .i64 x.amount,.string x.value] 132:=by
    rw [← hW4,show w3.heap.size + 1=(w3.alloc (.cells #[.string pk,.string pe] 129)).heap.size by simp]
    exact heap_alloc_new _ _
   have H4:=hide (H3.out.later hB4)
   have l0:W4.cell? ⟨w.heap.size + 1,0,none⟩=some (.string lk):=H4.out.last.cell 0
   have l1:W4.cell? ⟨w.heap.size + 1,1,none⟩=some (.string le):=H4.out.last.cell 1
   have m0:W4.cell? ⟨w3.heap.size,0,none⟩=some (.string pk):=p4.cell 0
   have m1:W4.cell? ⟨w3.heap.size,1,none⟩=some (.string pe):=p4.cell 1
   have HP4:=hide (⟨p4,x4⟩:_ ∧ _)
   have hcmp:=(cmpPlace_neg ⟨lk,le⟩ ⟨pk,pe⟩).2 hll
   have hio:=text_inorder ⟨lk,le⟩ ⟨pk,pe⟩ W4
   simp only [Place.val] at hio
   generalize cmpPlace ⟨lk,le⟩ ⟨pk,pe⟩=cc at *
   have HIO:=hide hio
   clear hW4 hB4 p4 x4 H3 hll hio
   go_wp2_with (first | (go_at_call 165; refine HIO.out.mono ?_; rintro e w5 ⟨rfl,hG5⟩; have HG5:=hide hG5; clear hG5) | (go_at_call 159; refine (demand_t _ rfl).mono ?_; rintro e w6 ⟨rfl,rfl⟩; refine Hid.out ?_))
   refine Lib.hid ?_
   have hB6:=HG5.out.below
   have H6:=hide (H4.out.later hB6)
   have p6:=HP4.out.1.below hB6
   have x6:=HP4.out.2.below hB6
   have m0:w6.cell? ⟨w3.heap.size,0,none⟩=some (.string pk):=p6.cell 0
   have m1:w6.cell? ⟨w3.heap.size,1,none⟩=some (.string pe):=p6.cell 1
   have n0:w6.cell? ⟨w3.heap.size + 1,0,none⟩=some (.int .i64 x.kind):=x6.cell 0
   have n1:w6.cell? ⟨w3.heap.size + 1,1,none⟩=some (.int .i64 x.amount):=x6.cell 1
   have n2:w6.cell? ⟨w3.heap.size + 1,2,none⟩=some (.string x.value):=x6.cell 2
   obtain ⟨kl,hkl⟩:=HQ.out.2.1.fit.ok.lit
   obtain ⟨w7,hrun7,hmap7,hg7⟩:=H6.out.map.store place_keyed Tryz.underlying120 place_inj (by unfold maxLen; omega) hkl x
   simp only [Place.val] at hrun7
   have p7:Blk w7 w3.heap.size [.string pk,.string pe] 129:=p6.move (hg7.block _ p6.lt (fun e=>by have:=Option.some.inj e; omega))
   have q0:w7.cell? ⟨w3.heap.size,0,none⟩=some (.string pk):=p7.cell 0
   have q1:w7.cell? ⟨w3.heap.size,1,none⟩=some (.string pe):=p7.cell 1
   have l7:Blk w7 (w.heap.size + 1) [.string lk,.string le] 129:=H6.out.last.move (hg7.block _ H6.out.last.lt (fun e=>by have:=Option.some.inj e; omega))
   have v0:w7.cell? ⟨w.heap.size + 1,0,none⟩=some (.string lk):=l7.cell 0
   have v1:w7.cell? ⟨w.heap.size + 1,1,none⟩=some (.string le):=l7.cell 1
   have f0:w7.frozen? ⟨w.heap.size + 1,0,none⟩=false:=l7.frozen 0
   have f1:w7.frozen? ⟨w.heap.size + 1,1,none⟩=false:=l7.frozen 1
   have hrb6:=H6.out.rd.blk.lt
   have HR:Hid (MRead w rb n t m (a + (numT ks.length).length + (wrsT mm (ks.take (k + 1))).length) (wrsT mm (ks.drop (k + 1)) ++ u) (mapTo mm (ks.take (k + 1))) (lastAt ks (k + 1)) (k + 1) ((w7.setCell ⟨w.heap.size + 1,0,none⟩ (.string pk)).setCell ⟨w.heap.size + 1,1,none⟩ (.string pe))):=by
    have e1:a + (numT ks.length).length + (wrsT mm (ks.take (k + 1))).length=a + (numT ks.length).length + (wrsT mm (ks.take k)).length + (wrT ⟨pk,pe⟩ x).length:=by rw [HQ.out.2.2.1,List.length_append]; omega
    rw [e1,HQ.out.2.2.2.2,← HQ.out.2.2.2.1]
    have hT7:Touch (fun q=>q=rb) w w7:=⟨hg7.os.trans H6.out.tch.os,hg7.tape.trans H6.out.tch.tape,hg7.output.trans H6.out.tch.output,Nat.le_trans H6.out.tch.size hg7.size,fun q hq hne=>(hg7.block q (Nat.lt_of_lt_of_le hq H6.out.tch.size) (fun e=>by have:=Option.some.inj e; omega)).trans (H6.out.tch.block q hq hne)⟩
    have n5:rb ≠ w.heap.size + 1:=by omega
    have r0:=(H6.out.rd.blk.move (w':=w7) (hg7.block _ hrb6 (fun e=>by have:=Option.some.inj e; omega))).other (p:=⟨w.heap.size + 1,0,none⟩) n5 (.string pk)
    have r1:=r0.other (p:=⟨w.heap.size + 1,1,none⟩) n5 (.string pe)
    have t0:=hT7.setCell (p:=⟨w.heap.size + 1,0,none⟩) (Or.inr (Nat.le_succ _)) (.string pk)
    have t1:=t0.setCell (p:=⟨w.heap.size + 1,1,none⟩) (Or.inr (Nat.le_succ _)) (.string pe)
    have n6:w.heap.size ≠ w.heap.size + 1:=by omega
    have g0:=hmap7.move (Below.heap_setCell w7 ⟨w.heap.size + 1,0,none⟩ (.string pk) w.heap.size n6)
    have g1:=g0.move (Below.heap_setCell _ ⟨w.heap.size + 1,1,none⟩ (.string pe) w.heap.size n6)
    have b0:=l7.set 0 (.string pk)
    have b1:=b0.set 1 (.string pe)
    exact ⟨⟨r1,H6.out.rd.le,H6.out.rd.sm,H6.out.rd.gl⟩,H6.out.rem,t1,g1,b1⟩
   clear hB6 p6 x6 p7 l7 hmap7 hg7 HG5 HP4 H4 H6 l0 l1 HIO hkl
   go_wp2_with fail
   exact ⟨⟨k + 1,by omega,by go_num,HR.out⟩,by simp [intOf]; omega⟩
  ·have hkn:k=ks.length:=by omega
   subst hkn
   rw [List.take_length,List.drop_length,mapTo_all HK.out.1] at HS
   go_wp2_with fail
   go_ret
   exact ⟨HS.out.tch,Or.inl ⟨_,rfl,Nat.le_refl _,HS.out.map.mono h16,HS.out.rd,by simpa [wrsT] using HS.out.rem⟩⟩
end Go.Proofs.YtiplgdkpnhamaaaGreatDoor
