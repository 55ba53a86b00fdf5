/- The texts U21, joined. -/
import Derived.Test.YtiplgdkpnhamaaaGreatDoorE34
import Derived.Shelf.AbstractIn
import Derived.RangeFuncSeq
import Derived.RangeFuncWrites
import Derived.Sort.MapsRangeIn
import Derived.OwnWalkIn
import Derived.TacticsInMore
import Derived.RegionIn
import Derived.LoopIn
namespace Go.Proofs.YtiplgdkpnhamaaaGreatDoor
open Go.RowKit
theorem RngIn.of_walks {α β:Type} {w w':World} {k:TypeId} {b n r cnt:Nat} {kv:α → Value} {ev:β → Value} {m:α → Option β} {left:α → Bool} (h:RngIn w k b r n kv ev m left cnt) (hk:KeepsWalks w w'):RngIn w' k b r n kv ev m left cnt:=by
 obtain ⟨D,L,hr,rest⟩:=h.ex
 exact ⟨D,L,hr.of_walks hk,rest⟩
theorem RngIn.iter_walk {α β:Type} {w:World} {k:TypeId} {b n r cnt:Nat} {kv:α → Value} {ev:β → Value} {m:α → Option β} {left:α → Bool} (h:RngIn w k b r n kv ev m left cnt):∃ o:Obj,w.heap[r]? = some o ∧ o.isWalk=true:=by
 obtain ⟨D,L,hr,-⟩:=h.ex
 exact hr.iter_walk
structure Came (m:Place → Option Wr) (left:Place → Bool) (ks:List Place):Prop where
 nd:ks.Nodup
 mem:∀ p,p ∈ ks ↔ (m p).isSome ∧ left p=false
 lf:∀ p,left p=true → (m p).isSome
theorem Came.step {m:Place → Option Wr} {left:Place → Bool} {ks:List Place} (h:Came m left ks) {a:Place} (ha:left a=true):Came m (fun a'=>left a' && !decide (a'=a)) (ks ++ [a]):=by
 refine ⟨?_,fun p=>?_,fun p hp=>h.lf p (by simp only [Bool.and_eq_true] at hp; exact hp.1)⟩
 ·rw [List.nodup_append]
  refine ⟨h.nd,by simp,fun x hx y hy=>?_⟩
  rw [List.mem_singleton] at hy
  subst hy
  intro e
  subst e
  have:=((h.mem x).1 hx).2
  rw [ha] at this; cases this
 ·rw [List.mem_append,List.mem_singleton,h.mem p]
  constructor
  ·rintro (⟨h1,h2⟩ | rfl)
   ·exact ⟨h1,by simp [h2]⟩
   ·exact ⟨h.lf p ha,by simp⟩
  ·rintro ⟨h1,h2⟩
   by_cases c:p=a
   ·exact Or.inr c
   ·exact Or.inl ⟨h1,by simpa [c] using h2⟩
set_option maxRecDepth 100000 in
set_option maxHeartbeats 4000000 in
theorem keys_stops (n Bm b nn:Nat) (m:Place → Option Wr) (w:World) (hm0:w.cell? ⟨Bm,0,none⟩=some (.map (some b))) (hown0:MapIn w 129 b nn Place.val Wr.val m) (hOk:∀ p,(m p).isSome → p.Ok) :
  SeqStopsK Fence.wide n Tryz.prog 201 #[bptr Bm] (fun x:Place=>#[Place.val x]) KeepsWalks (fun ks=>ks.Nodup ∧ ∀ p,p ∈ ks ↔ (m p).isSome) (fun _=>True) nn w:=by
 intro l J Jx W hW hJ hJx hY h0
 have hm:W.cell? ⟨Bm,0,none⟩=some (.map (some b)):=cell_later hW hm0
 have hown:MapIn W 129 b nn Place.val Wr.val m:=hown0.move (hW.block b hown0.lt)
 obtain ⟨w0,cnt0,hrun0,hrg0,hc0,hg0,-⟩:=hown.range place_keyed Tryz.underlying120
 have h0':J [] w0:=hJ [] W w0 none h0 hg0 (fun r e=>by cases e)
 show CallsIn _ _ _ _ #[.func (.yield l) #[] #[],bptr Bm] W _
 refine callsIn_of_wp Tryz.func201 rfl trivial ?_ rfl
 simp only [Tryz.ntmps201,List.size_toArray,List.length_cons,List.length_nil,Nat.reduceAdd,Nat.reduceSub,Array.replicate_succ,Array.replicate_zero,List.push_toArray,List.append_toArray,List.nil_append,List.cons_append]
 gi_wp2
 gi_loopw [3] (fun _ wr=>∃ (left:Place → Bool) (cnt:Nat) (ks:List Place),Hid (RngIn wr 129 b W.heap.size nn Place.val Wr.val m left cnt ∧ Came m left ks ∧ J ks wr ∧ ks.length + cnt ≤ nn)) (fun _ wr=>wr.rangeLeft b W.heap.size)
 case atStart=>exact ⟨_,_,[],hrg0,⟨by simp,fun p=>by cases m p <;> simp,fun p h=>h⟩,h0',by simpa using hc0⟩
 case round=>
  obtain ⟨left,cnt,ks,HR⟩:=hrel
  rcases HR.out.1.next place_keyed place_inj 0 with ⟨-,hno,hrun⟩ | ⟨a,x,w2,cnt2,-,hla,hma,hrun,hrg2,hlt,hg2,hs2,hen⟩
  ·have HN:Hid (∀ p,p ∈ ks ↔ (m p).isSome):=fun p=>by
    rw [HR.out.2.1.mem p]
    refine ⟨fun h=>h.1,fun h=>⟨h,?_⟩⟩
    obtain ⟨kl,hkl⟩:=(hOk p h).lit
    exact hno p kl hkl
   gi_wp2
   go_end0
   exact ⟨⟨_,rfl⟩,Or.inl ⟨ks,⟨HR.out.2.1.nd,HN.out⟩,HR.out.2.2.1⟩⟩
  ·have hJ2:J ks w2:=hJ ks wr w2 (some W.heap.size) HR.out.2.2.1 hg2 (fun r e=>by cases e; exact ⟨Nat.le_refl _,HR.out.1.iter_walk⟩)
   obtain ⟨px,py⟩:=a
   have hJ3:J ks (w2.alloc (.cells #[.string px,.string py] 129)):=hJ ks w2 _ none hJ2 (World.grownBy_alloc _ _ _) (fun r e=>by cases e)
   have hfew:=HR.out.2.2.2
   obtain ⟨fn,tmps,assign,body,hy,hR⟩:=hY ks ⟨px,py⟩ _ hJ3 (by omega)
   simp only [Place.val] at hrun hen hy
   have HRR:=hide hR
   have HG:Hid (RngIn (w2.alloc (.cells #[.string px,.string py] 129)) 129 b W.heap.size nn Place.val Wr.val m (fun a'=>left a' && !decide (a'=⟨px,py⟩)) cnt2):=
    hrg2.move (Below.heap_alloc w2 _ _ hrg2.map.lt) (Below.heap_alloc w2 _ _ hrg2.lt)
   have HC:=hide (HR.out.2.1.step hla)
   have hcnt:=HR.out.1.left_eq
   have HL:=hide (⟨hlt,hcnt,hfew⟩:_ ∧ _ ∧ _)
   clear hR hrg2 hlt hcnt hs2 hg2 hJ2 hJ3 hma hla hfew
   gi_wp2
   refine ⟨fun h=>by simp [Fence.wide] at h,HRR.out.mono ?_⟩
   rintro e W3 (⟨rfl,hJ4,hk3⟩ | ⟨rfl,hx4⟩)
   ·gi_wp2
    have hrg3:=HG.out.of_walks hk3
    go_roundw
    case rel=>exact ⟨_,cnt2,ks ++ [⟨px,py⟩],hrg3,HC.out,hJ4,by have:=HL.out.1; have:=HL.out.2.2; simp; omega⟩
    case measure=>rw [hrg3.left_eq,HL.out.2.1]; exact HL.out.1
   ·gi_wp2
    exact bodyPost_ret (v:=.tuple #[]) (by simp [results,Tryz.results201,go_sem]) rfl ⟨⟨_,rfl⟩,Or.inr ⟨_,trivial,hx4⟩⟩
end Go.Proofs.YtiplgdkpnhamaaaGreatDoor
