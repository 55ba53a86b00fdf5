/- The texts V2, C2, D0, X3, V9, X6, V10, V11, V12, X5, X4, Z1, joined. -/
import Derived.Test.YtiplgdkpnhamaaaGreatDoorE06
import Derived.Test.YtiplgdkpnhamaaaGreatDoorE08
import Derived.Test.YtiplgdkpnhamaaaGreatDoorE01
import Derived.Deep.RegionWith
import Derived.Deep.DeepCutAuto
import Derived.Maps.AppendAt
namespace Go.Proofs.YtiplgdkpnhamaaaGreatDoor
open Go.RowKit
inductive Own where
 | rep:Own
 | sto:Own
 | mv:Own
 | mc:Own
 | me:Own
 | row:Place → Own
 | set:ByteArray → Own
 | opens:Own
 | snap:Nat → Own
 | kept:Nat → Own
 | tx:Nat → Own
 | own:Nat → Own
 | held:Nat → Own
 | other:Own
def stoTag:Own → Prop
 | .sto | .mv | .mc | .me | .row _ | .set _ | .opens | .snap _ | .kept _=>True
 | _=>False
abbrev Dot.cells (d:Dot):List Value:=[.int .i64 d.rep,.int .i64 d.seq]
abbrev VName.cells (x:VName):List Value:=[.string x.at_.key,.string x.at_.el,.int .i64 x.dot.rep,.int .i64 x.dot.seq]
abbrev Vec.cells (v:Vec):List Value:=[.int .i64 v.a,.int .i64 v.b,.int .i64 v.c,.int .i64 v.d,.int .i64 v.e]
abbrev setVal:ByteArray → Value:=Value.string
abbrev unitVal:Unit → Value:=fun _=>.agg #[]
abbrev mapVal:Nat → Value:=fun b=>.map (some b)
abbrev idVal:Value → Value:=fun v=>v
abbrev bptr (b:Nat):Value:=.pointer (some ⟨b,0,none⟩)
abbrev nilSlice:Value:=.slice none 0 0
def elsOf (els:ByteArray → ByteArray → Bool) (k:ByteArray):ByteArray → Option Unit:=fun e=>if els k e then some () else none
structure StP (w:World) (o:Nat → Own) (sb vb cb eb:Nat) (ov:Value) (cv:Place → Option Value) (ev:ByteArray → Option Nat) (kv:Nat → Value) (n:Nat) (st:St):Prop where
 blk:Qb w o .sto sb [.int .i64 st.vis.a,.int .i64 st.vis.b,.int .i64 st.vis.c,.int .i64 st.vis.d,.int .i64 st.vis.e,.map (some vb),.map (some cb),.map (some eb),ov] 183
 vers:MapIn w 233 vb n VName.val Ver.val st.vers
 versT:o vb=.mv
 came:MapIn w 129 cb n Place.val idVal cv
 cameT:o cb=.mc
 rowN:∀ p,cv p=none → st.came p=[]
 row:∀ p v,cv p=some v → Qc w o (.row p) 62 2 v (st.came p).length ((st.came p).flatMap Dot.cells)
 els:MapIn w 9 eb n setVal mapVal ev
 elsT:o eb=.me
 setN:∀ k,ev k=none → ∀ e,st.els k e=false
 setT:∀ k b,ev k=some b → o b=.set k
 set:∀ k b,ev k=some b → MapIn w 9 b n setVal unitVal (elsOf st.els k)
 opens:Qc w o .opens 117 1 ov st.snaps.length (st.snaps.map fun s=>bptr s.blk)
 snap:∀ s,s ∈ st.snaps → Qb w o (.snap s.blk) s.blk [bptr sb,.int .i64 s.saw.a,.int .i64 s.saw.b,.int .i64 s.saw.c,.int .i64 s.saw.d,.int .i64 s.saw.e,kv s.blk] 186
 kept:∀ s,s ∈ st.snaps → Qc w o (.kept s.blk) 233 4 (kv s.blk) s.kept.length (s.kept.flatMap VName.cells)
 elsOk:∀ k e,st.els k e=true → e.size ≤ maxLen
def StIn (w:World) (o:Nat → Own) (sb n:Nat) (st:St):Prop:=∃ vb cb eb ov cv ev kv,StP w o sb vb cb eb ov cv ev kv n st
section
variable {w w':World} {o o':Nat → Own} {sb vb cb eb n:Nat} {ov:Value} {cv:Place → Option Value} {ev:ByteArray → Option Nat} {kv:Nat → Value} {st:St}
theorem MapIn.movet {α β:Type} {k:TypeId} {b n:Nat} {fk:α → Value} {fe:β → Value} {m:α → Option β} {A:Own → Prop} (h:MapIn w k b n fk fe m) (k':QT A w o w' o') (hA:¬ A (o b)):MapIn w' k b n fk fe m:=h.move (k'.touch.block b h.lt hA)
theorem MapIn.movem {α β:Type} {k:TypeId} {b n:Nat} {fk:α → Value} {fe:β → Value} {m:α → Option β} {A:Own → Prop} {t:Own} (h:MapIn w k b n fk fe m) (ht:o b=t) (hA:A t) (hm:∀ q,q < w.heap.size → A (o q) → w'.heap[q]? = w.heap[q]? ∧ o' q=o q):MapIn w' k b n fk fe m ∧ o' b=t:=by
 have:=hm b h.lt (by rw [ht]; exact hA)
 exact ⟨h.move this.1,this.2.trans ht⟩
theorem StP.move (h:StP w o sb vb cb eb ov cv ev kv n st) (hm:∀ q,q < w.heap.size → stoTag (o q) → w'.heap[q]? = w.heap[q]? ∧ o' q=o q):StP w' o' sb vb cb eb ov cv ev kv n st:=by
 have f:∀ t,stoTag t → ∀ q,q < w.heap.size → o q=t → w'.heap[q]? = w.heap[q]? ∧ o' q=t:=fun t ht q hq e=>by
  have:=hm q hq (by rw [e]; exact ht)
  exact ⟨this.1,this.2.trans e⟩
 obtain ⟨m1,t1⟩:=h.vers.movem h.versT (A:=stoTag) trivial hm
 obtain ⟨m2,t2⟩:=h.came.movem h.cameT (A:=stoTag) trivial hm
 obtain ⟨m3,t3⟩:=h.els.movem h.elsT (A:=stoTag) trivial hm
 exact ⟨h.blk.move2 (f _ trivial),m1,t1,m2,t2,h.rowN,fun p v e=>(h.row p v e).move2 (f _ trivial),m3,t3,h.setN,fun k b e=>((h.set k b e).movem (h.setT k b e) (A:=stoTag) trivial hm).2,fun k b e=>((h.set k b e).movem (h.setT k b e) (A:=stoTag) trivial hm).1,
  h.opens.move2 (f _ trivial),fun s hs=>(h.snap s hs).move2 (f _ trivial),fun s hs=>(h.kept s hs).move2 (f _ trivial),h.elsOk⟩
theorem StP.touch {A:Own → Prop} (h:StP w o sb vb cb eb ov cv ev kv n st) (k:QT A w o w' o') (hA:∀ t,stoTag t → ¬ A t):StP w' o' sb vb cb eb ov cv ev kv n st:=
 h.move fun q hq e=>⟨k.touch.block q hq (hA _ e),k.same q hq⟩
theorem StP.below (h:StP w o sb vb cb eb ov cv ev kv n st) (hB:Below w.heap.size w w'):StP w' o sb vb cb eb ov cv ev kv n st:=
 h.move fun q hq _=>⟨hB.block q hq,rfl⟩
theorem StP.mono {n':Nat} (h:StP w o sb vb cb eb ov cv ev kv n st) (hn:n ≤ n'):StP w o sb vb cb eb ov cv ev kv n' st:=
 ⟨h.blk,h.vers.mono hn,h.versT,h.came.mono hn,h.cameT,h.rowN,h.row,h.els.mono hn,h.elsT,h.setN,h.setT,fun k b e=>(h.set k b e).mono hn,h.opens,h.snap,h.kept,h.elsOk⟩
def cvAt (cv:Place → Option Value) (p:Place):Value:=(cv p).getD nilSlice
theorem StP.rowAt (h:StP w o sb vb cb eb ov cv ev kv n st) (p:Place):Qc w o (.row p) 62 2 (cvAt cv p) (st.came p).length ((st.came p).flatMap Dot.cells):=by
 unfold cvAt
 cases e:cv p with
 | none=>
  rw [h.rowN p e]
  exact ⟨⟨by simp,.inl ⟨rfl,rfl⟩⟩,fun q hq=>by simp [Value.ownBlock] at hq⟩
 | some v=>exact h.row p v e
theorem StP.setVers {vers':VName → Option Ver} (h:StP w o sb vb cb eb ov cv ev kv n st) (k:QT (·=.mv) w o w' o') (hM:MapIn w' 233 vb n VName.val Ver.val vers'):StP w' o' sb vb cb eb ov cv ev kv n { st with vers:=vers' }:=
 ⟨h.blk.touch k (by simp),hM,(k.same _ h.vers.lt).trans h.versT,h.came.movet k (by rw [h.cameT]; simp),(k.same _ h.came.lt).trans h.cameT,h.rowN,fun p v e=>(h.row p v e).touch k (by simp),h.els.movet k (by rw [h.elsT]; simp),(k.same _ h.els.lt).trans h.elsT,h.setN,
  fun x b e=>(k.same _ (h.set x b e).lt).trans (h.setT x b e),fun x b e=>(h.set x b e).movet k (by rw [h.setT x b e]; simp),h.opens.touch k (by simp),fun s hs=>(h.snap s hs).touch k (by simp),fun s hs=>(h.kept s hs).touch k (by simp),h.elsOk⟩
end
end Go.Proofs.YtiplgdkpnhamaaaGreatDoor
namespace Go.Proofs.YtiplgdkpnhamaaaGreatDoor
open Go.RowKit
theorem zeroVer (w:World):(zeroValue 239).run Tryz.prog w=.ok noVer.val w:=by kernel_rfl
theorem ver_look {w:World} {mb n:Nat} {vers:VName → Option Ver} {x:VName} (hM:MapIn w 233 mb n VName.val Ver.val vers) (hx:x.Ok) {W:World} (hW:W.heap[mb]? = w.heap[mb]?) :
  (Instr.lookup 178 (.map (some mb)) (.agg #[.string x.at_.key,.string x.at_.el,.int .i64 x.dot.rep,.int .i64 x.dot.seq]) false).run Tryz.prog W=.ok (verAt vers x).val W:=by
 obtain ⟨kl,hk⟩:=hx.lit
 have a:=(hM.move hW).lookup (t:=178) name_keyed Tryz.underlying178 (zeroVer W) hk
 have e:(vers x).elim noVer.val Ver.val=(verAt vers x).val:=by unfold verAt; cases vers x <;> rfl
 rw [e] at a
 exact a
set_option maxRecDepth 100000 in
set_option maxHeartbeats 4000000 in
theorem reads_any (w:World) (nb sb mb n:Nat) (saw:Vec) (kept:Value) (x:VName) (vers:VName → Option Ver) (hN:Blk w nb [.pointer (some ⟨sb,0,none⟩),.int .i64 saw.a,.int .i64 saw.b,.int .i64 saw.c,.int .i64 saw.d,.int .i64 saw.e,kept] 186)
  (hS:w.cell? ⟨sb,5,none⟩=some (.map (some mb))) (hM:MapIn w 233 mb n VName.val Ver.val vers) (hx:x.Ok) (hw:∀ v,vers x=some v → 0 ≤ v.went.rep ∧ v.went.rep < 5) :
  Calls Tryz.prog 176 #[.pointer (some ⟨nb,0,none⟩),x.val] w fun e w'=>e=.returned (.bool (readsB saw vers x)) ∧ Below w.heap.size w w':=by
 have hml:=hM.lt
 have hnl:=hN.lt
 have hsl:=World.block_lt_of_cell? w _ hS
 have hs1:(w.alloc (.cells #[.string x.at_.key,.string x.at_.el,.int .i64 x.dot.rep,.int .i64 x.dot.seq] 233)).heap.size=w.heap.size + 1:=by simp
 have hB1:Below w.heap.size w (w.alloc (.cells #[.string x.at_.key,.string x.at_.el,.int .i64 x.dot.rep,.int .i64 x.dot.seq] 233)):=(Below.refl _ _).alloc (Nat.le_refl _) _
 have HL:Hid (∀ W,Below w.heap.size w W → (Instr.lookup 178 (.map (some mb)) (.agg #[.string x.at_.key,.string x.at_.el,.int .i64 x.dot.rep,.int .i64 x.dot.seq]) false).run Tryz.prog W=.ok (verAt vers x).val W):=fun W hB=>ver_look hM hx (hB.block mb hml)
 have HW:Hid (0 ≤ (verAt vers x).went.rep ∧ (verAt vers x).went.rep < 5):=by
  unfold Hid verAt
  cases hv:vers x with
  | none=>exact ⟨by simp [noVer],by simp [noVer]⟩
  | some v=>exact hw v hv
 have n0:w.cell? ⟨nb,0,none⟩=some (.pointer (some ⟨sb,0,none⟩)):=hN.cell 0
 have n1:w.cell? ⟨nb,1,none⟩=some (.int .i64 saw.a):=hN.cell 1
 have n2:w.cell? ⟨nb,2,none⟩=some (.int .i64 saw.b):=hN.cell 2
 have n3:w.cell? ⟨nb,3,none⟩=some (.int .i64 saw.c):=hN.cell 3
 have n4:w.cell? ⟨nb,4,none⟩=some (.int .i64 saw.d):=hN.cell 4
 have n5:w.cell? ⟨nb,5,none⟩=some (.int .i64 saw.e):=hN.cell 5
 have HX:Hid (0 ≤ x.dot.rep ∧ x.dot.rep < 5):=⟨hx.dot.r0,hx.dot.r5⟩
 unfold readsB
 generalize verAt vers x=v at *
 obtain ⟨⟨px,py⟩,⟨dr,dsq⟩⟩:=x
 simp only [VName.val] at *
 clear hN hM hx hw
 obtain ⟨b1,hb1⟩:∃ b,saw.covers ⟨dr,dsq⟩=b:=⟨_,rfl⟩
 obtain ⟨b2,hb2⟩:∃ b,saw.covers v.went=b:=⟨_,rfl⟩
 obtain ⟨b3,hb3⟩:∃ b,v.stands=b:=⟨_,rfl⟩
 rw [hb1,hb2,hb3]
 have l1:=HL.out _ hB1
 have l2:=HL.out _ (hB1.alloc hB1.size (.cells #[.int .i64 0,.int .i64 0,.int .i64 0,.string ⟨#[]⟩] 239))
 have l1d:=HL.out _ hB1.drew
 have l2d:=HL.out _ (hB1.alloc hB1.size (.cells #[.int .i64 0,.int .i64 0,.int .i64 0,.string ⟨#[]⟩] 239)).drew
 clear HL
 go_enter Tryz.func176,Tryz.ntmps176
 go_upto_region 1 with (fail)
 go_cut [5] (fun p wc=>∃ vb,p=.pointer (some ⟨vb,0,none⟩) ∧ Hid (Blk wc vb [.int .i64 v.went.rep,.int .i64 v.went.seq,.int .i64 v.sum,.string v.value] 239 ∧ Below (w.heap.size + 1) (w.alloc (.cells #[.string px,.string py,.int .i64 dr,.int .i64 dsq] 233)) wc))
 case first=>
  go_region
  all_goals go_wp2_with fail
  all_goals go_meet
  all_goals
   refine ⟨_,rfl,?_,((Below.refl _ _).alloc (by omega) _).drew⟩
   have a:=heap_alloc_new (w.alloc (.cells #[.string px,.string py,.int .i64 dr,.int .i64 dsq] 233)) (.cells #[.int .i64 v.went.rep,.int .i64 v.went.seq,.int .i64 v.sum,.string v.value] 239)
   rw [hs1] at a
   exact a
 case rest=>
  obtain ⟨vb,rfl,hcc⟩:=hcut
  have hBw:Below w.heap.size w wc:=hB1.trans (hcc.out.2.mono (by omega))
  have HBw:=hide hBw
  have m1:=Bel.cell (cell_later hBw n1)
  have m2:=Bel.cell (cell_later hBw n2)
  have m3:=Bel.cell (cell_later hBw n3)
  have m4:=Bel.cell (cell_later hBw n4)
  have m5:=Bel.cell (cell_later hBw n5)
  have v0:wc.cell? ⟨vb,0,none⟩=some (.int .i64 v.went.rep):=hcc.out.1.cell 0
  have v1:wc.cell? ⟨vb,1,none⟩=some (.int .i64 v.went.seq):=hcc.out.1.cell 1
  have v2:wc.cell? ⟨vb,2,none⟩=some (.int .i64 v.sum):=hcc.out.1.cell 2
  have v3:wc.cell? ⟨vb,3,none⟩=some (.string v.value):=hcc.out.1.cell 3
  have u0:=Bel.cell v0
  have u1:=Bel.cell v1
  have u2:=Bel.cell v2
  have u3:=Bel.cell v3
  have d2:wc.cell? ⟨w.heap.size,2,none⟩=some (.int .i64 dr):=by rw [hcc.out.2.cell (p:=⟨w.heap.size,2,none⟩) (by show w.heap.size < w.heap.size + 1; omega)]; simp
  have d3:wc.cell? ⟨w.heap.size,3,none⟩=some (.int .i64 dsq):=by rw [hcc.out.2.cell (p:=⟨w.heap.size,3,none⟩) (by show w.heap.size < w.heap.size + 1; omega)]; simp
  have e2:=Bel.cell d2
  have e3:=Bel.cell d3
  clear v0 v1 v2 v3 d2 d3 hBw hcc n0 n1 n2 n3 n4 n5 l1 l2 l1d l2d hS hml hnl hsl hs1 hB1
  have c1:∀ f:Fam (Bel wc),Calls Tryz.prog 169 #[saw.val,.agg #[.int .i64 dr,.int .i64 dsq]] f.w fun e w''=>e=.returned (.bool (saw.covers ⟨dr,dsq⟩)) ∧ ∃ g:Fam (Bel wc),w''=g.w:=fun f=>Bel.call f (covers_any f.w saw ⟨dr,dsq⟩ HX.out.1 HX.out.2)
  have c2:∀ f:Fam (Bel wc),Calls Tryz.prog 169 #[saw.val,.agg #[.int .i64 v.went.rep,.int .i64 v.went.seq]] f.w fun e w''=>e=.returned (.bool (saw.covers v.went)) ∧ ∃ g:Fam (Bel wc),w''=g.w:=fun f=>Bel.call f (covers_any f.w saw v.went HW.out.1 HW.out.2)
  have c3:∀ f:Fam (Bel wc),Calls Tryz.prog 180 #[v.val] f.w fun e w''=>e=.returned (.bool v.stands) ∧ ∃ g:Fam (Bel wc),w''=g.w:=fun f=>Bel.call f (stands_any f.w v)
  rw [hb1] at c1
  rw [hb2] at c2
  rw [hb3] at c3
  clear hb1 hb2 hb3
  have HC:=hide c1
  have HD:=hide c2
  have HE:=hide c3
  clear c1 c2 c3
  go_wp2_with fail
  cases b1 <;> cases b2 <;> cases b3
  all_goals
   refine region_fam (Bel wc) (by kernel_rfl) (by kernel_rfl) (Below.refl _ _).drew ?_
   repeat (go_big_quiet_step (first | (go_at_call 180; exact HE.out _) | (go_at_call_of 169 (Value.agg #[Value.int .i64 dr,Value.int .i64 dsq]); exact HC.out _) | (go_at_call_of 169 (Value.agg #[Value.int .i64 v.went.rep,Value.int .i64 v.went.seq]); exact HD.out _)))
   refine wpQuiet_nil ?_
   intro _ hw'
   obtain ⟨fq,rfl⟩:=hw'
   go_wp2_with fail
   go_ret
   exact ⟨rfl,HBw.out.trans (fq.ok.mono HBw.out.size)⟩
end Go.Proofs.YtiplgdkpnhamaaaGreatDoor
namespace Go.Proofs.YtiplgdkpnhamaaaGreatDoor
open Go.RowKit
theorem cell_blk {w w':World} {b j:Nat} {v:Value} (h:w'.heap[b]? = w.heap[b]?) (c:w.cell? ⟨b,j,none⟩=some v):w'.cell? ⟨b,j,none⟩=some v:=(World.cell?_of_block (w:=w) (a:=⟨b,j,none⟩) h).trans c
theorem Blk.first (w:World) (cs:List Value) (t:TypeId) (o:Obj):Blk ((w.alloc (.cells cs.toArray t)).alloc o) w.heap.size cs t:=Blk.alloc (heap_alloc_new w _) _
theorem Blk.second (w:World) (o:Obj) (cs:List Value) (t:TypeId):Blk ((w.alloc o).alloc (.cells cs.toArray t)) (w.heap.size + 1) cs t:=by
 have a:=heap_alloc_new (w.alloc o) (.cells cs.toArray t)
 rw [show (w.alloc o).heap.size=w.heap.size + 1 by simp] at a
 exact a
section
variable {w w':World} {o o':Nat → Own} {sb vb cb eb n:Nat} {ov:Value} {cv:Place → Option Value} {ev:ByteArray → Option Nat} {kv:Nat → Value} {st:St}
theorem QT.ofGrown {A:Own → Prop} {b:Nat} (hg:w.grownBy w' (some b)) (hb:A (o b)):QT A w o w' o:=
 ⟨(Touch.ofGrown hg).mono fun k _ e=>by injection e with e; rw [e]; exact hb,fun _ _=>rfl⟩
theorem QT.ofBelow {A:Own → Prop} (hb:Below w.heap.size w w'):QT A w o w' o:=⟨Touch.ofBelow hb,fun _ _=>rfl⟩
theorem StP.setRow {p:Place} {v:Value} {l:List Dot} {cv':Place → Option Value} (h:StP w o sb vb cb eb ov cv ev kv n st) (k:QT (fun t=>t=.mc ∨ t=.row p) w o w' o') (hM:MapIn w' 129 cb n Place.val idVal cv') (hc:∀ q,q ≠ p → cv' q=cv q) (hs:cv' p=some v)
  (hR:Qc w' o' (.row p) 62 2 v l.length (l.flatMap Dot.cells)):StP w' o' sb vb cb eb ov cv' ev kv n { st with came:=setCame st.came p l }:=by
 refine ⟨h.blk.touch k (by simp),h.vers.movet k (by rw [h.versT]; simp),(k.same _ h.vers.lt).trans h.versT,hM,(k.same _ h.came.lt).trans h.cameT,fun q hq=>?_,fun q u hq=>?_,h.els.movet k (by rw [h.elsT]; simp),(k.same _ h.els.lt).trans h.elsT,h.setN,
  fun x b e=>(k.same _ (h.set x b e).lt).trans (h.setT x b e),fun x b e=>(h.set x b e).movet k (by rw [h.setT x b e]; simp),h.opens.touch k (by simp),fun s hs=>(h.snap s hs).touch k (by simp),fun s hs=>(h.kept s hs).touch k (by simp),h.elsOk⟩
 ·by_cases c:q=p
  ·subst c; rw [hs] at hq; cases hq
  ·show setCame st.came p l q=[]
   rw [setCame_other c]; exact h.rowN q (by rw [← hc q c]; exact hq)
 ·show Qc w' o' (.row q) _ 2 u (setCame st.came p l q).length ((setCame st.came p l q).flatMap Dot.cells)
  by_cases c:q=p
  ·subst c; rw [hs] at hq; cases hq; rw [setCame_same]; exact hR
  ·rw [setCame_other c]
   exact (h.row q u (by rw [← hc q c]; exact hq)).touch k (by simp [c])
theorem StP.cutRow {p:Place} {cv':Place → Option Value} (h:StP w o sb vb cb eb ov cv ev kv n st) (k:QT (fun t=>t=.mc ∨ t=.row p) w o w' o') (hM:MapIn w' 129 cb n Place.val idVal cv') (hc:∀ q,q ≠ p → cv' q=cv q) (hs:cv' p=none):StP w' o' sb vb cb eb ov cv' ev kv n { st with came:=setCame st.came p [] }:=by
 refine ⟨h.blk.touch k (by simp),h.vers.movet k (by rw [h.versT]; simp),(k.same _ h.vers.lt).trans h.versT,hM,(k.same _ h.came.lt).trans h.cameT,fun q hq=>?_,fun q u hq=>?_,h.els.movet k (by rw [h.elsT]; simp),(k.same _ h.els.lt).trans h.elsT,h.setN,
  fun x b e=>(k.same _ (h.set x b e).lt).trans (h.setT x b e),fun x b e=>(h.set x b e).movet k (by rw [h.setT x b e]; simp),h.opens.touch k (by simp),fun s hs=>(h.snap s hs).touch k (by simp),fun s hs=>(h.kept s hs).touch k (by simp),h.elsOk⟩
 ·by_cases c:q=p
  ·subst c; exact setCame_same _ _ _
  ·show setCame st.came p [] q=[]
   rw [setCame_other c]; exact h.rowN q (by rw [← hc q c]; exact hq)
 ·show Qc w' o' (.row q) _ 2 u (setCame st.came p [] q).length ((setCame st.came p [] q).flatMap Dot.cells)
  by_cases c:q=p
  ·subst c; rw [hs] at hq; cases hq
  ·rw [setCame_other c]
   exact (h.row q u (by rw [← hc q c]; exact hq)).touch k (by simp [c])
theorem StP.setSet {p:Place} {b:Nat} {x:Bool} (h:StP w o sb vb cb eb ov cv ev kv n st) (k:QT (·=.set p.key) w o w' o') (hb:ev p.key=some b) (hpe:p.el.size ≤ maxLen) (hM:MapIn w' 9 b n setVal unitVal (fun e=>if e=p.el then (if x then some () else none) else elsOf st.els p.key e)):StP w' o' sb vb cb eb ov cv ev kv n { st with els:=setEls st.els p x }:=by
 refine ⟨h.blk.touch k (by simp),h.vers.movet k (by rw [h.versT]; simp),(k.same _ h.vers.lt).trans h.versT,h.came.movet k (by rw [h.cameT]; simp),(k.same _ h.came.lt).trans h.cameT,h.rowN,fun q u hq=>(h.row q u hq).touch k (by simp),h.els.movet k (by rw [h.elsT]; simp),(k.same _ h.els.lt).trans h.elsT,fun key hk e=>?_,
  fun x b e=>(k.same _ (h.set x b e).lt).trans (h.setT x b e),fun key c hk=>?_,h.opens.touch k (by simp),fun s hs=>(h.snap s hs).touch k (by simp),fun s hs=>(h.kept s hs).touch k (by simp),fun key e he=>?_⟩
 ·show setEls st.els p x key e=false
  unfold setEls
  rw [if_neg]
  ·exact h.setN key hk e
  ·rintro ⟨rfl,-⟩; rw [hb] at hk; cases hk
 ·by_cases c':key=p.key
  ·subst c'
   rw [hb] at hk; cases hk
   have e:elsOf (setEls st.els p x) p.key=fun e=>if e=p.el then (if x then some () else none) else elsOf st.els p.key e:=by
    funext e
    unfold elsOf setEls
    by_cases c:e=p.el <;> simp [c]
   show MapIn w' _ b n setVal unitVal (elsOf (setEls st.els p x) p.key)
   rw [e]; exact hM
  ·have e:elsOf (setEls st.els p x) key=elsOf st.els key:=by
    funext e
    unfold elsOf setEls
    simp [c']
   show MapIn w' _ c n setVal unitVal (elsOf (setEls st.els p x) key)
   rw [e]
   refine (h.set key c hk).movet k ?_
   rw [h.setT key c hk]; simp [c']
 ·have he':setEls st.els p x key e=true:=he
  unfold setEls at he'
  split at he'
  ·rename_i c; rw [c.2]; exact hpe
  ·exact h.elsOk key e he'
theorem StP.newSet {key:ByteArray} {b:Nat} {ev':ByteArray → Option Nat} (h:StP w o sb vb cb eb ov cv ev kv n st) (k:QT (·=.me) w o w' o') (hM:MapIn w' 9 eb n setVal mapVal ev') (hc:∀ q,q ≠ key → ev' q=ev q) (hn:ev key=none) (hs:ev' key=some b) (hT:o' b=.set key) (hB:MapIn w' 9 b n setVal unitVal (fun _=>none)):StP w' o' sb vb cb eb ov cv ev' kv n st:=by
 refine ⟨h.blk.touch k (by simp),h.vers.movet k (by rw [h.versT]; simp),(k.same _ h.vers.lt).trans h.versT,h.came.movet k (by rw [h.cameT]; simp),(k.same _ h.came.lt).trans h.cameT,h.rowN,fun q u hq=>(h.row q u hq).touch k (by simp),hM,(k.same _ h.els.lt).trans h.elsT,fun q hq e=>?_,fun q c hq=>?_,fun q c hq=>?_,h.opens.touch k (by simp),fun s hs=>(h.snap s hs).touch k (by simp),fun s hs=>(h.kept s hs).touch k (by simp),h.elsOk⟩
 ·by_cases c:q=key
  ·subst c; rw [hs] at hq; cases hq
  ·exact h.setN q (by rw [← hc q c]; exact hq) e
 ·by_cases c':q=key
  ·subst c'; rw [hs] at hq; cases hq; exact hT
  ·rw [hc q c'] at hq; exact (k.same _ (h.set q c hq).lt).trans (h.setT q c hq)
 ·by_cases c':q=key
  ·subst c'; rw [hs] at hq; cases hq
   have e:elsOf st.els q=fun _=>none:=by
    funext e; unfold elsOf; rw [h.setN q hn e]; rfl
   rw [e]; exact hB
  ·rw [hc q c'] at hq
   exact (h.set q c hq).movet k (by rw [h.setT q c hq]; simp)
theorem StP.cutSet {key:ByteArray} {ev':ByteArray → Option Nat} (h:StP w o sb vb cb eb ov cv ev kv n st) (k:QT (·=.me) w o w' o') (hM:MapIn w' 9 eb n setVal mapVal ev') (hc:∀ q,q ≠ key → ev' q=ev q) (hs:ev' key=none) (he:∀ e,st.els key e=false):StP w' o' sb vb cb eb ov cv ev' kv n st:=by
 refine ⟨h.blk.touch k (by simp),h.vers.movet k (by rw [h.versT]; simp),(k.same _ h.vers.lt).trans h.versT,h.came.movet k (by rw [h.cameT]; simp),(k.same _ h.came.lt).trans h.cameT,h.rowN,fun q u hq=>(h.row q u hq).touch k (by simp),hM,(k.same _ h.els.lt).trans h.elsT,fun q hq e=>?_,fun q c hq=>?_,fun q c hq=>?_,h.opens.touch k (by simp),fun s hs=>(h.snap s hs).touch k (by simp),fun s hs=>(h.kept s hs).touch k (by simp),h.elsOk⟩
 ·by_cases c:q=key
  ·subst c; exact he e
  ·exact h.setN q (by rw [← hc q c]; exact hq) e
 ·by_cases c':q=key
  ·subst c'; rw [hs] at hq; cases hq
  ·rw [hc q c'] at hq; exact (k.same _ (h.set q c hq).lt).trans (h.setT q c hq)
 ·by_cases c':q=key
  ·subst c'; rw [hs] at hq; cases hq
  ·rw [hc q c'] at hq
   exact (h.set q c hq).movet k (by rw [h.setT q c hq]; simp)
theorem StP.ne_vc (h:StP w o sb vb cb eb ov cv ev kv n st):vb ≠ cb:=fun e=>by have:=h.versT; rw [e,h.cameT] at this; cases this
theorem StP.ne_cs (h:StP w o sb vb cb eb ov cv ev kv n st):cb ≠ sb:=fun e=>by have:=h.cameT; rw [e,h.blk.tag] at this; cases this
theorem came_look (h:StP w o sb vb cb eb ov cv ev kv n st) {p:Place} (hp:p.Ok) {W:World} (hW:W.heap[cb]? = w.heap[cb]?):(Instr.lookup 179 (.map (some cb)) (.agg #[.string p.key,.string p.el]) false).run Tryz.prog W=.ok (cvAt cv p) W:=by
 obtain ⟨kl,hk⟩:=hp.lit
 have a:=(h.came.move hW).lookup (t:=179) place_keyed Tryz.underlying179 (z:=nilSlice) (by kernel_rfl) hk
 have e:(cv p).elim nilSlice idVal=cvAt cv p:=by unfold cvAt; cases cv p <;> rfl
 rw [e] at a
 exact a
end
end Go.Proofs.YtiplgdkpnhamaaaGreatDoor
namespace Go.Proofs.YtiplgdkpnhamaaaGreatDoor
open Go.RowKit
set_option maxRecDepth 100000 in
set_option maxHeartbeats 2000000 in
theorem idxf_dots (w:World) (v:Value) (l:List Dot) (hrow:Row w 62 2 v l.length (l.flatMap Dot.cells)) (g:Nat) (lb:Array Value) (p:Dot → Bool) (eg:∀ args w,(callFunc g args).run Tryz.prog w=.ok (.enter g args) w)
  (hcl:∀ W,Below w.heap.size w W → ∀ d:Dot,d ∈ l → Calls Tryz.prog g (#[Dot.val d] ++ lb) W fun e w'=>e=.returned (.bool (p d)) ∧ Below W.heap.size W w') :
  Calls Tryz.prog 225 #[v,.func (.func g) #[] lb] w fun e w'=>e=.returned (.int .i64 (idxP p l)) ∧ Below w.heap.size w w':=by
 obtain ⟨ao,cap,rfl,hcap,hm,hcell⟩:=hrow.shape
 unfold maxLen at hm
 have HC:=hide hcl
 have HL:=hide hcell
 clear hrow hcl hcell
 go_enter Tryz.func225,Tryz.ntmps225
 go_wp2_with fail
 go_loopw [8] (fun i wr=>∃ k:Nat,k ≤ l.length ∧ i=.int .i64 k ∧ Hid (∀ j (hj:j < l.length),j < k → p l[j]=false) ∧ Below w.heap.size w wr) (fun i _=>l.length - (intOf i).toNat)
 case atStart=>exact ⟨0,Nat.zero_le _,rfl,fun j _ h=>absurd h (Nat.not_lt_zero _),Below.refl _ _⟩
 case round=>
  obtain ⟨k,hk,rfl,hno,hB⟩:=hrel
  by_cases hlk:k < l.length
  ·obtain ⟨g0,e0,h0⟩:=HL.out (k * 2 + 0) (by omega)
   obtain ⟨g1,e1,h1⟩:=HL.out (k * 2 + 1) (by omega)
   subst e0
   cases e1
   rw [flat_get _ 2 (fun _=>rfl) _ _ _ hlk (by omega)] at h0 h1
   simp only [Dot.cells,List.getElem?_cons_zero,List.getElem?_cons_succ,Nat.add_zero] at h0 h1
   have c0:=cell_later hB h0
   have c1:=cell_later hB h1
   clear h0 h1
   have hcall:=HC.out wr hB l[k] (List.getElem_mem hlk)
   obtain ⟨d,hd⟩:∃ d,l[k]=d:=⟨_,rfl⟩
   have HD:=hide hd
   rw [hd] at hcall c0 c1
   clear hd
   cases hp:p d
   ·rw [hp] at hcall
    have HCALL:=hide hcall
    have HP:=hide hp
    clear hcall hp
    go_wp2_with fail
    refine HCALL.out.mono ?_
    rintro e w1 ⟨rfl,hB1⟩
    go_wp2_with fail
    exact ⟨⟨k + 1,by omega,by go_num,fun j hj hjk=>by
     by_cases c:j=k
     ·subst c; rw [HD.out]; exact HP.out
     ·exact hno.out j hj (by omega),hB.trans (hB1.mono hB.size)⟩,by simp [intOf]; omega⟩
   ·rw [hp] at hcall
    have HCALL:=hide hcall
    have HP:=hide hp
    clear hcall hp
    go_wp2_with fail
    refine HCALL.out.mono ?_
    rintro e w1 ⟨rfl,hB1⟩
    go_wp2_with fail
    go_ret
    exact ⟨ret_int (idxP_some hlk (by rw [HD.out]; exact HP.out) hno.out).symm,hB.trans (hB1.mono hB.size)⟩
  ·go_wp2_with fail
   go_ret
   exact ⟨ret_int (idxP_none fun j hj=>hno.out j hj (by omega)).symm,hB⟩
set_option maxRecDepth 100000 in
set_option maxHeartbeats 4000000 in
theorem delf_dots (w:World) (v:Value) (l:List Dot) (hrow:Row w 62 2 v l.length (l.flatMap Dot.cells)) (g:Nat) (lb:Array Value) (p:Dot → Bool) (eg:∀ args w,(callFunc g args).run Tryz.prog w=.ok (.enter g args) w)
  (hcl:∀ W,Touch (fun q=>v.ownBlock=some q) w W → ∀ d:Dot,d ∈ l → Calls Tryz.prog g (#[Dot.val d] ++ lb) W fun e w'=>e=.returned (.bool (p d)) ∧ Below W.heap.size W w') :
  Calls Tryz.prog 206 #[v,.func (.func g) #[] lb] w fun e w'=>∃ v',e=.returned v' ∧ Row w' 62 2 v' (l.filter fun x=>!p x).length ((l.filter fun x=>!p x).flatMap Dot.cells) ∧ v'.ownBlock=v.ownBlock ∧ Touch (fun q=>v.ownBlock=some q) w w':=by
 have hI:=idxf_dots w v l hrow g lb p eg (fun W hB=>hcl W (Touch.ofBelow hB))
 rcases idxP_cases p l with ⟨e1,e2⟩ | ⟨k0,hk0,e1,hp0,e2⟩
 ·rw [e1] at hI
  have HI:=hide hI
  have HR:=hide hrow
  clear hI hcl hrow
  go_enter Tryz.func206,Tryz.ntmps206
  go_wp2_with fail
  refine HI.out.mono ?_
  rintro e w1 ⟨rfl,hB1⟩
  go_wp2_with fail
  go_ret
  refine ⟨v,rfl,?_,rfl,Touch.ofBelow hB1⟩
  rw [e2]
  exact Row.below HR.out hB1
 ·rw [e1] at hI
  obtain ⟨g0,cap,rfl,hcap,hm,hg0,-,-⟩:=hrow.pos (by omega)
  unfold maxLen at hm
  have hne1:((k0:Int) == -1)=false:=beq_eq_false_iff_ne.2 (by omega)
  have HS:=hide (Str.start hk0 hp0 e2)
  have HI:=hide hI
  have HR:=hide hrow
  have HC:=hide hcl
  clear hI hcl hrow e1 e2 hp0
  go_enter Tryz.func206,Tryz.ntmps206
  go_wp2_with fail
  refine HI.out.mono ?_
  rintro e w1 ⟨rfl,hB1⟩
  go_wp2_with fail
  go_loopw [5,6] (fun i j wr=>∃ (ii jj:Nat) (xs:List Dot),jj ≤ l.length ∧ ii < jj ∧ i=.int .i64 ii ∧ j=.int .i64 jj ∧ Hid (Str p l xs ii jj ∧ Row wr 62 2 (.slice (some ⟨g0,0,none⟩) l.length cap) l.length (xs.flatMap Dot.cells) ∧ Touch (fun q=>(Value.slice (some ⟨g0,0,none⟩) l.length cap).ownBlock=some q) w wr)) (fun _ j _=>l.length - (intOf j).toNat)
  case atStart=>exact ⟨k0,k0 + 1,l,by omega,by omega,rfl,by go_num,HS.out,Row.below HR.out hB1,Touch.ofBelow hB1⟩
  case round=>
   obtain ⟨ii,jj,xs,hjl,hij,rfl,rfl,hst⟩:=hrel
   have hlen:=hst.out.1.len
   by_cases hlj:jj < l.length
   ·obtain ⟨_,_,e,-,-,hgl,hcell,hfro⟩:=Row.pos hst.out.2.1 (by omega)
    cases e
    have c0:=hcell (jj * 2 + 0) (by omega)
    have c1:=hcell (jj * 2 + 1) (by omega)
    rw [flat_get _ 2 (fun _=>rfl) _ _ _ (by omega) (by omega)] at c0 c1
    have hx:=hst.out.1.high jj hlj (Nat.le_refl _)
    rw [List.getElem?_eq_getElem (by omega)] at hx
    rw [Option.some.inj hx] at c0 c1
    simp only [Dot.cells,List.getElem?_cons_zero,List.getElem?_cons_succ,Nat.add_zero] at c0 c1
    clear hcell hfro hx
    obtain ⟨d,hd⟩:∃ d,l[jj]=d:=⟨_,rfl⟩
    have HD:=hide hd
    rw [hd] at c0 c1
    clear hd
    have HCALL:=hide (HC.out (wr.alloc (.cells #[.int .i64 d.rep,.int .i64 d.seq] 62)) (hst.out.2.2.alloc _) d (by rw [← HD.out]; exact List.getElem_mem hlj))
    cases hp:p d
    ·unfold Hid at HCALL
     rw [hp] at HCALL
     have HP:=hide hp
     have HCA:=hide HCALL
     clear hp HCALL
     go_wp2_with fail
     refine HCA.out.mono ?_
     rintro e w2 ⟨rfl,hB2⟩
     have hB3:Below wr.heap.size wr w2:=((Below.refl _ _).alloc (Nat.le_refl _) _).trans (hB2.mono (by simp))
     have hR2:=Row.below hst.out.2.1 hB3
     obtain ⟨_,_,e,-,-,hgl2,hcell,hfro⟩:=Row.pos hR2 (by omega)
     cases e
     have i0:=hcell (ii * 2 + 0) (by omega)
     have i1:=hcell (ii * 2 + 1) (by omega)
     have f0:=hfro (ii * 2)
     have f1:=hfro (ii * 2 + 1)
     rw [flat_get _ 2 (fun _=>rfl) _ _ _ (by omega) (by omega)] at i0 i1
     simp only [Dot.cells,List.getElem?_cons_zero,List.getElem?_cons_succ,Nat.add_zero] at i0 i1
     have b0:w2.cell? ⟨wr.heap.size,0,none⟩=some (.int .i64 d.rep):=by rw [hB2.cell (p:=⟨wr.heap.size,0,none⟩) (by simp)]; simp
     have b1:w2.cell? ⟨wr.heap.size,1,none⟩=some (.int .i64 d.seq):=by rw [hB2.cell (p:=⟨wr.heap.size,1,none⟩) (by simp)]; simp
     have HR2:=hide hR2
     have HB3:=hide hB3
     clear hcell hfro hR2 hB3 hB2 c0 c1
     generalize xs[ii]'(by omega)=old at i0 i1
     go_wp2_with fail
     refine ⟨⟨ii + 1,jj + 1,xs.set ii d,by omega,by omega,by go_num,by go_num,?_,?_,?_⟩,by simp [intOf]; omega⟩
     ·have:=hst.out.1.keep hlj (by rw [HD.out]; exact HP.out)
      rwa [HD.out] at this
     ·have a:=(World.ownsRow.stored HR2.out (ii * 2) (.int .i64 d.rep)).1
      have b:=(World.ownsRow.stored a (ii * 2 + 1) (.int .i64 d.seq)).1
      have e1:=flat_set Dot.cells 2 (fun _=>rfl) xs ii 0 (by omega) (.int .i64 d.rep) ⟨d.rep,(xs[ii]'(by omega)).seq⟩ (by omega) rfl
      rw [Nat.add_zero] at e1
      rw [e1] at b
      rw [flat_set Dot.cells 2 (fun _=>rfl) _ ii 1 (by rw [List.length_set]; omega) (.int .i64 d.seq) d (by omega) (by rw [List.getElem_set_self]; rfl),List.set_set] at b
      exact b
     ·have a:=hst.out.2.2.then ((Touch.ofBelow HB3.out))
      exact (a.setCell (p:=⟨g0,ii * 2,none⟩) (Or.inl rfl) _).setCell (p:=⟨g0,ii * 2 + 1,none⟩) (Or.inl rfl) _
    ·unfold Hid at HCALL
     rw [hp] at HCALL
     have HP:=hide hp
     have HCA:=hide HCALL
     clear hp HCALL
     go_wp2_with fail
     refine HCA.out.mono ?_
     rintro e w2 ⟨rfl,hB2⟩
     have hB3:Below wr.heap.size wr w2:=((Below.refl _ _).alloc (Nat.le_refl _) _).trans (hB2.mono (by simp))
     clear c0 c1 hB2
     go_wp2_with fail
     exact ⟨⟨ii,jj + 1,xs,by omega,by omega,rfl,by go_num,hst.out.1.skip hlj (by rw [HD.out]; exact HP.out),Row.below hst.out.2.1 hB3,hst.out.2.2.then (Touch.ofBelow hB3)⟩,by simp [intOf]; omega⟩
   ·have hje:jj=l.length:=by omega
    subst hje
    obtain ⟨q1,q2,q3⟩:=hst.out.1.done
    obtain ⟨w4,hrun,hR4,hg4⟩:=clear_row (P:=Tryz.prog) (size:=2) (t:=241) (ty:=0) (z:=.agg #[.int .i64 0,.int .i64 0]) (i:=ii) Tryz.underlying241 (fun _=>by kernel_rfl) rfl (by intro u hu; simp [Value.cells] at hu; rcases hu with rfl | rfl <;> rfl) hst.out.2.1 q3
    have HR4:=hide hR4
    have HG4:=hide hg4
    have HQ:=hide (⟨q1,q2⟩:_ ∧ _)
    clear hR4 hg4 q1 q2
    go_wp2_with fail
    go_ret
    refine ⟨_,rfl,?_,rfl,hst.out.2.2.grown HG4.out (fun k e=>by cases e; exact Or.inl rfl)⟩
    have:=HR4.out
    rw [flat_take _ 2 (fun _=>rfl),HQ.out.1] at this
    rw [← HQ.out.2]
    exact this
end Go.Proofs.YtiplgdkpnhamaaaGreatDoor
namespace Go.Proofs.YtiplgdkpnhamaaaGreatDoor
open Go.RowKit
theorem snoc_ind {α:Type} {P:List α → Prop} (h0:P []) (h1:∀ l a,P l → P (l ++ [a])) (l:List α):P l:=by
 rw [← l.reverse_reverse]
 induction l.reverse with
 | nil=>exact h0
 | cons a l ih=>rw [List.reverse_cons]; exact h1 _ _ ih
def plOf (o:ROp):Place:=if o.kind=1 ∨ o.kind=2 then ⟨o.key,noEl⟩ else ⟨o.key,o.value⟩
def wrOf (o:ROp):Wr:=if o.kind=1 then ⟨0,o.amount,noEl⟩ else if o.kind=2 then ⟨1,0,o.value⟩ else if o.kind=3 then ⟨2,0,noEl⟩ else ⟨3,0,noEl⟩
def putM (m:Place → Option Wr) (p:Place) (x:Wr):Place → Option Wr:=fun q=>if q=p then some (putWr m p x) else m q
def ownOf (ops:List ROp):Place → Option Wr:=ops.foldl (fun m o=>putM m (plOf o) (wrOf o)) (fun _=>none)
theorem ownOf_snoc (ops:List ROp) (o:ROp):ownOf (ops ++ [o])=putM (ownOf ops) (plOf o) (wrOf o):=by simp [ownOf]
structure OpOk (o:ROp):Prop where
 kind:o.kind=1 ∨ o.kind=2 ∨ o.kind=3 ∨ o.kind=4
 key:kindOf o.key=kindByte o.kind
theorem OpOk.cnt {o:ROp} (h:OpOk o) (hk:kindOf o.key=99):o.kind=1:=by
 have:=h.key; rw [hk] at this; unfold kindByte at this; split at this
 ·assumption
 ·split at this <;> omega
theorem OpOk.reg {o:ROp} (h:OpOk o) (hk:kindOf o.key=114):o.kind=2:=by
 have:=h.key; rw [hk] at this; unfold kindByte at this; split at this
 ·omega
 ·split at this
  ·assumption
  ·omega
theorem OpOk.set {o:ROp} (h:OpOk o) (hk:kindOf o.key=115):o.kind=3 ∨ o.kind=4:=by
 have:=h.key; have hh:=h.kind; rw [hk] at this; unfold kindByte at this; split at this
 ·omega
 ·split at this
  ·omega
  ·omega
theorem lastOf_snoc (key el:ByteArray) (ops:List ROp) (o:ROp):lastOf key el (ops ++ [o])=if hits key el o=true then some o else lastOf key el ops:=by
 unfold lastOf
 rw [List.reverse_append,List.reverse_singleton,List.singleton_append,List.find?_cons]
 cases hits key el o <;> simp
theorem own_cnt {key:ByteArray} (hk:kindOf key=99) (ops:List ROp):(∀ o,o ∈ ops → OpOk o) → amt (ownOf ops ⟨key,noEl⟩)=sumOf key ops ∧ ∀ x,ownOf ops ⟨key,noEl⟩=some x → x.kind=0:=by
 induction ops using snoc_ind with
 | h0=>intro _; exact ⟨rfl,fun x hx=>by simp [ownOf] at hx⟩
 | h1 ops o ih=>
  intro h
  obtain ⟨i1,i2⟩:=ih (fun o ho=>h o (by simp [ho]))
  have ho:=h o (by simp)
  rw [ownOf_snoc,sumOf_snoc]
  unfold putM
  by_cases c:o.key=key
  ·have k1:o.kind=1:=ho.cnt (by rw [c]; exact hk)
   have hp:plOf o=⟨key,noEl⟩:=by unfold plOf; rw [if_pos (Or.inl k1),c]
   rw [hp,if_pos rfl,if_pos ⟨k1,c⟩]
   have hw:wrOf o=⟨0,o.amount,noEl⟩:=by unfold wrOf; rw [if_pos k1]
   have ha:(wrAt (ownOf ops) ⟨key,noEl⟩).amount=sumOf key ops:=by
    rw [← i1]
    unfold wrAt amt
    cases e:ownOf ops ⟨key,noEl⟩ with
    | none=>rfl
    | some x=>simp [i2 x e]
   rw [hw]
   unfold putWr
   rw [if_pos rfl]
   refine ⟨?_,fun x hx=>by cases hx; rfl⟩
   simp only [amt,if_true,ha]
   rw [Int.add_comm]
  ·have hne:¬ (⟨key,noEl⟩:Place)=plOf o:=fun e=>c (by unfold plOf at e; split at e <;> (injection e with e1; exact e1.symm))
   rw [if_neg hne,if_neg (fun e=>c e.2)]
   exact ⟨i1,i2⟩
theorem own_reg {key:ByteArray} (hk:kindOf key=114) (ops:List ROp):(∀ o,o ∈ ops → OpOk o) → ownOf ops ⟨key,noEl⟩=(lastOf key noEl ops).map fun o=>⟨1,0,o.value⟩:=by
 induction ops using snoc_ind with
 | h0=>intro _; rfl
 | h1 ops o ih=>
  intro h
  have i1:=ih (fun o ho=>h o (by simp [ho]))
  have ho:=h o (by simp)
  rw [ownOf_snoc,lastOf_snoc]
  unfold putM
  by_cases c:o.key=key
  ·have k2:o.kind=2:=ho.reg (by rw [c]; exact hk)
   have hp:plOf o=⟨key,noEl⟩:=by unfold plOf; rw [if_pos (Or.inr k2),c]
   have hh:hits key noEl o=true:=by unfold hits; simp [c,k2]
   rw [hp,if_pos rfl,if_pos hh]
   have hw:wrOf o=⟨1,0,o.value⟩:=by unfold wrOf; rw [if_neg (by omega),if_pos k2]
   rw [hw]; unfold putWr; rw [if_neg (by simp)]; rfl
  ·have hne:¬ (⟨key,noEl⟩:Place)=plOf o:=fun e=>c (by unfold plOf at e; split at e <;> (injection e with e1; exact e1.symm))
   have hh:¬ hits key noEl o=true:=by unfold hits; simp [c]
   rw [if_neg hne,if_neg hh,i1]
theorem own_set {key:ByteArray} (hk:kindOf key=115) (el:ByteArray) (ops:List ROp):(∀ o,o ∈ ops → OpOk o) → ownOf ops ⟨key,el⟩=(lastOf key el ops).map wrOf ∧ ∀ o,lastOf key el ops=some o → o.kind=3 ∨ o.kind=4:=by
 induction ops using snoc_ind with
 | h0=>intro _; exact ⟨rfl,fun o ho=>by simp [lastOf] at ho⟩
 | h1 ops o ih=>
  intro h
  obtain ⟨i1,i2⟩:=ih (fun o ho=>h o (by simp [ho]))
  have ho:=h o (by simp)
  rw [ownOf_snoc,lastOf_snoc]
  unfold putM
  by_cases c:o.key=key
  ·have k3:=ho.set (by rw [c]; exact hk)
   have hp:plOf o=⟨key,o.value⟩:=by unfold plOf; rw [if_neg (by omega),c]
   by_cases ce:o.value=el
   ·have hh:hits key el o=true:=by unfold hits; simp [c,ce]
    rw [hp,ce,if_pos rfl,if_pos hh]
    refine ⟨?_,fun o' e=>by cases e; exact k3⟩
    unfold putWr
    have:¬ (wrOf o).kind=0:=by
     unfold wrOf; rw [if_neg (by omega),if_neg (by omega)]; split <;> simp
    rw [if_neg this]; rfl
   ·have hh:¬ hits key el o=true:=by unfold hits; simp [c,ce]; omega
    rw [hp,if_neg (fun e=>ce (by injection e with _ e2; exact e2.symm)),if_neg hh]
    exact ⟨i1,i2⟩
  ·have hne:¬ (⟨key,el⟩:Place)=plOf o:=fun e=>c (by unfold plOf at e; split at e <;> (injection e with e1; exact e1.symm))
   have hh:¬ hits key el o=true:=by unfold hits; simp [c]
   rw [if_neg hne,if_neg hh]
   exact ⟨i1,i2⟩
theorem mem_elems {key el:ByteArray} {ops:List ROp} (hk:kindOf key=115) (h:∀ o,o ∈ ops → OpOk o):el ∈ elemsOf key ops ↔ (lastOf key el ops).isSome:=by
 induction ops using snoc_ind with
 | h0=>simp [elemsOf,lastOf]
 | h1 ops o ih=>
  have i1:=ih (fun o ho=>h o (by simp [ho]))
  have ho:=h o (by simp)
  rw [elemsOf_snoc,lastOf_snoc,List.mem_append,i1]
  by_cases c:o.key=key
  ·have k3:=ho.set (by rw [c]; exact hk)
   rw [if_pos c]
   by_cases ce:o.value=el
   ·have hh:hits key el o=true:=by unfold hits; simp [c,ce]
    rw [if_pos hh]; simp [ce]
   ·have hh:¬ hits key el o=true:=by unfold hits; simp [c,ce]; omega
    rw [if_neg hh]; simp [Ne.symm ce]
  ·have hh:¬ hits key el o=true:=by unfold hits; simp [c]
   rw [if_neg c,if_neg hh]; simp
def txAt (hs:List RTx) (j:Nat):RTx:=hs.getD j ⟨0,0,[],[]⟩
theorem txAt_eq {hs:List RTx} {j:Nat} (h:j < hs.length):txAt hs j=hs[j]:=by simp [txAt,h]
def histOf (hs:List RTx):Hist:=⟨fun j=>⟨(txAt hs j).rep,(txAt hs j).seq⟩,fun j p=>ownOf (txAt hs j).ops p,fun k j=>seesV (txAt hs k).saw (txAt hs j).rep (txAt hs j).seq⟩
def SawAt (hs:List RTx) (S:List Int) (T:Nat):Prop:=∀ j,j < hs.length → seesV S (txAt hs j).rep (txAt hs j).seq=decide (j < T)
theorem counter_total {hs:List RTx} {S:List Int} {T:Nat} {key:ByteArray} (hk:kindOf key=99) (hops:∀ t,t ∈ hs → ∀ o,o ∈ t.ops → OpOk o) (hS:SawAt hs S T) (hT:T ≤ hs.length):counterOf S key hs=(histOf hs).total ⟨key,noEl⟩ T:=by
 have:∀ m,m ≤ hs.length → counterOf S key (hs.take m)=(histOf hs).total ⟨key,noEl⟩ (min m T):=by
  intro m
  induction m with
  | zero=>intro _; simp [counterOf,Hist.total]
  | succ m ih=>
   intro hm
   have hml:m < hs.length:=by omega
   rw [List.take_succ_eq_append_getElem hml,counterOf_snoc,ih (by omega)]
   have hs1:=hS m hml
   rw [txAt_eq hml] at hs1
   rw [hs1]
   by_cases c:m < T
   ·rw [if_pos (by simpa using c),show min m T=m by omega,show min (m + 1) T=m + 1 by omega]
    show _=wrap64 ((histOf hs).total ⟨key,noEl⟩ m + amt (ownOf (txAt hs m).ops ⟨key,noEl⟩))
    rw [txAt_eq hml,(own_cnt hk _ (hops _ (List.getElem_mem hml))).1]
   ·rw [if_neg (by simpa using c),show min m T=T by omega,show min (m + 1) T=T by omega]
 have h:=this hs.length (Nat.le_refl _)
 rw [List.take_length,show min hs.length T=T by omega] at h
 exact h
def dotLt (a b:Dot):Prop:=a.rep < b.rep ∨ (a.rep=b.rep ∧ a.seq < b.seq)
theorem dotLt_irr (a:Dot):¬ dotLt a a:=by unfold dotLt; omega
theorem dotLt_trans {a b c:Dot} (h:dotLt a b) (k:dotLt b c):dotLt a c:=by unfold dotLt at *; omega
theorem dots_ext:∀ {l m:List Dot},l.Pairwise dotLt → m.Pairwise dotLt → (∀ a,a ∈ l ↔ a ∈ m) → l=m
 | [],[],_,_,_=>rfl
 | [],b :: m,_,_,h=>by have:=(h b).2 (by simp); simp at this
 | a :: l,[],_,_,h=>by have:=(h a).1 (by simp); simp at this
 | a :: l,b :: m,hl,hm,h=>by
  obtain ⟨ha,hl'⟩:=List.pairwise_cons.1 hl
  obtain ⟨hb,hm'⟩:=List.pairwise_cons.1 hm
  have e:a=b:=by
   rcases List.mem_cons.1 ((h a).1 (by simp)) with c | c
   ·exact c
   ·rcases List.mem_cons.1 ((h b).2 (by simp)) with c' | c'
    ·exact c'.symm
    ·exact absurd (dotLt_trans (ha b c') (hb a c)) (dotLt_irr a)
  subst e
  congr 1
  refine dots_ext hl' hm' fun x=>⟨fun hx=>?_,fun hx=>?_⟩
  ·rcases List.mem_cons.1 ((h x).1 (by simp [hx])) with c | c
   ·subst c; exact absurd (ha x hx) (dotLt_irr x)
   ·exact c
  ·rcases List.mem_cons.1 ((h x).2 (by simp [hx])) with c | c
   ·subst c; exact absurd (hb x hx) (dotLt_irr x)
   ·exact c
def dotsOf (S:List Int) (n:Nat):List Dot:=(List.range n).flatMap fun r=>(List.range (S.getD r 0).toNat).map fun (s:Nat)=>⟨(r:Int),(s:Int) + 1⟩
theorem mem_dotsOf {S:List Int} {n:Nat} {d:Dot}:d ∈ dotsOf S n ↔ ∃ r s:Nat,r < n ∧ (s:Int) + 1 ≤ S.getD r 0 ∧ d=⟨r,(s:Int) + 1⟩:=by
 unfold dotsOf
 rw [List.mem_flatMap]
 constructor
 ·rintro ⟨r,hr,hd⟩
  rw [List.mem_map] at hd
  obtain ⟨s,hs,rfl⟩:=hd
  rw [List.mem_range] at hr hs
  exact ⟨r,s,hr,by omega,rfl⟩
 ·rintro ⟨r,s,hr,hs,rfl⟩
  exact ⟨r,List.mem_range.2 hr,List.mem_map.2 ⟨s,List.mem_range.2 (by omega),rfl⟩⟩
theorem dotsOf_sorted (S:List Int):∀ n,(dotsOf S n).Pairwise dotLt
 | 0=>by simp [dotsOf]
 | n + 1=>by
  have e:dotsOf S (n + 1)=dotsOf S n ++ (List.range (S.getD n 0).toNat).map fun (s:Nat)=>⟨(n:Int),(s:Int) + 1⟩:=by simp [dotsOf,List.range_succ]
  rw [e,List.pairwise_append]
  refine ⟨dotsOf_sorted S n,?_,fun a ha b hb=>?_⟩
  ·rw [List.pairwise_map]
   exact List.Pairwise.imp (fun h=>Or.inr ⟨rfl,by simpa using h⟩) List.pairwise_lt_range
  ·obtain ⟨r,s,hr,-,rfl⟩:=mem_dotsOf.1 ha
   rw [List.mem_map] at hb
   obtain ⟨s',-,rfl⟩:=hb
   exact Or.inl (by simpa using hr)
structure HsOk (hs:List RTx):Prop where
 ops:∀ t,t ∈ hs → ∀ o,o ∈ t.ops → OpOk o
 inj:∀ j k,j < hs.length → k < hs.length → (histOf hs).dot j=(histOf hs).dot k → j=k
 back:∀ j k,j < hs.length → k < hs.length → (histOf hs).sees k j=true → j < k
 trans:∀ i j k,i < hs.length → j < hs.length → k < hs.length → (histOf hs).sees k j=true → (histOf hs).sees j i=true → (histOf hs).sees k i=true
theorem register_told {hs:List RTx} {S:List Int} {T n:Nat} {key:ByteArray} (hk:kindOf key=114) (hH:HsOk hs) (hS:SawAt hs S T) (hT:T ≤ hs.length) (hfull:∀ r s:Nat,r < n → (s:Int) + 1 ≤ S.getD r 0 → ∃ j,j < hs.length ∧ (histOf hs).dot j=⟨r,(s:Int) + 1⟩)
  (hin:∀ j,j < T → ∃ r s:Nat,r < n ∧ (histOf hs).dot j=⟨r,(s:Int) + 1⟩) {l:List Dot} (hl:l.Pairwise dotLt) (hm:∀ d,d ∈ l ↔ ∃ j,(histOf hs).cur ⟨key,noEl⟩ T j ∧ d=(histOf hs).dot j) {f:Dot → ByteArray}
  (hf:∀ j x,(histOf hs).cur ⟨key,noEl⟩ T j → (histOf hs).wr j ⟨key,noEl⟩=some x → f ((histOf hs).dot j)=x.value):l.map f=registerOf S key hs n:=by
 have hwr:∀ j,j < hs.length → (histOf hs).wr j ⟨key,noEl⟩=(lastOf key noEl (txAt hs j).ops).map fun o=>⟨1,0,o.value⟩:=fun j hj=>own_reg hk _ (hH.ops _ (by rw [txAt_eq hj]; exact List.getElem_mem hj))
 have hfind:∀ j,j < hs.length → findTx hs ((histOf hs).dot j).rep ((histOf hs).dot j).seq=txAt hs j:=fun j hj=>by
  obtain ⟨i,hi,h1,-,h3⟩:=findTx_at (ts:=hs) (r:=((histOf hs).dot j).rep) (s:=((histOf hs).dot j).seq) ⟨hs[j],List.getElem_mem hj,by simp [isDot,histOf,txAt_eq hj]⟩
  rw [h3]
  unfold isDot at h1
  rw [decide_eq_true_eq] at h1
  have:i=j:=hH.inj i j hi hj (by simp only [histOf,txAt_eq hi,Dot.mk.injEq]; simpa [histOf] using h1)
  subst this
  exact (txAt_eq hi).symm
 -- a transaction of the first T counts just if nothing that overrides it came
 have hover:∀ j,j < T → ((lastOf key noEl (txAt hs j).ops).isSome=true ∧ overOf S key (txAt hs j) hs=false ↔ (histOf hs).cur ⟨key,noEl⟩ T j):=fun j hj=>by
  have hjl:j < hs.length:=by omega
  have hiv:(histOf hs).isVer ⟨key,noEl⟩ j=true ↔ (lastOf key noEl (txAt hs j).ops).isSome=true:=by
   unfold Hist.isVer
   rw [hwr j hjl]
   cases lastOf key noEl (txAt hs j).ops <;> simp
  rw [← hiv]
  unfold Hist.cur
  constructor
  ·rintro ⟨h1,h2⟩
   refine ⟨hj,h1,Hist.wentAt_free fun k hk1 hk2=>?_⟩
   have hkl:k < hs.length:=by omega
   cases c:(histOf hs).over ⟨key,noEl⟩ k j
   ·rfl
   ·unfold Hist.over at c
    split at c
    ·cases c
    ·rename_i x hx
     have hx':=hx
     rw [hwr k hkl,Option.map_eq_some_iff] at hx'
     obtain ⟨o,ho,rfl⟩:=hx'
     rw [overOf_any,List.any_eq_false] at h2
     have h3:=h2 hs[k] (List.getElem_mem hkl)
     have e1:=hS k hkl
     rw [txAt_eq hkl] at e1 ho
     have e2:seesV hs[k].saw (txAt hs j).rep (txAt hs j).seq=true:=by simpa [histOf,txAt_eq hkl] using c
     rw [e1,e2,ho] at h3
     simp [hk2] at h3
  ·rintro ⟨_,h1,h2⟩
   refine ⟨h1,?_⟩
   rw [overOf_any,List.any_eq_false]
   intro u hu hc
   obtain ⟨k,hk1,rfl⟩:=List.mem_iff_getElem.1 hu
   simp only [Bool.and_eq_true] at hc
   obtain ⟨⟨c1,c2⟩,c3⟩:=hc
   have e1:=hS k hk1
   rw [txAt_eq hk1,c1] at e1
   have hkT:k < T:=by simpa using e1.symm
   have hsee:(histOf hs).sees k j=true:=by simp only [histOf,txAt_eq hk1]; exact c2
   have hjk:=hH.back j k hjl hk1 hsee
   have:=Hist.wentAt_none h2 k hjk hkT
   unfold Hist.over at this
   rw [hwr k hk1,txAt_eq hk1] at this
   obtain ⟨o,ho⟩:=Option.isSome_iff_exists.1 c3
   rw [ho] at this
   simp [hsee] at this
 have hlt:∀ r s:Nat,r < n → (s:Int) + 1 ≤ S.getD r 0 → ∃ j,j < T ∧ (histOf hs).dot j=⟨r,(s:Int) + 1⟩:=fun r s hr hs'=>by
  obtain ⟨j,hj,e⟩:=hfull r s hr hs'
  refine ⟨j,?_,e⟩
  have:=hS j hj
  have e':(txAt hs j).rep=r ∧ (txAt hs j).seq=(s:Int) + 1:=by simpa [histOf] using e
  rw [e'.1,e'.2] at this
  unfold seesV at this
  rw [Int.toNat_natCast,decide_eq_true hs'] at this
  simpa using this.symm
 have hreg:registerOf S key hs n=(dotsOf S n).flatMap fun d=>regAt S key hs (findTx hs d.rep d.seq):=by
  unfold registerOf dotsOf regRow
  rw [List.flatMap_assoc]
  congr 1
  funext r
  rw [List.flatMap_map]
 -- what each dot gives
 have hone:∀ d,d ∈ dotsOf S n → regAt S key hs (findTx hs d.rep d.seq)=if d ∈ l then [f d] else []:=fun d hd=>by
  obtain ⟨r,s,hr,hs',rfl⟩:=mem_dotsOf.1 hd
  obtain ⟨j,hj,e⟩:=hlt r s hr hs'
  rw [← e]
  have hjl:j < hs.length:=by omega
  rw [hfind j hjl]
  have hiff:(histOf hs).dot j ∈ l ↔ (histOf hs).cur ⟨key,noEl⟩ T j:=by
   rw [hm]
   constructor
   ·rintro ⟨i,hi,ei⟩
    have:=hH.inj j i hjl (by have:=hi.1; omega) ei
    subst this; exact hi
   ·exact fun h=>⟨j,h,rfl⟩
  unfold regAt
  cases hlast:lastOf key noEl (txAt hs j).ops with
  | none=>
   rw [if_neg]
   rw [hiff,← hover j hj,hlast]; simp
  | some o=>
   by_cases c:overOf S key (txAt hs j) hs=true
   ·rw [if_neg (by rw [hiff,← hover j hj,c]; simp)]
    simp [c]
   ·have hc:(histOf hs).cur ⟨key,noEl⟩ T j:=(hover j hj).1 ⟨by rw [hlast]; rfl,by simpa using c⟩
    rw [if_pos (hiff.2 hc),hf j ⟨1,0,o.value⟩ hc (by rw [hwr j hjl,hlast]; rfl)]
    simp [c]
 rw [hreg]
 have hflat:∀ ds:List Dot,(∀ d,d ∈ ds → regAt S key hs (findTx hs d.rep d.seq)=if d ∈ l then [f d] else []) → (ds.flatMap fun d=>regAt S key hs (findTx hs d.rep d.seq))=(ds.filter fun d=>decide (d ∈ l)).map f:=fun ds=>by
  induction ds with
  | nil=>intro _; rfl
  | cons d ds ih=>
   intro h
   rw [List.flatMap_cons,h d (by simp),ih (fun e he=>h e (by simp [he])),List.filter_cons]
   by_cases c:d ∈ l <;> simp [c]
 rw [hflat _ hone]
 congr 1
 refine dots_ext hl ((dotsOf_sorted S n).sublist List.filter_sublist) fun d=>?_
 rw [List.mem_filter,decide_eq_true_eq]
 refine ⟨fun h=>⟨?_,h⟩,fun h=>h.2⟩
 obtain ⟨j,hj,rfl⟩:=(hm d).1 h
 obtain ⟨r,s,hr,e⟩:=hin j hj.1
 rw [e]
 refine mem_dotsOf.2 ⟨r,s,hr,?_,rfl⟩
 have hj1:=hj.1
 have:=hS j (by omega)
 have e':(txAt hs j).rep=r ∧ (txAt hs j).seq=(s:Int) + 1:=by simpa [histOf] using e
 rw [e'.1,e'.2,decide_eq_true hj1] at this
 unfold seesV at this
 rw [Int.toNat_natCast] at this
 simpa using this
theorem set_told {hs:List RTx} {S:List Int} {T:Nat} {key:ByteArray} (hk:kindOf key=115) (hH:HsOk hs) (hS:SawAt hs S T) (hT:T ≤ hs.length) (a:ByteArray):a ∈ setOf S key hs ↔ ∃ j,(histOf hs).cur ⟨key,a⟩ T j:=by
 have hop:∀ j,j < hs.length → ∀ o,o ∈ (txAt hs j).ops → OpOk o:=fun j hj=>hH.ops _ (by rw [txAt_eq hj]; exact List.getElem_mem hj)
 have hwr:∀ j,j < hs.length → (histOf hs).wr j ⟨key,a⟩=(lastOf key a (txAt hs j).ops).map wrOf:=fun j hj=>(own_set hk a _ (hop j hj)).1
 have hkd:∀ j,j < hs.length → ∀ o,lastOf key a (txAt hs j).ops=some o → o.kind=3 ∨ o.kind=4:=fun j hj=>(own_set hk a _ (hop j hj)).2
 have hk3:∀ o:ROp,o.kind=3 → (wrOf o).kind=2:=fun o h=>by unfold wrOf; rw [if_neg (by omega),if_neg (by omega),if_pos h]
 have hk4:∀ o:ROp,o.kind=4 → (wrOf o).kind=3:=fun o h=>by unfold wrOf; rw [if_neg (by omega),if_neg (by omega),if_neg (by omega)]
 have hiv:∀ j,j < hs.length → ((histOf hs).isVer ⟨key,a⟩ j=true ↔ lastKind (lastOf key a (txAt hs j).ops)=3):=fun j hj=>by
  unfold Hist.isVer lastKind
  rw [hwr j hj]
  cases e:lastOf key a (txAt hs j).ops with
  | none=>simp [ROp.none]
  | some o=>
   rcases hkd j hj o e with c | c
   ·simp [hk3 o c,c]
   ·simp [hk4 o c,c]
 have hov:∀ k j,k < hs.length → ((histOf hs).over ⟨key,a⟩ k j=true ↔ (lastOf key a (txAt hs k).ops).isSome=true ∧ (histOf hs).sees k j=true):=fun k j hk'=>by
  unfold Hist.over
  rw [hwr k hk']
  cases e:lastOf key a (txAt hs k).ops with
  | none=>simp
  | some o=>
   rcases hkd k hk' o e with c | c
   ·simp [hk3 o c]
   ·simp [hk4 o c]
 -- removed by one of the first T that saw it
 have hgone:∀ j,j < hs.length → (goneOf S key a (txAt hs j) hs=true ↔ ∃ k,k < T ∧ (histOf hs).sees k j=true ∧ lastKind (lastOf key a (txAt hs k).ops)=4):=fun j hj=>by
  rw [goneOf_any,List.any_eq_true]
  constructor
  ·rintro ⟨u,hu,hc⟩
   obtain ⟨k,hk1,rfl⟩:=List.mem_iff_getElem.1 hu
   simp only [Bool.and_eq_true,decide_eq_true_eq] at hc
   obtain ⟨⟨⟨c1,c2⟩,c3⟩,c4⟩:=hc
   have e1:=hS k hk1
   rw [txAt_eq hk1,c1] at e1
   exact ⟨k,by simpa using e1.symm,by simp only [histOf,txAt_eq hk1]; exact c2,by rw [txAt_eq hk1]; exact c4⟩
  ·rintro ⟨k,hkT,hs1,hl⟩
   have hk1:k < hs.length:=by omega
   refine ⟨hs[k],List.getElem_mem hk1,?_⟩
   have e1:=hS k hk1
   rw [txAt_eq hk1] at e1 hl
   have e2:seesV hs[k].saw (txAt hs j).rep (txAt hs j).seq=true:=by simpa [histOf,txAt_eq hk1] using hs1
   rw [e1,e2]
   have e3:(lastOf key a hs[k].ops).isSome=true:=by
    unfold lastKind at hl
    cases e:lastOf key a hs[k].ops with
    | none=>rw [e] at hl; simp [ROp.none] at hl
    | some o=>rfl
   simp [hkT,e3,hl]
 have hmem:=(setTxs_spec S key hs hs [] List.Pairwise.nil).2 a
 have hmem':a ∈ setOf S key hs ↔ ∃ j,j < T ∧ lastKind (lastOf key a (txAt hs j).ops)=3 ∧ goneOf S key a (txAt hs j) hs=false:=by
  refine hmem.trans ?_
  constructor
  ·rintro (c | ⟨t,ht,c1,c2,c3,c4⟩)
   ·simp at c
   ·obtain ⟨j,hj,rfl⟩:=List.mem_iff_getElem.1 ht
    have e1:=hS j hj
    rw [txAt_eq hj,c1] at e1
    exact ⟨j,by simpa using e1.symm,by rw [txAt_eq hj]; exact c3,by rw [txAt_eq hj]; exact c4⟩
  ·rintro ⟨j,hj,c3,c4⟩
   have hjl:j < hs.length:=by omega
   rw [txAt_eq hjl] at c3 c4
   refine Or.inr ⟨hs[j],List.getElem_mem hjl,?_,?_,c3,c4⟩
   ·have e1:=hS j hjl
    rw [txAt_eq hjl] at e1
    rw [e1]; simpa using hj
   ·rw [mem_elems hk (by have:=hop j hjl; rwa [txAt_eq hjl] at this)]
    unfold lastKind at c3
    cases e:lastOf key a hs[j].ops with
    | none=>rw [e] at c3; simp [ROp.none] at c3
    | some o=>rfl
 rw [hmem']
 constructor
 ·rintro ⟨j,hj,c3,c4⟩
  have:∀ m j,T - j ≤ m → j < T → lastKind (lastOf key a (txAt hs j).ops)=3 → goneOf S key a (txAt hs j) hs=false → ∃ j,(histOf hs).cur ⟨key,a⟩ T j:=by
   intro m
   induction m with
   | zero=>intro j h1 h2; omega
   | succ m ih=>
    intro j h1 h2 h3 h4
    have hjl:j < hs.length:=by omega
    cases e:(histOf hs).wentAt ⟨key,a⟩ j T with
    | none=>exact ⟨j,h2,(hiv j hjl).2 h3,e⟩
    | some k=>
     obtain ⟨q1,q2,q3⟩:=Hist.wentAt_lt e
     have hkl:k < hs.length:=by omega
     rw [hov k j hkl] at q3
     obtain ⟨o,ho⟩:=Option.isSome_iff_exists.1 q3.1
     have hk3':lastKind (lastOf key a (txAt hs k).ops)=3:=by
      rcases hkd k hkl o ho with c | c
      ·unfold lastKind; rw [ho]; exact c
      ·have:goneOf S key a (txAt hs j) hs=true:=(hgone j hjl).2 ⟨k,q2,q3.2,by unfold lastKind; rw [ho]; exact c⟩
       rw [h4] at this; cases this
     refine ih k (by omega) q2 hk3' ?_
     cases g:goneOf S key a (txAt hs k) hs
     ·rfl
     ·obtain ⟨i,i1,i2,i3⟩:=(hgone k hkl).1 g
      have:goneOf S key a (txAt hs j) hs=true:=(hgone j hjl).2 ⟨i,i1,hH.trans j k i hjl hkl (by omega) i2 q3.2,i3⟩
      rw [h4] at this; cases this
  exact this T j (by omega) hj c3 c4
 ·rintro ⟨j,hj,hi,hw⟩
  have hjl:j < hs.length:=by omega
  refine ⟨j,hj,(hiv j hjl).1 hi,?_⟩
  cases g:goneOf S key a (txAt hs j) hs
  ·rfl
  ·obtain ⟨k,k1,k2,k3⟩:=(hgone j hjl).1 g
   have hkl:k < hs.length:=by omega
   have:=Hist.wentAt_none hw k (hH.back j k hjl hkl k2) k1
   rw [(hov k j hkl).2 ⟨by
    unfold lastKind at k3
    cases e:lastOf key a (txAt hs k).ops with
    | none=>rw [e] at k3; simp [ROp.none] at k3
    | some o=>rfl,k2⟩] at this
   cases this
end Go.Proofs.YtiplgdkpnhamaaaGreatDoor
namespace Go.Proofs.YtiplgdkpnhamaaaGreatDoor
open Go.RowKit
theorem Tryz.infoDotX:(Tryz.prog.info? 62).map (fun i=>(i.zero,i.size,i.bytes))=some (some (.agg #[.int .i64 0,.int .i64 0]),2,16):=by kernel_rfl
theorem flat_one {l:List Dot}:∀ u ∈ l.flatMap Dot.cells,u.oneCell'=true:=by
 intro u hu
 rw [List.mem_flatMap] at hu
 obtain ⟨d,-,hd⟩:=hu
 simp only [Dot.cells,List.mem_cons,List.not_mem_nil,or_false] at hd
 rcases hd with rfl | rfl <;> rfl
set_option maxRecDepth 100000 in
set_option maxHeartbeats 2000000 in
theorem clone_dots (w:World) (v:Value) (l:List Dot) (hrow:Row w 62 2 v l.length (l.flatMap Dot.cells)) (hl:l.length ≤ 1000000000) :
  Calls Tryz.prog 179 #[v] w fun e w'=>∃ v',e=.returned v' ∧ w'.ownsRow w.heap.size 62 2 v' l.length (l.flatMap Dot.cells) ∧ Below w.heap.size w w':=by
 have hnil:=fun w a n c=>Lib.run_eql_slice_nil (P:=Tryz.prog) w 241 62 a n c 0 0 Tryz.underlying241
 obtain ⟨i0,hi,hz0,hz1,hz2⟩:=info_parts Tryz.infoDotX
 rcases hrow.2 with ⟨rfl,h0⟩ | ⟨g,cap,cur,rfl,-,hg,hc,hm,hs,ht⟩
 ·have e:l=[]:=List.eq_nil_of_length_eq_zero h0
  subst e
  clear hrow
  go_enter Tryz.func179,Tryz.ntmps179
  go_wp2_with fail
  go_ret
  exact ⟨_,rfl,World.ownsRow_nil _ _ _ _,Below.refl _ _⟩
 ·have hcells:∀ j u,(l.flatMap Dot.cells)[j]? = some u → w.cell? ((⟨g,0,none⟩:Addr).add j)=some u:=World.ownsRow.cells (g:=g) hrow rfl
  have HC:=hide hcells
  have HL:=hide (flat_len Dot.cells 2 (fun _=>rfl) l)
  have HC2:Hid (∀ j u,(l.flatMap Dot.cells)[j]? = some u → (w.alloc (.cells #[] 62)).cell? ((⟨g,0,none⟩:Addr).add j)=some u):=fun j u hu=>by
   have:=hcells j u hu
   rw [Addr.add_lit] at this ⊢
   rw [World.cell?_alloc_past _ _ _ (World.block_lt_of_cell? w _ this)]; exact this
  have HE:Hid ((w.alloc (.cells #[] 62)).ownsRow w.heap.size 62 2 (.slice (some ⟨w.heap.size,0,none⟩) 0 0) 0 []):=⟨rfl,.inr ⟨w.heap.size,0,#[],rfl,Nat.le_refl _,heap_alloc_new w _,Nat.le_refl _,Nat.zero_le _,rfl,rfl⟩⟩
  clear hrow hcells
  go_enter Tryz.func179,Tryz.ntmps179
  go_wp2_with (at_builtin; refine wpList_append_own_at _ rfl _ _ 241 rfl w.heap.size 62 i0 (.agg #[.int .i64 0,.int .i64 0]) 2 16 Tryz.underlying241 hi hz0 hz1 hz2 rfl (by decide) _ 0 [] rfl HE.out ⟨g,0,none⟩ l.length cap (l.flatMap Dot.cells) rfl HL.out HC2.out flat_one (by unfold maxLen; omega) (by omega) (by simp) ?_; intro v1 w1 hown1 hgrow1 hnil1 hat1)
  go_ret
  refine ⟨v1,rfl,by simpa using hown1,((Below.refl _ _).alloc (Nat.le_refl _) _).grown hgrow1 (by simp) (fun j hj=>?_)⟩
  cases hj
  exact Nat.le_refl _
end Go.Proofs.YtiplgdkpnhamaaaGreatDoor
namespace Go.Proofs.YtiplgdkpnhamaaaGreatDoor
open Go.RowKit
theorem nodup_len {α:Type} [DecidableEq α]:∀ {l m:List α},l.Nodup → (∀ x,x ∈ l → x ∈ m) → l.length ≤ m.length
 | [],_,_,_=>Nat.zero_le _
 | a :: l,m,hn,h=>by
  obtain ⟨ha,hn'⟩:=List.nodup_cons.1 hn
  have hm:a ∈ m:=h a (by simp)
  have h1:=nodup_len (l:=l) (m:=m.erase a) hn' (fun x hx=>by
   have hne:x ≠ a:=fun e=>ha (e ▸ hx)
   exact (List.mem_erase_of_ne hne).2 (h x (by simp [hx])))
  have h2:=List.length_erase_of_mem hm
  have h3:0 < m.length:=List.length_pos_of_mem hm
  rw [List.length_cons]; omega
theorem came_bound {H:Hist} {p:Place} {M N:Nat} {st:St} (hW:st.Wf) (h:PInv H p M st) (hM:M ≤ N):(st.came p).length ≤ N:=by
 have:=nodup_len (hW.once p) (m:=(List.range N).map H.dot) (fun d hd=>by
  obtain ⟨v,hv⟩:=Option.isSome_iff_exists.1 ((hW.here p d).1 hd)
  obtain ⟨j,hj,e,-⟩:=h.b d v hv
  exact List.mem_map.2 ⟨j,List.mem_range.2 (by omega),e.symm⟩)
 simpa using this
theorem isVer_wr {H:Hist} {p:Place} {j:Nat} (h:H.isVer p j=true):(H.wr j p).isSome:=by
 unfold Hist.isVer at h
 split at h
 ·cases h
 ·rename_i x hx; rw [hx]; rfl
theorem kept_bound {H:Hist} {N:Nat} {st:St} (hk:KNod st) (h:∀ p,∃ M,M ≤ N ∧ PInv H p M st) {pl:Nat → List Place} (hl:∀ j,(pl j).length ≤ 16) (hp:∀ j p,j < N → (H.wr j p).isSome → p ∈ pl j):∀ s,s ∈ st.snaps → s.kept.length ≤ 16 * N:=fun s hs=>by
 have hlen:∀ N,((List.range N).flatMap fun j=>(pl j).map fun p=>(⟨p,H.dot j⟩:VName)).length ≤ 16 * N:=fun N=>by
  induction N with
  | zero=>simp
  | succ N ih=>
   rw [List.range_succ,List.flatMap_append,List.length_append]
   have:=hl N
   simp only [List.flatMap_cons,List.flatMap_nil,List.append_nil,List.length_map]
   omega
 refine Nat.le_trans (nodup_len ?_ ?_) (hlen N)
 ·obtain ⟨a,b,e⟩:=List.append_of_mem hs
  unfold KNod at hk
  rw [e,List.flatMap_append,List.flatMap_cons,List.nodup_append] at hk
  exact (List.nodup_append.1 hk.2.1).1
 ·intro x hx
  obtain ⟨M,hM,hP⟩:=h x.at_
  obtain ⟨j,h1,h2,h3,-⟩:=hP.e s hs x.dot hx
  exact List.mem_flatMap.2 ⟨j,List.mem_range.2 (by omega),List.mem_map.2 ⟨x.at_,hp j x.at_ (by omega) (isVer_wr h3),by rw [← h2]⟩⟩
theorem keeps_spec (key:ByteArray) (ops:List ROp):∀ (l acc:List ByteArray),Rising acc → Rising (l.foldl (keepEl key ops) acc) ∧ ∀ a,a ∈ l.foldl (keepEl key ops) acc ↔ a ∈ acc ∨ (a ∈ l ∧ ((lastOf key a ops).isSome=false ∨ lastKind (lastOf key a ops)=3))
 | [],acc,h=>⟨h,fun a=>by simp⟩
 | e :: l,acc,h=>by
  have step:Rising (keepEl key ops acc e) ∧ ∀ a,a ∈ keepEl key ops acc e ↔ a ∈ acc ∨ (a=e ∧ ((lastOf key e ops).isSome=false ∨ lastKind (lastOf key e ops)=3)):=by
   unfold keepEl
   split
   ·rename_i c
    obtain ⟨r,m⟩:=withOf_spec h e
    exact ⟨r,fun a=>(m a).trans ⟨fun q=>q.imp id fun q=>⟨q,c⟩,fun q=>q.imp id fun q=>q.1⟩⟩
   ·rename_i c
    exact ⟨h,fun a=>⟨Or.inl,fun q=>q.elim id fun q=>absurd q.2 c⟩⟩
  obtain ⟨r,m⟩:=keeps_spec key ops l _ step.1
  refine ⟨r,fun a=>?_⟩
  rw [List.foldl_cons,m,step.2,List.mem_cons]
  constructor
  ·rintro ((c | ⟨rfl,c⟩) | ⟨c1,c2⟩)
   ·exact Or.inl c
   ·exact Or.inr ⟨Or.inl rfl,c⟩
   ·exact Or.inr ⟨Or.inr c1,c2⟩
  ·rintro (c | ⟨c1 | c1,c2⟩)
   ·exact Or.inl (Or.inl c)
   ·subst c1; exact Or.inl (Or.inr ⟨rfl,c2⟩)
   ·exact Or.inr ⟨c1,c2⟩
theorem inss_spec (key:ByteArray) (ops:List ROp):∀ (l acc:List ByteArray),Rising acc → Rising (l.foldl (insEl key ops) acc) ∧ ∀ a,a ∈ l.foldl (insEl key ops) acc ↔ a ∈ acc ∨ (a ∈ l ∧ lastKind (lastOf key a ops)=3)
 | [],acc,h=>⟨h,fun a=>by simp⟩
 | e :: l,acc,h=>by
  have step:Rising (insEl key ops acc e) ∧ ∀ a,a ∈ insEl key ops acc e ↔ a ∈ acc ∨ (a=e ∧ lastKind (lastOf key e ops)=3):=by
   unfold insEl
   split
   ·rename_i c
    obtain ⟨r,m⟩:=withOf_spec h e
    exact ⟨r,fun a=>by rw [m]; simp [c]⟩
   ·rename_i c
    exact ⟨h,fun a=>by simp [c]⟩
  obtain ⟨r,m⟩:=inss_spec key ops l _ step.1
  refine ⟨r,fun a=>?_⟩
  rw [List.foldl_cons,m,step.2,List.mem_cons]
  constructor
  ·rintro ((c | ⟨rfl,c⟩) | ⟨c1,c2⟩)
   ·exact Or.inl c
   ·exact Or.inr ⟨Or.inl rfl,c⟩
   ·exact Or.inr ⟨Or.inr c1,c2⟩
  ·rintro (c | ⟨c1 | c1,c2⟩)
   ·exact Or.inl (Or.inl c)
   ·subst c1; exact Or.inl (Or.inr ⟨rfl,c2⟩)
   ·exact Or.inr ⟨c1,c2⟩
theorem readSet_eq {key:ByteArray} {ops:List ROp} {told l:List ByteArray} (hk:kindOf key=115) (hops:∀ o,o ∈ ops → OpOk o) (hl:Rising l) (hm:∀ a,a ∈ l ↔ (a ∈ told ∧ ownOf ops ⟨key,a⟩=none) ∨ ∃ x,ownOf ops ⟨key,a⟩=some x ∧ x.kind=2):l=readSet key ops told:=by
 obtain ⟨r1,m1⟩:=keeps_spec key ops told [] List.Pairwise.nil
 obtain ⟨r2,m2⟩:=inss_spec key ops (elemsOf key ops) _ r1
 refine rising_ext hl r2 fun a=>?_
 refine (hm a).trans (Iff.trans ?_ (m2 a).symm)
 rw [m1,mem_elems hk hops]
 obtain ⟨h1,h2⟩:=own_set hk a ops hops
 rw [h1]
 cases e:lastOf key a ops with
 | none=>simp [lastKind,ROp.none]
 | some o=>
  rcases h2 o e with c | c
  ·have:(wrOf o).kind=2:=by unfold wrOf; rw [if_neg (by omega),if_neg (by omega),if_pos c]
   simp [lastKind,c,this]
  ·have:(wrOf o).kind=3:=by unfold wrOf; rw [if_neg (by omega),if_neg (by omega),if_neg (by omega)]
   simp [lastKind,c,this]
end Go.Proofs.YtiplgdkpnhamaaaGreatDoor
namespace Go.Proofs.YtiplgdkpnhamaaaGreatDoor
open Go.RowKit
structure Hist.Same (H H':Hist) (N:Nat):Prop where
 dot:∀ j,j < N → H'.dot j=H.dot j
 wr:∀ j,j < N → H'.wr j=H.wr j
 sees:∀ k j,k < N → j < N → H'.sees k j=H.sees k j
section
theorem Hist.Same.total {H H':Hist} {N:Nat} (h:Hist.Same H H' N) (p:Place):∀ j,j ≤ N → H'.total p j=H.total p j
 | 0,_=>rfl
 | j + 1,hj=>by
  show wrap64 (H'.total p j + amt (H'.wr j p))=wrap64 (H.total p j + amt (H.wr j p))
  rw [Hist.Same.total h p j (by omega),h.wr j (by omega)]
theorem Hist.Same.isVer {H H':Hist} {N:Nat} (h:Hist.Same H H' N) (p:Place) {j:Nat} (hj:j < N):H'.isVer p j=H.isVer p j:=by
 unfold Hist.isVer; rw [h.wr j hj,h.total p (j + 1) (by omega)]
theorem Hist.Same.over {H H':Hist} {N:Nat} (h:Hist.Same H H' N) (p:Place) {k j:Nat} (hk:k < N) (hj:j < N):H'.over p k j=H.over p k j:=by
 unfold Hist.over; rw [h.wr k hk,h.sees k j hk hj]
theorem Hist.Same.wentAt {H H':Hist} {N:Nat} (h:Hist.Same H H' N) (p:Place) {j:Nat} (hj:j < N):∀ M,M ≤ N → H'.wentAt p j M=H.wentAt p j M
 | 0,_=>rfl
 | M + 1,hM=>by
  unfold Hist.wentAt
  rw [Hist.Same.wentAt h p hj M (by omega),h.over p (by omega) hj]
theorem Hist.Same.verOf {H H':Hist} {N:Nat} (h:Hist.Same H H' N) (p:Place) {j M:Nat} (hj:j < N) (hM:M ≤ N):H'.verOf p j M=H.verOf p j M:=by
 have hw:H'.wentDot p j M=H.wentDot p j M:=by
  unfold Hist.wentDot
  rw [h.wentAt p hj M hM]
  split
  ·rename_i k e; exact h.dot k (by have:=Hist.wentAt_lt e; omega)
  ·rfl
 unfold Hist.verOf
 rw [h.wr j hj,hw,h.total p (j + 1) (by omega)]
theorem Hist.Same.pinv {H H':Hist} {N:Nat} (h:Hist.Same H H' N) {p:Place} {st:St} (k:PInv H p N st):PInv H' p N st:=by
 refine ⟨fun d v hd=>?_,fun j hj hi hc=>?_,fun s hs d hd=>?_⟩
 ·obtain ⟨j,a,b,c,e⟩:=k.b d v hd
  exact ⟨j,a,by rw [h.dot j a]; exact b,by rw [h.isVer p a]; exact c,by rw [h.verOf p a (Nat.le_refl _)]; exact e⟩
 ·rw [h.dot j hj,h.verOf p hj (Nat.le_refl _)]
  refine k.c j hj (by rw [← h.isVer p hj]; exact hi) ?_
  rw [h.wentAt p hj N (Nat.le_refl _),h.dot j hj] at hc
  refine hc.imp id ?_
  rintro ⟨s,q,h1,h2,h3,h4⟩
  exact ⟨s,q,h1,h2,h3,by rw [← h.dot q (Hist.wentAt_lt h3).2.1]; exact h4⟩
 ·obtain ⟨j,a,b,c,e⟩:=k.e s hs d hd
  exact ⟨j,a,by rw [h.dot j a]; exact b,by rw [h.isVer p a]; exact c,by rw [h.wentAt p a N (Nat.le_refl _)]; exact e⟩
theorem Hist.Same.ginv {H H':Hist} {N:Nat} (h:Hist.Same H H' N) {isSet:Place → Prop} {st:St} (k:GInv H isSet N st):GInv H' isSet N st:=
 ⟨k.wf,fun p=>h.pinv (k.pl p),k.els,k.kn,fun j hj=>by rw [h.dot j hj]; exact k.vis j hj,fun s hs=>by
  obtain ⟨T,hT,ha⟩:=k.snaps s hs
  exact ⟨T,hT,fun j hj=>by rw [h.dot j hj]; exact ha j hj⟩⟩
end
theorem getD_out {l:List Int} {m:Nat} (h:l.length ≤ m):l.getD m 0=0:=by simp [List.getD,List.getElem?_eq_none h]
def vecOf (l:List Int):Vec:=⟨l.getD 0 0,l.getD 1 0,l.getD 2 0,l.getD 3 0,l.getD 4 0⟩
theorem vecOf_get {l:List Int} (h:l.length ≤ 5) (r:Int):(vecOf l).get r=l.getD r.toNat 0:=by
 unfold Vec.get vecOf Vec.list
 generalize r.toNat=m
 match m with
 | 0=>rfl
 | 1=>rfl
 | 2=>rfl
 | 3=>rfl
 | 4=>rfl
 | m + 5=>simp only [List.getD_cons_succ,List.getD_nil]; rw [getD_out (by omega)]
theorem vecOf_covers {l:List Int} (h:l.length ≤ 5) (d:Dot):(vecOf l).covers d=seesV l d.rep d.seq:=by
 unfold Vec.covers seesV; rw [vecOf_get h]
def setPl (p:Place):Prop:=kindOf p.key=115
theorem seq_wf {s:Int} (h0:0 ≤ s) (h1:s ≤ 3000000):(Lit.int .i64 s).wf=true:=by
 have e1:IntKind.i64.min=-9223372036854775808:=by decide
 have e2:IntKind.i64.max=9223372036854775807:=by decide
 simp only [Lit.wf,e1,e2,Bool.and_eq_true,decide_eq_true_eq]
 omega
section
end
theorem hist_same (hs:List RTx) (t:RTx):Hist.Same (histOf hs) (histOf (hs ++ [t])) hs.length:=by
 have e:∀ j,j < hs.length → txAt (hs ++ [t]) j=txAt hs j:=fun j hj=>by
  rw [txAt_eq (by simp; omega),txAt_eq hj,List.getElem_append_left hj]
 exact ⟨fun j hj=>by simp only [histOf,e j hj],fun j hj=>by simp only [histOf,e j hj],fun k j hk hj=>by simp only [histOf,e j hj,e k hk]⟩
end Go.Proofs.YtiplgdkpnhamaaaGreatDoor
namespace Go.Proofs.YtiplgdkpnhamaaaGreatDoor
open Go.RowKit
theorem own_mem {p:Place} (ops:List ROp):(ownOf ops p).isSome → p ∈ ops.map plOf:=by
 induction ops using snoc_ind with
 | h0=>intro h; cases h
 | h1 ops o ih=>
  intro h
  rw [ownOf_snoc] at h
  unfold putM at h
  rw [List.map_append,List.mem_append]
  split at h
  ·rename_i c; exact Or.inr (by simp [c])
  ·exact Or.inl (ih h)
theorem putWr_kind (m:Place → Option Wr) (p:Place) (x:Wr):(putWr m p x).kind=x.kind:=by unfold putWr; split <;> rfl
theorem own_kinds {p:Place} (ops:List ROp):(∀ o,o ∈ ops → OpOk o ∧ (¬ o.kind=1 → o.value.size ≤ maxLen)) → ∀ x,ownOf ops p=some x → ((x.kind=0 ∧ kindOf p.key=99) ∨ (x.kind=1 ∧ kindOf p.key=114) ∨ ((x.kind=2 ∨ x.kind=3) ∧ kindOf p.key=115)) ∧ p.Ok:=by
 induction ops using snoc_ind with
 | h0=>intro _ x hx; cases hx
 | h1 ops o ih=>
  intro h x hx
  rw [ownOf_snoc] at hx
  unfold putM at hx
  split at hx
  ·rename_i c
   subst c
   cases hx
   obtain ⟨ho,hv⟩:=h o (by simp)
   have hkey:=ho.key
   have hkz:kindOf o.key ≠ 0:=by
    rw [hkey]
    unfold kindByte
    split
    ·omega
    ·split <;> omega
   have hsz:o.key.size ≤ 8:=by
    by_cases c:1 ≤ o.key.size ∧ o.key.size ≤ 8
    ·exact c.2
    ·exact absurd (kindOf_long c) hkz
   have hpk:(plOf o).key=o.key:=by unfold plOf; split <;> rfl
   have hok:(plOf o).Ok:=by
    refine ⟨by rw [hpk]; unfold maxLen; omega,?_⟩
    unfold plOf
    split
    ·show (⟨#[]⟩:ByteArray).size ≤ _; exact Nat.zero_le _
    ·rename_i c; exact hv (fun e=>c (Or.inl e))
   refine ⟨?_,hok⟩
   rw [hpk,hkey]
   rw [putWr_kind]
   rcases ho.kind with k | k | k | k
   ·left; unfold wrOf; rw [if_pos k]; exact ⟨rfl,by rw [k]; rfl⟩
   ·right; left; unfold wrOf; rw [if_neg (by omega),if_pos k]; exact ⟨rfl,by rw [k]; rfl⟩
   ·right; right; unfold wrOf; rw [if_neg (by omega),if_neg (by omega),if_pos k]; exact ⟨Or.inl rfl,by rw [k]; rfl⟩
   ·right; right; unfold wrOf; rw [if_neg (by omega),if_neg (by omega),if_neg (by omega)]; exact ⟨Or.inr rfl,by rw [k]; rfl⟩
  ·exact ih (fun o ho=>h o (by simp [ho])) x hx
def noSt:St:=⟨⟨0,0,0,0,0⟩,fun _=>none,fun _=>[],fun _ _=>false,[]⟩
section
variable {n i:Nat} {d:DRep} {st:St} {sl:Nat → Nat}
theorem entrusts_but:∀ (l:List VName) (st:St),(∀ s',s' ∈ (l.foldl entrustSt st).snaps → ∃ s,s ∈ st.snaps ∧ s'.saw=s.saw ∧ s'.blk=s.blk) ∧ (l.foldl entrustSt st).snaps.map Snap.blk=st.snaps.map Snap.blk ∧ (l.foldl entrustSt st).vis=st.vis
 | [],st=>⟨fun s hs=>⟨s,hs,rfl,rfl⟩,rfl,rfl⟩
 | x :: l,st=>by
  obtain ⟨a,b,c⟩:=entrusts_but l (entrustSt st x)
  refine ⟨fun s' hs'=>?_,by rw [List.foldl_cons,b,entrust_snaps],by rw [List.foldl_cons,c,entrust_vis]⟩
  obtain ⟨s,h1,h2,h3⟩:=a s' hs'
  obtain ⟨s0,g1,g2,g3,-⟩:=entrust_but st x s h1
  exact ⟨s0,g1,h2.trans g2,h3.trans g3⟩
theorem blk_inj {l:List Snap} (h:(l.map Snap.blk).Nodup) {s s':Snap} (hs:s ∈ l) (hs':s' ∈ l) (e:s.blk=s'.blk):s=s':=by
 induction l with
 | nil=>simp at hs
 | cons a l ih=>
  rw [List.map_cons,List.nodup_cons] at h
  rcases List.mem_cons.1 hs with c | c <;> rcases List.mem_cons.1 hs' with c' | c'
  ·rw [c,c']
  ·exact absurd (List.mem_map.2 ⟨s',c',by rw [← e,c]⟩) h.1
  ·exact absurd (List.mem_map.2 ⟨s,c,by rw [e,c']⟩) h.1
  ·exact ih h.2 c c'
theorem wr_places (hs:List RTx) (j:Nat) (p:Place) (hw:((histOf hs).wr j p).isSome):p ∈ (txAt hs j).ops.map plOf:=own_mem _ hw
end
end Go.Proofs.YtiplgdkpnhamaaaGreatDoor
namespace Go.Proofs.YtiplgdkpnhamaaaGreatDoor
open Go.RowKit
abbrev ptrCells (b:Nat):List Value:=[bptr b]
set_option maxRecDepth 100000 in
set_option maxHeartbeats 2000000 in
theorem idxf_snaps (w:World) (v:Value) (l:List Nat) (hrow:Row w 117 1 v l.length (l.flatMap ptrCells)) (g:Nat) (lb:Array Value) (p:Nat → Bool) (eg:∀ args w,(callFunc g args).run Tryz.prog w=.ok (.enter g args) w)
  (hcl:∀ W,Below w.heap.size w W → ∀ d:Nat,d ∈ l → Calls Tryz.prog g (#[bptr d] ++ lb) W fun e w'=>e=.returned (.bool (p d)) ∧ Below W.heap.size W w') :
  Calls Tryz.prog 175 #[v,.func (.func g) #[] lb] w fun e w'=>e=.returned (.int .i64 (idxP p l)) ∧ Below w.heap.size w w':=by
 obtain ⟨ao,cap,rfl,hcap,hm,hcell⟩:=hrow.shape
 unfold maxLen at hm
 have HC:=hide hcl
 have HL:=hide hcell
 clear hrow hcl hcell
 go_enter Tryz.func175,Tryz.ntmps175
 go_wp2_with fail
 go_loopw [8] (fun i wr=>∃ k:Nat,k ≤ l.length ∧ i=.int .i64 k ∧ Hid (∀ j (hj:j < l.length),j < k → p l[j]=false) ∧ Below w.heap.size w wr) (fun i _=>l.length - (intOf i).toNat)
 case atStart=>exact ⟨0,Nat.zero_le _,rfl,fun j _ h=>absurd h (Nat.not_lt_zero _),Below.refl _ _⟩
 case round=>
  obtain ⟨k,hk,rfl,hno,hB⟩:=hrel
  by_cases hlk:k < l.length
  ·obtain ⟨g0,e0,h0⟩:=HL.out (k * 1 + 0) (by omega)
   subst e0
   rw [flat_get _ 1 (fun _=>rfl) _ _ _ hlk (by omega)] at h0
   simp only [ptrCells,List.getElem?_cons_zero,Nat.add_zero,Nat.mul_one] at h0
   have c0:=cell_later hB h0
   clear h0
   have hcall:=HC.out wr hB l[k] (List.getElem_mem hlk)
   obtain ⟨d,hd⟩:∃ d,l[k]=d:=⟨_,rfl⟩
   have HD:=hide hd
   rw [hd] at hcall c0
   clear hd
   cases hp:p d
   ·rw [hp] at hcall
    have HCALL:=hide hcall
    have HP:=hide hp
    clear hcall hp
    go_wp2_with fail
    refine HCALL.out.mono ?_
    rintro e w1 ⟨rfl,hB1⟩
    go_wp2_with fail
    exact ⟨⟨k + 1,by omega,by go_num,fun j hj hjk=>by
     by_cases c:j=k
     ·subst c; rw [HD.out]; exact HP.out
     ·exact hno.out j hj (by omega),hB.trans (hB1.mono hB.size)⟩,by simp [intOf]; omega⟩
   ·rw [hp] at hcall
    have HCALL:=hide hcall
    have HP:=hide hp
    clear hcall hp
    go_wp2_with fail
    refine HCALL.out.mono ?_
    rintro e w1 ⟨rfl,hB1⟩
    go_wp2_with fail
    go_ret
    exact ⟨ret_int (idxP_some hlk (by rw [HD.out]; exact HP.out) hno.out).symm,hB.trans (hB1.mono hB.size)⟩
  ·go_wp2_with fail
   go_ret
   exact ⟨ret_int (idxP_none fun j hj=>hno.out j hj (by omega)).symm,hB⟩
set_option maxRecDepth 100000 in
set_option maxHeartbeats 4000000 in
theorem delf_snaps (w:World) (v:Value) (l:List Nat) (hrow:Row w 117 1 v l.length (l.flatMap ptrCells)) (g:Nat) (lb:Array Value) (p:Nat → Bool) (eg:∀ args w,(callFunc g args).run Tryz.prog w=.ok (.enter g args) w)
  (hcl:∀ W,Touch (fun q=>v.ownBlock=some q) w W → ∀ d:Nat,d ∈ l → Calls Tryz.prog g (#[bptr d] ++ lb) W fun e w'=>e=.returned (.bool (p d)) ∧ Below W.heap.size W w') :
  Calls Tryz.prog 145 #[v,.func (.func g) #[] lb] w fun e w'=>∃ v',e=.returned v' ∧ Row w' 117 1 v' (l.filter fun x=>!p x).length ((l.filter fun x=>!p x).flatMap ptrCells) ∧ v'.ownBlock=v.ownBlock ∧ Touch (fun q=>v.ownBlock=some q) w w':=by
 have hI:=idxf_snaps w v l hrow g lb p eg (fun W hB=>hcl W (Touch.ofBelow hB))
 rcases idxP_cases p l with ⟨e1,e2⟩ | ⟨k0,hk0,e1,hp0,e2⟩
 ·rw [e1] at hI
  have HI:=hide hI
  have HR:=hide hrow
  clear hI hcl hrow
  go_enter Tryz.func145,Tryz.ntmps145
  go_wp2_with fail
  refine HI.out.mono ?_
  rintro e w1 ⟨rfl,hB1⟩
  go_wp2_with fail
  go_ret
  refine ⟨v,rfl,?_,rfl,Touch.ofBelow hB1⟩
  rw [e2]
  exact Row.below HR.out hB1
 ·rw [e1] at hI
  obtain ⟨g0,cap,rfl,hcap,hm,hg0,-,-⟩:=hrow.pos (by omega)
  unfold maxLen at hm
  have hne1:((k0:Int) == -1)=false:=beq_eq_false_iff_ne.2 (by omega)
  have HS:=hide (Str.start hk0 hp0 e2)
  have HI:=hide hI
  have HR:=hide hrow
  have HC:=hide hcl
  clear hI hcl hrow e1 e2 hp0
  go_enter Tryz.func145,Tryz.ntmps145
  go_wp2_with fail
  refine HI.out.mono ?_
  rintro e w1 ⟨rfl,hB1⟩
  go_wp2_with fail
  go_loopw [5,6] (fun i j wr=>∃ (ii jj:Nat) (xs:List Nat),jj ≤ l.length ∧ ii < jj ∧ i=.int .i64 ii ∧ j=.int .i64 jj ∧ Hid (Str p l xs ii jj ∧ Row wr 117 1 (.slice (some ⟨g0,0,none⟩) l.length cap) l.length (xs.flatMap ptrCells) ∧ Touch (fun q=>(Value.slice (some ⟨g0,0,none⟩) l.length cap).ownBlock=some q) w wr)) (fun _ j _=>l.length - (intOf j).toNat)
  case atStart=>exact ⟨k0,k0 + 1,l,by omega,by omega,rfl,by go_num,HS.out,Row.below HR.out hB1,Touch.ofBelow hB1⟩
  case round=>
   obtain ⟨ii,jj,xs,hjl,hij,rfl,rfl,hst⟩:=hrel
   have hlen:=hst.out.1.len
   by_cases hlj:jj < l.length
   ·obtain ⟨_,_,e,-,-,hgl,hcell,hfro⟩:=Row.pos hst.out.2.1 (by omega)
    cases e
    have c0:=hcell (jj * 1 + 0) (by omega)
    rw [flat_get _ 1 (fun _=>rfl) _ _ _ (by omega) (by omega)] at c0
    have hx:=hst.out.1.high jj hlj (Nat.le_refl _)
    rw [List.getElem?_eq_getElem (by omega)] at hx
    rw [Option.some.inj hx] at c0
    simp only [ptrCells,List.getElem?_cons_zero,Nat.add_zero,Nat.mul_one] at c0
    clear hcell hfro hx
    obtain ⟨d,hd⟩:∃ d,l[jj]=d:=⟨_,rfl⟩
    have HD:=hide hd
    rw [hd] at c0
    clear hd
    have HCALL:=hide (HC.out wr hst.out.2.2 d (by rw [← HD.out]; exact List.getElem_mem hlj))
    cases hp:p d
    ·unfold Hid at HCALL
     rw [hp] at HCALL
     have HP:=hide hp
     have HCA:=hide HCALL
     clear hp HCALL
     go_wp2_with fail
     refine HCA.out.mono ?_
     rintro e w2 ⟨rfl,hB2⟩
     have hR2:=Row.below hst.out.2.1 hB2
     obtain ⟨_,_,e,-,-,hgl2,hcell,hfro⟩:=Row.pos hR2 (by omega)
     cases e
     have i0:=hcell (ii * 1 + 0) (by omega)
     have f0:=hfro ii
     rw [flat_get _ 1 (fun _=>rfl) _ _ _ (by omega) (by omega)] at i0
     simp only [ptrCells,List.getElem?_cons_zero,Nat.add_zero,Nat.mul_one] at i0
     have HR2:=hide hR2
     have HB3:=hide hB2
     clear hcell hfro hR2 hB2 c0
     generalize xs[ii]'(by omega)=old at i0
     go_wp2_with fail
     refine ⟨⟨ii + 1,jj + 1,xs.set ii d,by omega,by omega,by go_num,by go_num,?_,?_,?_⟩,by simp [intOf]; omega⟩
     ·have:=hst.out.1.keep hlj (by rw [HD.out]; exact HP.out)
      rwa [HD.out] at this
     ·have a:=(World.ownsRow.stored HR2.out ii (bptr d)).1
      have e1:=flat_set ptrCells 1 (fun _=>rfl) xs ii 0 (by omega) (bptr d) d (by omega) rfl
      rw [Nat.add_zero,Nat.mul_one] at e1
      rw [e1] at a
      exact a
     ·have a:=hst.out.2.2.then ((Touch.ofBelow HB3.out))
      exact a.setCell (p:=⟨g0,ii,none⟩) (Or.inl rfl) _
    ·unfold Hid at HCALL
     rw [hp] at HCALL
     have HP:=hide hp
     have HCA:=hide HCALL
     clear hp HCALL
     go_wp2_with fail
     refine HCA.out.mono ?_
     rintro e w2 ⟨rfl,hB3⟩
     clear c0
     go_wp2_with fail
     exact ⟨⟨ii,jj + 1,xs,by omega,by omega,rfl,by go_num,hst.out.1.skip hlj (by rw [HD.out]; exact HP.out),Row.below hst.out.2.1 hB3,hst.out.2.2.then (Touch.ofBelow hB3)⟩,by simp [intOf]; omega⟩
   ·have hje:jj=l.length:=by omega
    subst hje
    obtain ⟨q1,q2,q3⟩:=hst.out.1.done
    obtain ⟨w4,hrun,hR4,hg4⟩:=clear_row (P:=Tryz.prog) (size:=1) (t:=181) (ty:=0) (z:=.pointer none) (i:=ii) Tryz.underlying181 (fun _=>by kernel_rfl) rfl (by intro u hu; simp [Value.cells] at hu; subst hu; rfl) hst.out.2.1 q3
    simp only [Nat.mul_one] at hrun
    have HR4:=hide hR4
    have HG4:=hide hg4
    have HQ:=hide (⟨q1,q2⟩:_ ∧ _)
    clear hR4 hg4 q1 q2
    go_wp2_with fail
    go_ret
    refine ⟨_,rfl,?_,rfl,hst.out.2.2.grown HG4.out (fun k e=>by cases e; exact Or.inl rfl)⟩
    have:=HR4.out
    rw [flat_take _ 1 (fun _=>rfl),HQ.out.1] at this
    rw [← HQ.out.2]
    exact this
end Go.Proofs.YtiplgdkpnhamaaaGreatDoor
namespace Go.Proofs.YtiplgdkpnhamaaaGreatDoor
open Go.RowKit
abbrev strCells (s:ByteArray):List Value:=[.string s]
set_option maxRecDepth 100000 in
set_option maxHeartbeats 2000000 in
theorem idxf_strs (w:World) (v:Value) (l:List ByteArray) (hrow:Row w 9 1 v l.length (l.flatMap strCells)) (g:Nat) (lb:Array Value) (p:ByteArray → Bool) (eg:∀ args w,(callFunc g args).run Tryz.prog w=.ok (.enter g args) w)
  (hcl:∀ W,Below w.heap.size w W → ∀ d:ByteArray,d ∈ l → Calls Tryz.prog g (#[Value.string d] ++ lb) W fun e w'=>e=.returned (.bool (p d)) ∧ Below W.heap.size W w') :
  Calls Tryz.prog 153 #[v,.func (.func g) #[] lb] w fun e w'=>e=.returned (.int .i64 (idxP p l)) ∧ Below w.heap.size w w':=by
 obtain ⟨ao,cap,rfl,hcap,hm,hcell⟩:=hrow.shape
 unfold maxLen at hm
 have HC:=hide hcl
 have HL:=hide hcell
 clear hrow hcl hcell
 go_enter Tryz.func153,Tryz.ntmps153
 go_wp2_with fail
 go_loopw [8] (fun i wr=>∃ k:Nat,k ≤ l.length ∧ i=.int .i64 k ∧ Hid (∀ j (hj:j < l.length),j < k → p l[j]=false) ∧ Below w.heap.size w wr) (fun i _=>l.length - (intOf i).toNat)
 case atStart=>exact ⟨0,Nat.zero_le _,rfl,fun j _ h=>absurd h (Nat.not_lt_zero _),Below.refl _ _⟩
 case round=>
  obtain ⟨k,hk,rfl,hno,hB⟩:=hrel
  by_cases hlk:k < l.length
  ·obtain ⟨g0,e0,h0⟩:=HL.out (k * 1 + 0) (by omega)
   subst e0
   rw [flat_get _ 1 (fun _=>rfl) _ _ _ hlk (by omega)] at h0
   simp only [strCells,List.getElem?_cons_zero,Nat.add_zero,Nat.mul_one] at h0
   have c0:=cell_later hB h0
   clear h0
   have hcall:=HC.out wr hB l[k] (List.getElem_mem hlk)
   obtain ⟨d,hd⟩:∃ d,l[k]=d:=⟨_,rfl⟩
   have HD:=hide hd
   rw [hd] at hcall c0
   clear hd
   cases hp:p d
   ·rw [hp] at hcall
    have HCALL:=hide hcall
    have HP:=hide hp
    clear hcall hp
    go_wp2_with fail
    refine HCALL.out.mono ?_
    rintro e w1 ⟨rfl,hB1⟩
    go_wp2_with fail
    exact ⟨⟨k + 1,by omega,by go_num,fun j hj hjk=>by
     by_cases c:j=k
     ·subst c; rw [HD.out]; exact HP.out
     ·exact hno.out j hj (by omega),hB.trans (hB1.mono hB.size)⟩,by simp [intOf]; omega⟩
   ·rw [hp] at hcall
    have HCALL:=hide hcall
    have HP:=hide hp
    clear hcall hp
    go_wp2_with fail
    refine HCALL.out.mono ?_
    rintro e w1 ⟨rfl,hB1⟩
    go_wp2_with fail
    go_ret
    exact ⟨ret_int (idxP_some hlk (by rw [HD.out]; exact HP.out) hno.out).symm,hB.trans (hB1.mono hB.size)⟩
  ·go_wp2_with fail
   go_ret
   exact ⟨ret_int (idxP_none fun j hj=>hno.out j hj (by omega)).symm,hB⟩
set_option maxRecDepth 100000 in
set_option maxHeartbeats 4000000 in
theorem delf_strs (w:World) (v:Value) (l:List ByteArray) (hrow:Row w 9 1 v l.length (l.flatMap strCells)) (g:Nat) (lb:Array Value) (p:ByteArray → Bool) (eg:∀ args w,(callFunc g args).run Tryz.prog w=.ok (.enter g args) w)
  (hcl:∀ W,Touch (fun q=>v.ownBlock=some q) w W → ∀ d:ByteArray,d ∈ l → Calls Tryz.prog g (#[Value.string d] ++ lb) W fun e w'=>e=.returned (.bool (p d)) ∧ Below W.heap.size W w') :
  Calls Tryz.prog 109 #[v,.func (.func g) #[] lb] w fun e w'=>∃ v',e=.returned v' ∧ Row w' 9 1 v' (l.filter fun x=>!p x).length ((l.filter fun x=>!p x).flatMap strCells) ∧ v'.ownBlock=v.ownBlock ∧ Touch (fun q=>v.ownBlock=some q) w w':=by
 have hI:=idxf_strs w v l hrow g lb p eg (fun W hB=>hcl W (Touch.ofBelow hB))
 rcases idxP_cases p l with ⟨e1,e2⟩ | ⟨k0,hk0,e1,hp0,e2⟩
 ·rw [e1] at hI
  have HI:=hide hI
  have HR:=hide hrow
  clear hI hcl hrow
  go_enter Tryz.func109,Tryz.ntmps109
  go_wp2_with fail
  refine HI.out.mono ?_
  rintro e w1 ⟨rfl,hB1⟩
  go_wp2_with fail
  go_ret
  refine ⟨v,rfl,?_,rfl,Touch.ofBelow hB1⟩
  rw [e2]
  exact Row.below HR.out hB1
 ·rw [e1] at hI
  obtain ⟨g0,cap,rfl,hcap,hm,hg0,-,-⟩:=hrow.pos (by omega)
  unfold maxLen at hm
  have hne1:((k0:Int) == -1)=false:=beq_eq_false_iff_ne.2 (by omega)
  have HS:=hide (Str.start hk0 hp0 e2)
  have HI:=hide hI
  have HR:=hide hrow
  have HC:=hide hcl
  clear hI hcl hrow e1 e2 hp0
  go_enter Tryz.func109,Tryz.ntmps109
  go_wp2_with fail
  refine HI.out.mono ?_
  rintro e w1 ⟨rfl,hB1⟩
  go_wp2_with fail
  go_loopw [5,6] (fun i j wr=>∃ (ii jj:Nat) (xs:List ByteArray),jj ≤ l.length ∧ ii < jj ∧ i=.int .i64 ii ∧ j=.int .i64 jj ∧ Hid (Str p l xs ii jj ∧ Row wr 9 1 (.slice (some ⟨g0,0,none⟩) l.length cap) l.length (xs.flatMap strCells) ∧ Touch (fun q=>(Value.slice (some ⟨g0,0,none⟩) l.length cap).ownBlock=some q) w wr)) (fun _ j _=>l.length - (intOf j).toNat)
  case atStart=>exact ⟨k0,k0 + 1,l,by omega,by omega,rfl,by go_num,HS.out,Row.below HR.out hB1,Touch.ofBelow hB1⟩
  case round=>
   obtain ⟨ii,jj,xs,hjl,hij,rfl,rfl,hst⟩:=hrel
   have hlen:=hst.out.1.len
   by_cases hlj:jj < l.length
   ·obtain ⟨_,_,e,-,-,hgl,hcell,hfro⟩:=Row.pos hst.out.2.1 (by omega)
    cases e
    have c0:=hcell (jj * 1 + 0) (by omega)
    rw [flat_get _ 1 (fun _=>rfl) _ _ _ (by omega) (by omega)] at c0
    have hx:=hst.out.1.high jj hlj (Nat.le_refl _)
    rw [List.getElem?_eq_getElem (by omega)] at hx
    rw [Option.some.inj hx] at c0
    simp only [strCells,List.getElem?_cons_zero,Nat.add_zero,Nat.mul_one] at c0
    clear hcell hfro hx
    obtain ⟨d,hd⟩:∃ d,l[jj]=d:=⟨_,rfl⟩
    have HD:=hide hd
    rw [hd] at c0
    clear hd
    have HCALL:=hide (HC.out wr hst.out.2.2 d (by rw [← HD.out]; exact List.getElem_mem hlj))
    cases hp:p d
    ·unfold Hid at HCALL
     rw [hp] at HCALL
     have HP:=hide hp
     have HCA:=hide HCALL
     clear hp HCALL
     go_wp2_with fail
     refine HCA.out.mono ?_
     rintro e w2 ⟨rfl,hB2⟩
     have hR2:=Row.below hst.out.2.1 hB2
     obtain ⟨_,_,e,-,-,hgl2,hcell,hfro⟩:=Row.pos hR2 (by omega)
     cases e
     have i0:=hcell (ii * 1 + 0) (by omega)
     have f0:=hfro ii
     rw [flat_get _ 1 (fun _=>rfl) _ _ _ (by omega) (by omega)] at i0
     simp only [strCells,List.getElem?_cons_zero,Nat.add_zero,Nat.mul_one] at i0
     have HR2:=hide hR2
     have HB3:=hide hB2
     clear hcell hfro hR2 hB2 c0
     generalize xs[ii]'(by omega)=old at i0
     go_wp2_with fail
     refine ⟨⟨ii + 1,jj + 1,xs.set ii d,by omega,by omega,by go_num,by go_num,?_,?_,?_⟩,by simp [intOf]; omega⟩
     ·have:=hst.out.1.keep hlj (by rw [HD.out]; exact HP.out)
      rwa [HD.out] at this
     ·have a:=(World.ownsRow.stored HR2.out ii (Value.string d)).1
      have e1:=flat_set strCells 1 (fun _=>rfl) xs ii 0 (by omega) (Value.string d) d (by omega) rfl
      rw [Nat.add_zero,Nat.mul_one] at e1
      rw [e1] at a
      exact a
     ·have a:=hst.out.2.2.then ((Touch.ofBelow HB3.out))
      exact a.setCell (p:=⟨g0,ii,none⟩) (Or.inl rfl) _
    ·unfold Hid at HCALL
     rw [hp] at HCALL
     have HP:=hide hp
     have HCA:=hide HCALL
     clear hp HCALL
     go_wp2_with fail
     refine HCA.out.mono ?_
     rintro e w2 ⟨rfl,hB3⟩
     clear c0
     go_wp2_with fail
     exact ⟨⟨ii,jj + 1,xs,by omega,by omega,rfl,by go_num,hst.out.1.skip hlj (by rw [HD.out]; exact HP.out),Row.below hst.out.2.1 hB3,hst.out.2.2.then (Touch.ofBelow hB3)⟩,by simp [intOf]; omega⟩
   ·have hje:jj=l.length:=by omega
    subst hje
    obtain ⟨q1,q2,q3⟩:=hst.out.1.done
    obtain ⟨w4,hrun,hR4,hg4⟩:=clear_row (P:=Tryz.prog) (size:=1) (t:=41) (ty:=0) (z:=.string ⟨#[]⟩) (i:=ii) Tryz.underlying41 (fun _=>by kernel_rfl) rfl (by intro u hu; simp [Value.cells] at hu; subst hu; rfl) hst.out.2.1 q3
    simp only [Nat.mul_one] at hrun
    have HR4:=hide hR4
    have HG4:=hide hg4
    have HQ:=hide (⟨q1,q2⟩:_ ∧ _)
    clear hR4 hg4 q1 q2
    go_wp2_with fail
    go_ret
    refine ⟨_,rfl,?_,rfl,hst.out.2.2.grown HG4.out (fun k e=>by cases e; exact Or.inl rfl)⟩
    have:=HR4.out
    rw [flat_take _ 1 (fun _=>rfl),HQ.out.1] at this
    rw [← HQ.out.2]
    exact this
end Go.Proofs.YtiplgdkpnhamaaaGreatDoor
namespace Go.Proofs.YtiplgdkpnhamaaaGreatDoor.Tv
open Go.RowKit
def cntR (hs:List RTx) (r:Nat):Nat:=(hs.filter fun u=>decide (u.rep=(r:Int))).length
def visOf (n:Nat) (hs:List RTx):List Int:=(List.range n).map fun r=>(cntR hs r:Int)
theorem visOf_len (n:Nat) (hs:List RTx):(visOf n hs).length=n:=by simp [visOf]
theorem visOf_get {n:Nat} {hs:List RTx} {r:Nat} (hr:r < n):(visOf n hs).getD r 0=cntR hs r:=by simp [visOf,hr]
theorem visOf_out {n:Nat} {hs:List RTx} {r:Nat} (hr:n ≤ r):(visOf n hs).getD r 0=0:=getD_out (by rw [visOf_len]; exact hr)
theorem cntR_snoc (hs:List RTx) (u:RTx) (r:Nat):cntR (hs ++ [u]) r=cntR hs r + if u.rep=(r:Int) then 1 else 0:=by
 unfold cntR
 rw [List.filter_append,List.length_append]
 by_cases c:u.rep=(r:Int) <;> simp [c]
theorem cntR_at {hs:List RTx} {j:Nat} (hj:j < hs.length) (r:Nat):cntR (hs.take (j + 1)) r=cntR (hs.take j) r + if hs[j].rep=(r:Int) then 1 else 0:=by
 rw [List.take_succ_eq_append_getElem hj,cntR_snoc]
theorem cntR_mono (hs:List RTx) {a b:Nat} (h:a ≤ b) (r:Nat):cntR (hs.take a) r ≤ cntR (hs.take b) r:=by
 obtain ⟨k,rfl⟩:=Nat.exists_eq_add_of_le h
 clear h
 induction k with
 | zero=>exact Nat.le_refl _
 | succ k ih=>
  refine Nat.le_trans ih ?_
  by_cases c:a + k < hs.length
  ·rw [show a + (k + 1)=a + k + 1 by omega,cntR_at c]; omega
  ·rw [List.take_of_length_le (i:=a + (k + 1)) (by omega),List.take_of_length_le (i:=a + k) (by omega)]; exact Nat.le_refl _
theorem cntR_le (hs:List RTx) (r:Nat):cntR hs r ≤ hs.length:=List.length_filter_le _ _
theorem cntR_take_all (hs:List RTx) {T:Nat} (r:Nat):cntR (hs.take T) r ≤ cntR hs r:=by
 have:=cntR_mono hs (a:=T) (b:=max T hs.length) (by omega) r
 rwa [List.take_of_length_le (i:=max T hs.length) (by omega)] at this
structure SawP (n:Nat) (hs:List RTx) (saw:List Int):Prop where
 len:saw.length=n
 pos:∀ r,0 ≤ saw.getD r 0
 le:∀ r,saw.getD r 0 ≤ cntR hs r
 clo:∀ u,u ∈ hs → seesV saw u.rep u.seq=true → ∀ r,u.saw.getD r 0 ≤ saw.getD r 0
structure OpsOk (l:List ROp):Prop where
 ops:∀ o,o ∈ l → OpOk o ∧ (¬ o.kind=1 → o.value.size ≤ 8) ∧ (o.kind=1 → -1000000 ≤ o.amount ∧ o.amount ≤ 1000000)
 few:l.length ≤ 16
theorem OpsOk.old {l:List ROp} (h:OpsOk l):∀ o,o ∈ l → OpOk o ∧ (¬ o.kind=1 → o.value.size ≤ maxLen):=fun o ho=>
 ⟨(h.ops o ho).1,fun c=>Nat.le_trans ((h.ops o ho).2.1 c) (by unfold maxLen; omega)⟩
structure NewOk (n:Nat) (hs:List RTx) (u:RTx):Prop where
 r0:0 ≤ u.rep
 rn:u.rep < n
 seq:u.seq=(cntR hs u.rep.toNat:Int) + 1
 saw:SawP n hs u.saw
 ops:OpsOk u.ops
 one:1 ≤ u.ops.length
structure HistG (n:Nat) (hs:List RTx):Prop where
 n5:n ≤ 5
 tx:∀ j (h:j < hs.length),NewOk n (hs.take j) hs[j]
theorem NewOk.repN {n:Nat} {hs:List RTx} {u:RTx} (h:NewOk n hs u):((u.rep.toNat:Nat):Int)=u.rep:=by have:=h.r0; omega
theorem NewOk.rN {n:Nat} {hs:List RTx} {u:RTx} (h:NewOk n hs u):u.rep.toNat < n:=by have:=h.r0; have:=h.rn; omega
section
variable {n:Nat} {hs:List RTx}
theorem HistG.snoc (h:HistG n hs) {u:RTx} (hu:NewOk n hs u):HistG n (hs ++ [u]):=by
 refine ⟨h.n5,fun j hj=>?_⟩
 by_cases c:j < hs.length
 ·rw [List.getElem_append_left c,List.take_append_of_le_length (by omega)]; exact h.tx j c
 ·have e:j=hs.length:=by simp at hj; omega
  subst e
  rw [List.getElem_append_right (Nat.le_refl _),List.take_left']
  ·simpa using hu
  ·rfl
theorem HistG.seqLt (h:HistG n hs) {j T:Nat} (hj:j < hs.length):(hs[j].seq ≤ (cntR (hs.take T) hs[j].rep.toNat:Int)) ↔ j < T:=by
 have hu:=h.tx j hj
 rw [hu.seq]
 constructor
 ·intro hc
  by_cases c:j < T
  ·exact c
  ·have:=cntR_mono hs (a:=T) (b:=j) (by omega) hs[j].rep.toNat; omega
 ·intro hc
  have:=cntR_mono hs (a:=j + 1) (b:=T) (by omega) hs[j].rep.toNat
  rw [cntR_at hj,if_pos hu.repN.symm] at this
  omega
theorem HistG.sawAt (h:HistG n hs) (T:Nat):SawAt hs (visOf n (hs.take T)) T:=fun j hj=>by
 have hu:=h.tx j hj
 rw [txAt_eq hj]
 unfold seesV
 rw [visOf_get hu.rN,Bool.eq_iff_iff,decide_eq_true_eq,decide_eq_true_eq]
 exact h.seqLt hj
theorem HistG.dotJ (_:HistG n hs) {j:Nat} (hj:j < hs.length):(histOf hs).dot j=⟨hs[j].rep,hs[j].seq⟩:=by simp only [histOf,txAt_eq hj]
theorem HistG.inj (h:HistG n hs) {j k:Nat} (hj:j < hs.length) (hk:k < hs.length) (e1:hs[j].rep=hs[k].rep) (e2:hs[j].seq=hs[k].seq):j=k:=by
 have sj:=(h.tx j hj).seq
 have sk:=(h.tx k hk).seq
 rw [e1,e2] at sj
 have p1:¬ j < k:=fun c=>by
  have:=(h.seqLt (T:=k) hj).2 c
  rw [e1,e2] at this; omega
 have p2:¬ k < j:=fun c=>by
  have:=(h.seqLt (T:=j) hk).2 c
  omega
 omega
theorem HistG.sees (_:HistG n hs) {k j:Nat} (hk:k < hs.length) (hj:j < hs.length):(histOf hs).sees k j=seesV hs[k].saw hs[j].rep hs[j].seq:=by
 show seesV (txAt hs k).saw (txAt hs j).rep (txAt hs j).seq=_
 rw [txAt_eq hk,txAt_eq hj]
theorem sees_le {v:List Int} {r s:Int}:seesV v r s=true ↔ s ≤ v.getD r.toNat 0:=by unfold seesV; rw [decide_eq_true_eq]
theorem HistG.back (h:HistG n hs) {k j:Nat} (hk:k < hs.length) (hj:j < hs.length) (hs':seesV hs[k].saw hs[j].rep hs[j].seq=true):j < k:=by
 have:=(h.tx k hk).saw.le hs[j].rep.toNat
 exact (h.seqLt hj).1 (Int.le_trans (sees_le.1 hs') this)
theorem HistG.ok (h:HistG n hs):HsOk hs:=by
 refine ⟨fun t ht o ho=>?_,fun j k hj hk e=>?_,fun j k hj hk hs'=>?_,fun a b c ha hb hc h1 h2=>?_⟩
 ·obtain ⟨j,hj,rfl⟩:=List.mem_iff_getElem.1 ht
  exact ((h.tx j hj).ops.ops o ho).1
 ·rw [h.dotJ hj,h.dotJ hk] at e
  injection e with e1 e2
  exact h.inj hj hk e1 e2
 ·rw [h.sees hk hj] at hs'; exact h.back hk hj hs'
 ·rw [h.sees hc hb] at h1
  rw [h.sees hb ha] at h2
  rw [h.sees hc ha]
  have hbc:=h.back hc hb h1
  have:=(h.tx c hc).saw.clo hs[b] (List.mem_iff_getElem.2 ⟨b,by simp; omega,by simp⟩) h1 hs[a].rep.toNat
  exact sees_le.2 (Int.le_trans (sees_le.1 h2) this)
theorem HistG.hok (h:HistG n hs) (hN:hs.length ≤ 2000000):(histOf hs).Ok hs.length:=by
 refine ⟨h.ok.inj,fun j hj=>?_,fun j hj=>?_⟩
 ·rw [h.dotJ hj]; show hs[j].seq ≠ 0; rw [(h.tx j hj).seq]; omega
 ·rw [h.dotJ hj]
  have hu:=h.tx j hj
  have h2:=h.n5
  have h3:=cntR_le (hs.take j) hs[j].rep.toNat
  have h4:(hs.take j).length ≤ 2000000:=by rw [List.length_take]; omega
  have h5:=hu.rn
  exact ⟨hu.r0,by show hs[j].rep < 5; omega,seq_wf (s:=hs[j].seq) (by rw [hu.seq]; omega) (by rw [hu.seq]; omega)⟩
theorem HistG.vis_saw (h:HistG n hs) (T:Nat):SawP n hs (visOf n (hs.take T)):=by
 refine ⟨visOf_len _ _,fun r=>?_,fun r=>?_,fun u hu hc r=>?_⟩
 ·by_cases c:r < n
  ·rw [visOf_get c]; omega
  ·rw [visOf_out (by omega)]; omega
 ·by_cases c:r < n
  ·rw [visOf_get c]; have:=cntR_take_all hs (T:=T) r; omega
  ·rw [visOf_out (by omega)]; omega
 ·obtain ⟨j,hj,rfl⟩:=List.mem_iff_getElem.1 hu
  have a:=h.sawAt T j hj
  rw [txAt_eq hj,hc] at a
  have hjT:j < T:=of_decide_eq_true a.symm
  have b:=(h.tx j hj).saw
  by_cases c:r < n
  ·rw [visOf_get c]
   have:=b.le r
   have:=cntR_mono hs (a:=j) (b:=T) (by omega) r
   omega
  ·rw [visOf_out (by omega),getD_out (by rw [b.len]; omega)]; exact Int.le_refl _
theorem visOf_snoc {u:RTx} (h0:0 ≤ u.rep) (hn:u.rep < n):visOf n (hs ++ [u])=(visOf n hs).set u.rep.toNat ((visOf n hs).getD u.rep.toNat 0 + 1):=by
 rw [visOf_get (by omega)]
 apply List.ext_getElem?
 intro r
 rw [List.getElem?_set]
 unfold visOf
 by_cases c:r < n
 ·by_cases e:u.rep.toNat=r
  ·subst e; simp only [List.getElem?_map,List.length_map,List.length_range,c,if_true,List.getElem?_range,Option.map_some,cntR_snoc]; rw [if_pos (by omega)]; rfl
  ·simp only [List.getElem?_map,c,List.getElem?_range,Option.map_some,cntR_snoc,e,if_false]; rw [if_neg (by omega)]; rfl
 ·have:u.rep.toNat ≠ r:=by omega
  simp [c,this]
end
end Go.Proofs.YtiplgdkpnhamaaaGreatDoor.Tv
