/- The texts F8, joined. -/
import Derived.Test.YtiplgdkpnhamaaaGreatDoorE19
import Derived.Test.YtiplgdkpnhamaaaGreatDoorE09
namespace Go.Proofs.YtiplgdkpnhamaaaGreatDoor
open Go.RowKit Go.Sort
theorem flat_strs (l:List ByteArray):l.flatMap strCells=strs l:=by
 induction l with
 | nil=>rfl
 | cons a l ih=>simp [List.flatMap_cons,ih,strs]
theorem OpenTx.touch {w w':World} {tb nb mb nW:Nat} {calls:Int} {m:Place → Option Wr} {S:Nat → Prop} (h:OpenTx w tb nb mb nW calls m) (t:Touch S w w') (h1:¬ S tb) (h2:¬ S mb):OpenTx w' tb nb mb nW calls m:=⟨h.blk.move (t.block _ h.blk.lt h1),h.own.move (t.block _ h.own.lt h2)⟩
theorem enters_elemfn (args:Array Value) (w:World):(callFunc 111 args).run Tryz.prog w=.ok (.enter 111 args) w:=enters_of Tryz.func111 (by kernel_rfl) rfl args w
structure TElsRel (w0:World) (mb r nW:Nat) (m:Place → Option Wr) (key:ByteArray) (l1:List ByteArray) (v:Value) (wr:World) (left:Place → Bool) (cnt:Nat) (acc:List ByteArray):Prop where
 rng:RngIn wr 129 mb r nW Place.val Wr.val m left cnt
 own:wr.ownsRow w0.heap.size 9 1 v acc.length (strs acc)
 apart:v.ownBlock ≠ some r
 once:acc.Nodup
 some_:∀ a,a ∈ acc ↔ a ∈ l1 ∨ ∃ x,m ⟨key,a⟩=some x ∧ x.kind=2 ∧ left ⟨key,a⟩=false
 sub:∀ p,left p=true → (m p).isSome
 few:acc.length + cnt ≤ l1.length + nW
 bel:Below w0.heap.size w0 wr
 low:w0.heap.size ≤ r
def TElsCut (w0:World) (st:St) (saw:Vec) (key:ByteArray) (m:Place → Option Wr) (n:Nat) (v:Value) (wc:World):Prop:=
 ∃ l0:List ByteArray,Rising l0 ∧ (∀ a,a ∈ l0 ↔ st.els key a=true ∧ toldRaw saw st ⟨key,a⟩ ≠ []) ∧ l0.length ≤ n ∧ wc.ownsRow w0.heap.size 9 1 v (l0.filter fun x=>!(m ⟨key,x⟩).isSome).length (strs (l0.filter fun x=>!(m ⟨key,x⟩).isSome)) ∧ Below w0.heap.size w0 wc
set_option maxRecDepth 100000 in
set_option maxHeartbeats 8000000 in
theorem telements_any {w:World} {o:Nat → Own} {sb n nb tb mb nW:Nat} {st:St} {saw:Vec} {kept:Value} {calls:Int} {m:Place → Option Wr} (hS:SnapIn w o sb n nb st saw kept) (hT:OpenTx w tb nb mb nW calls m) (hm:∀ p x,m p=some x → p.Ok) (key:ByteArray) (hk:key.size ≤ maxLen) (hn:n + nW ≤ 900000000) :
  Calls Tryz.prog 70 #[bptr tb,.string key] w fun e w'=>∃ (v:Value) (l:List ByteArray),e=.returned v ∧ Rising l ∧ (∀ a,a ∈ l ↔ ((st.els key a=true ∧ toldRaw saw st ⟨key,a⟩ ≠ []) ∧ m ⟨key,a⟩=none) ∨ ∃ x,m ⟨key,a⟩=some x ∧ x.kind=2) ∧ l.length ≤ n + nW ∧ w'.ownsRow w.heap.size 9 1 v l.length (strs l) ∧ Below w.heap.size w w':=by
 obtain ⟨i0,hi,hz0,hz1,hz2⟩:=info_parts Tryz.infoStr
 have HI:=hide (⟨hi,hz0,hz1,hz2⟩:_ ∧ _ ∧ _ ∧ _)
 clear hi hz0 hz1 hz2
 have helsOk:∀ key e,st.els key e=true → e.size ≤ maxLen:=by
  obtain ⟨vb,cb,eb,ov,cv,ev,kv,h⟩:=hS.sto
  exact h.elsOk
 generalize hW0:(w.alloc (.cells #[bptr tb] 111)).alloc (.cells #[.string key] 9)=W0
 have hB0:Below w.heap.size w W0:=by rw [← hW0]; exact ((Below.refl _ _).alloc (Nat.le_refl _) _).alloc (by simp) _
 have hz0:W0.heap.size=w.heap.size + 2:=by rw [← hW0]; simp
 have bt:Blk W0 w.heap.size [bptr tb] 111:=by rw [← hW0]; exact Blk.first w _ _ _
 have bk:Blk W0 (w.heap.size + 1) [.string key] 9:=by rw [← hW0]; exact Blk.second w _ _ _
 have hS0:=hS.below hB0
 have hT0:=hT.below hB0
 have htl:=hT.blk.lt
 have hml:=hT.own.lt
 have t0:W0.cell? ⟨w.heap.size,0,none⟩=some (.pointer (some ⟨tb,0,none⟩)):=bt.cell 0
 have k0:W0.cell? ⟨w.heap.size + 1,0,none⟩=some (.string key):=bk.cell 0
 have c0:W0.cell? ⟨tb,0,none⟩=some (.pointer (some ⟨nb,0,none⟩)):=hT0.blk.cell 0
 have hE:∀ W,Below W0.heap.size W0 W → Calls Tryz.prog 110 #[.pointer (some ⟨nb,0,none⟩),.string key] W fun e w'=>∃ (v:Value) (l:List ByteArray),e=.returned v ∧ Rising l ∧ (∀ a,a ∈ l ↔ st.els key a=true ∧ toldRaw saw st ⟨key,a⟩ ≠ []) ∧ l.length ≤ n ∧ w'.ownsRow W0.heap.size 9 1 v l.length (strs l) ∧ Below W0.heap.size W0 w':=fun W hB=>
  (snap_elements (hS0.below hB) key hk (by omega)).mono (by
   rintro e w' ⟨v,l,h1,h2,h3,h4,h5,h6⟩
   exact ⟨v,l,h1,h2,h3,h4,ownsRow_low h5 hB.size,hB.trans (h6.mono hB.size)⟩)
 have hD:∀ (W:World) (v:Value) (l:List ByteArray),Below W0.heap.size W0 W → W.ownsRow W0.heap.size 9 1 v l.length (strs l) → (∀ a,a ∈ l → a.size ≤ maxLen) → Calls Tryz.prog 109 #[v,.func (.func 111) #[] #[.pointer (some ⟨w.heap.size,0,none⟩),.pointer (some ⟨w.heap.size + 1,0,none⟩)]] W fun e w'=>∃ v' l2,e=.returned v' ∧ l2=(l.filter fun x=>!(m ⟨key,x⟩).isSome) ∧ w'.ownsRow W0.heap.size 9 1 v' l2.length (strs l2) ∧ Below W0.heap.size W0 w':=fun W v l hB hown hsz=>by
  have hlo:∀ q,v.ownBlock=some q → W0.heap.size ≤ q:=fun q hq=>(hown.lt q hq).1
  refine (delf_strs W v l (by rw [flat_strs]; exact ownsRow_low hown (Nat.zero_le _)) 111 #[bptr w.heap.size,bptr (w.heap.size + 1)] (fun x=>(m ⟨key,x⟩).isSome) enters_elemfn (fun W' hT' d hd=>?_)).mono ?_
  ·have hT2:=(hT0.below hB).touch hT' (fun e=>by have:=hlo _ e; omega) (fun e=>by have:=hlo _ e; omega)
   have bt2:W'.cell? ⟨w.heap.size,0,none⟩=some (bptr tb):=((bt.below hB).move (hT'.block _ (bt.below hB).lt (fun e=>by have:=hlo _ e; omega))).cell 0
   have bk2:W'.cell? ⟨w.heap.size + 1,0,none⟩=some (.string key):=((bk.below hB).move (hT'.block _ (bk.below hB).lt (fun e=>by have:=hlo _ e; omega))).cell 0
   exact elemfn hT2 bt2 key bk2 hk d (hsz d hd)
  ·rintro e w' ⟨v',rfl,h1,h2,h3⟩
   rw [flat_strs] at h1
   refine ⟨v',_,rfl,rfl,own_base h1 (fun q hq=>by rw [h2] at hq; exact hlo q hq),?_⟩
   exact ⟨h3.os.trans hB.os,h3.tape.trans hB.tape,h3.output.trans hB.output,Nat.le_trans hB.size h3.size,fun q hq=>(h3.block q (Nat.lt_of_lt_of_le hq hB.size) (fun e=>by have:=hlo q e; omega)).trans (hB.block q hq)⟩
 have HE:=hide hE
 have HD:=hide hD
 have HOK:=hide helsOk
 have HH:=hide (⟨hB0,bt,bk,hT0,hm,hz0⟩:_ ∧ _ ∧ _ ∧ _ ∧ _ ∧ _)
 have HW0:=hide hW0
 have hwl:w.heap.size < W0.heap.size:=by omega
 have hwl1:w.heap.size + 1 < W0.heap.size:=by omega
 have htl0:tb < W0.heap.size:=by omega
 clear hE hD helsOk hS hT hB0 hz0 bt bk hS0 hT0 hm hW0
 go_enter Tryz.func70,Tryz.ntmps70
 go_upto_region 1 with (fail)
 rw [HW0.out]
 go_cut [5] (fun v wc=>TElsCut W0 st saw key m n v wc)
 case first=>
  go_region_with (first | (go_at_call 110; refine (HE.out _ (by exact (Below.refl _ _).drew)).mono ?_; rintro e w1 ⟨v1,l1,rfl,h1,h2,h3,h4,h5⟩; obtain ⟨ao1,cap1,rfl,-,-,-⟩:=Row.shape (ownsRow_low h4 (Nat.zero_le _)); have H1:=hide (⟨h1,h2,h3,h4,h5⟩:_ ∧ _ ∧ _ ∧ _ ∧ _); clear h1 h2 h3 h4 h5) | (go_at_call 109; refine (HD.out w1 _ l1 H1.out.2.2.2.2 H1.out.2.2.2.1 (fun a ha=>HOK.out key a ((H1.out.2.1 a).1 ha).1)).mono ?_; rintro e w2 ⟨v2,l2,rfl,hl2,h1,h2⟩; obtain ⟨ao2,cap2,rfl,-,-,-⟩:=Row.shape (ownsRow_low h1 (Nat.zero_le _)); have H2:=hide (⟨h1,h2,hl2⟩:_ ∧ _ ∧ _); clear h1 h2 hl2))
  all_goals go_wp2_with fail
  all_goals go_meet
  all_goals exact ⟨l1,H1.out.1,H1.out.2.1,H1.out.2.2.1,by rw [← H2.out.2.2]; exact H2.out.1,H2.out.2.1⟩
 case rest=>
  obtain ⟨l0,hris,hmem,hlen,hown,hBc⟩:=hcut
  have hT1:=HH.out.2.2.2.1.below hBc
  have bt1:=HH.out.2.1.below hBc
  have bk1:=HH.out.2.2.1.below hBc
  obtain ⟨w3,cnt0,hrun0,hrg0,hcnt0,hg0,hs0⟩:=hT1.own.range place_keyed (t:=120) Tryz.underlying120
  obtain ⟨l1,hl1⟩:∃ l1,(l0.filter fun x=>!(m ⟨key,x⟩).isSome)=l1:=⟨_,rfl⟩
  rw [hl1] at hown
  have hl1len:l1.length ≤ n:=by rw [← hl1]; exact Nat.le_trans (List.length_filter_le _ _) hlen
  have hl1mem:∀ a,a ∈ l1 ↔ (st.els key a=true ∧ toldRaw saw st ⟨key,a⟩ ≠ []) ∧ m ⟨key,a⟩=none:=fun a=>by
   rw [← hl1,List.mem_filter,hmem a]
   cases m ⟨key,a⟩ <;> simp
  have hl1nd:l1.Nodup:=by
   rw [← hl1]
   refine List.Nodup.sublist List.filter_sublist ?_
   refine List.Pairwise.imp (fun {a b} h e=>?_) hris
   subst e
   rw [strLt_irr] at h; cases h
  have hB3:Below W0.heap.size W0 w3:=hBc.grown hg0 hBc.size (fun j hj=>by cases hj)
  have hrel0:TElsRel W0 mb wc.heap.size nW m key l1 u5 w3 (fun p=>(m p).isSome) cnt0 l1:=by
   refine ⟨hrg0,own_base (Row.touch (ownsRow_low hown (Nat.zero_le _)) (Touch.ofGrown hg0) (fun j _ e=>by cases e)) (fun j hj=>(hown.lt j hj).1),fun e=>?_,hl1nd,fun a=>?_,fun p hp=>hp,by omega,hB3,hBc.size⟩
   ·have:=(hown.lt _ e).2; omega
   ·constructor
    ·exact Or.inl
    ·rintro (c | ⟨x,c1,-,c3⟩)
     ·exact c
     ·rw [c1] at c3; cases c3
  have t1:wc.cell? ⟨w.heap.size,0,none⟩=some (.pointer (some ⟨tb,0,none⟩)):=bt1.cell 0
  have o2:wc.cell? ⟨tb,2,none⟩=some (.map (some mb)):=hT1.blk.cell 2
  have HR0:=hide (⟨hrel0,hl1mem,hl1len⟩:_ ∧ _ ∧ _)
  clear hris hmem hlen hown hBc hT1 bt1 bk1 hrg0 hcnt0 hg0 hs0 hl1 hl1nd hl1len hl1mem hB3 hrel0 t0 k0 c0 HE HD
  go_wp2_with fail
  go_loopw [5] (fun v wr=>∃ left cnt acc,TElsRel W0 mb wc.heap.size nW m key l1 v wr left cnt acc) (fun _ wr=>wr.rangeLeft mb wc.heap.size)
  case atStart=>exact ⟨_,_,_,HR0.out.1⟩
  case round=>
   obtain ⟨left,cnt,acc,hR⟩:=hrel
   have hrl:=hR.rng.left_eq
   clear t1 o2 hrun0
   rcases hR.rng.next place_keyed place_inj 0 with ⟨h0,hl,hrun⟩ | ⟨p,y,w4,cnt',hkl,hlx,hmx,hrun,hrg2,hltc,hgr,hsz,hen⟩
   ·have hall:∀ a x,m ⟨key,a⟩=some x → left ⟨key,a⟩=false:=fun a x hx=>by
     obtain ⟨kl,hkl⟩:=(HH.out.2.2.2.2.1 _ _ hx).lit
     exact hl _ kl hkl
    have HL:=hide (⟨hR,hall⟩:_ ∧ _)
    have hsort:=sort_strs _ _ _ _ hR.own (by have:=hR.few; have:=HR0.out.2.2; omega) hR.once
    have HSO:=hide hsort
    clear hR hall hl hsort hrl
    go_wp2_with fail
    refine HSO.out.mono ?_
    rintro e w5 ⟨rfl,l',hp1,hp2,hp3,hp4⟩
    have HE:=hide (⟨hp1,hp2,hp3,hp4⟩:_ ∧ _ ∧ _ ∧ _)
    clear hp1 hp2 hp3 hp4
    go_wp2_with fail
    go_ret
    obtain ⟨hp1,hp2,hp3,hp4⟩:=HE.out
    obtain ⟨hR,hall⟩:=HL.out
    have hB5:Below W0.heap.size W0 w5:=hR.bel.grown hp4 hR.bel.size (fun j hj=>(hR.own.lt j hj).1)
    refine ⟨_,l',rfl,hp2,fun a=>?_,by rw [hp1.length_eq]; have:=hR.few; have:=HR0.out.2.2; omega,ownsRow_low hp3 HH.out.1.size,HH.out.1.trans (hB5.mono HH.out.1.size)⟩
    rw [hp1.mem_iff,hR.some_ a,HR0.out.2.1 a]
    constructor
    ·rintro (c | ⟨x,c1,c2,c3⟩)
     ·exact Or.inl c
     ·exact Or.inr ⟨x,c1,c2⟩
    ·rintro (c | ⟨x,c1,c2⟩)
     ·exact Or.inl c
     ·exact Or.inr ⟨x,c1,c2,hall a x c1⟩
   ·have hB4:Below W0.heap.size W0 w4:=hR.bel.grown hgr hR.bel.size (fun j hj=>by injection hj with hj; have:=hR.low; omega)
    have hown4:w4.ownsRow W0.heap.size 9 1 u5 acc.length (strs acc):=own_base (Row.touch (ownsRow_low hR.own (Nat.zero_le _)) (Touch.ofGrown hgr) (fun j hj e=>hR.apart (hj.trans e))) (fun j hj=>(hR.own.lt j hj).1)
    obtain ⟨px,py⟩:=p
    obtain ⟨yk,ya,yv⟩:=y
    simp only [Place.val,Wr.val] at hrun hen
    generalize hW5:(w4.alloc (.cells #[.string px,.string py] 129)).alloc (.cells #[.int .i64 yk,.int .i64 ya,.string yv] 132)=W5
    have hB45:Below w4.heap.size w4 W5:=by rw [← hW5]; exact ((Below.refl _ _).alloc (Nat.le_refl _) _).alloc (by simp) _
    have z5:W5.heap.size=w4.heap.size + 2:=by rw [← hW5]; simp
    have hB5:Below W0.heap.size W0 W5:=hB4.trans (hB45.mono hB4.size)
    have bp:Blk W5 w4.heap.size [.string px,.string py] 129:=by rw [← hW5]; exact Blk.first w4 _ _ _
    have bw:Blk W5 (w4.heap.size + 1) [.int .i64 yk,.int .i64 ya,.string yv] 132:=by rw [← hW5]; exact Blk.second w4 _ _ _
    have hrg5:=hrg2.move (w':=W5) (hB45.block _ hrg2.map.lt) (hB45.block _ hrg2.lt)
    have own5:=ownsRow_below hown4 hB45
    have hfin:∀ (w6:World),RngIn w6 129 mb wc.heap.size nW Place.val Wr.val m (fun a'=>left a' && !decide (a'=⟨px,py⟩)) cnt' → w6.rangeLeft mb wc.heap.size < wr.rangeLeft mb wc.heap.size:=fun w6 h6=>by rw [h6.left_eq,hrl]; exact hltc
    have b0:W5.cell? ⟨w4.heap.size,0,none⟩=some (.string px):=bp.cell 0
    have b1:W5.cell? ⟨w4.heap.size,1,none⟩=some (.string py):=bp.cell 1
    have b2:W5.cell? ⟨w4.heap.size + 1,0,none⟩=some (.int .i64 yk):=bw.cell 0
    have b3:W5.cell? ⟨w.heap.size + 1,0,none⟩=some (.string key):=(HH.out.2.2.1.below hB5).cell 0
    have v1:w4.heap.size < W5.heap.size:=by omega
    have v2:w4.heap.size + 1 < W5.heap.size:=by omega
    have v3:w.heap.size + 1 < W5.heap.size:=(HH.out.2.2.1.below hB5).lt
    have hmbl:mb < W0.heap.size:=HH.out.2.2.2.1.own.lt
    have HR:=hide (⟨hR,hlx,hmx,hrg5,own5,hB5,hfin,hltc⟩:_ ∧ _ ∧ _ ∧ _ ∧ _ ∧ _ ∧ _ ∧ _)
    have HW5:=hide hW5
    clear hR hrl hlx hmx hrg2 hltc hgr hsz hkl hB4 hown4 hW5 hB45 z5 hB5 bp bw hrg5 own5 hfin
    by_cases hins:px=key ∧ yk=2
    ·obtain ⟨rfl,rfl⟩:=hins
     have e1:(px.toList == px.toList)=true:=str_eq.2 rfl
     go_upto_region 5 with (fail)
     rw [HW5.out]
     have hacn:acc.length + 1 ≤ 900000000:=by have:=HR.out.1.few; have:=HR.out.2.2.2.2.2.2.2; have:=HR0.out.2.2; omega
     have hsz5:W0.heap.size ≤ W5.heap.size:=HR.out.2.2.2.2.2.1.size
     clear hrun hen
     go_wp2_with (at_builtin; refine wpList_append_own_at _ rfl _ _ 41 rfl W0.heap.size 9 i0 (.string ⟨#[]⟩) 1 16 Tryz.underlying41 HI.out.1 HI.out.2.1 HI.out.2.2.1 HI.out.2.2.2 rfl (by decide) _ _ _ rfl (HR.out.2.2.2.2.1.alloc _) ⟨W5.heap.size,0,none⟩ 1 1 [.string py] rfl rfl (cell_one_new _ _ _) (by intro u hu; simp at hu; subst hu; rfl) (by unfold maxLen; omega) (by omega) (by simp; omega) ?_; intro v6 w6 hown6 hgrow6 hnil6 hat6)
     obtain ⟨hR,hlx,hmx,hrg5,own5,hB5,hfin,hltc⟩:=HR.out
     have hgr6:Touch (fun k=>some k=u5.ownBlock) W5 w6:=((Touch.refl _ W5).alloc (.cells #[.string py] 9)).then ⟨hgrow6.os,hgrow6.tape,hgrow6.output,hgrow6.size,fun k hk hn=>hgrow6.block k hk hn⟩
     have hlo:∀ k,u5.ownBlock=some k → W0.heap.size ≤ k:=fun k hk=>(own5.lt k hk).1
     have hrg6:=hrg5.move (w':=w6) (hgr6.block _ hrg5.map.lt (fun e=>by have:=hlo _ e.symm; omega)) (hgr6.block _ hrg5.lt (fun e=>hR.apart e.symm))
     have hB6:Below W0.heap.size W0 w6:=(hB5.alloc hsz5 _).grown hgrow6 (by simp; omega) (fun j hj=>hlo j hj)
     have hrl5:=hrg5.lt
     refine ⟨⟨_,cnt',acc ++ [py],⟨hrg6,by rw [strs_snoc]; simpa using hown6,fun e=>?_,?_,fun a=>?_,fun p hp=>hR.sub p (by simp only [Bool.and_eq_true] at hp; exact hp.1),by rw [List.length_append]; have:=hR.few; simp; omega,hB6,hR.low⟩⟩,hfin _ hrg6⟩
     ·rcases hat6 with c | c
      ·rw [c] at e; exact hR.apart e
      ·rw [c] at e
       injection e with e
       simp at e; omega
     ·rw [List.nodup_append]
      refine ⟨hR.once,by simp,fun x hx z hz e=>?_⟩
      rw [List.mem_singleton] at hz
      subst hz; subst e
      rcases (hR.some_ x).1 hx with c | ⟨x',-,-,c⟩
      ·have:=((HR0.out.2.1 x).1 c).2; rw [hmx] at this; cases this
      ·rw [hlx] at c; cases c
     ·rw [List.mem_append,List.mem_singleton,hR.some_ a]
      by_cases c:a=py
      ·subst c; simp [hmx]
      ·simp [c]
    ·have hno:∀ a,(∃ x,m ⟨key,a⟩=some x ∧ x.kind=2 ∧ left ⟨key,a⟩=false) ↔ ∃ x,m ⟨key,a⟩=some x ∧ x.kind=2 ∧ (left ⟨key,a⟩ && !decide ((⟨key,a⟩:Place)=⟨px,py⟩))=false:=fun a=>by
      constructor
      ·rintro ⟨x,c1,c2,c3⟩; exact ⟨x,c1,c2,by rw [c3]; rfl⟩
      ·rintro ⟨x,c1,c2,c3⟩
       refine ⟨x,c1,c2,?_⟩
       by_cases c:(⟨key,a⟩:Place)=⟨px,py⟩
       ·rw [c,HR.out.2.2.1] at c1
        cases c1
        have:key=px:=by injection c
        exact absurd ⟨this.symm,c2⟩ hins
       ·simpa [c] using c3
     have HNO:=hide hno
     clear hno
     have hend:∃ left' cnt'' acc',TElsRel W0 mb wc.heap.size nW m key l1 u5 W5 left' cnt'' acc':=by
      obtain ⟨hR,hlx,hmx,hrg5,own5,hB5,hfin,hltc⟩:=HR.out
      exact ⟨_,cnt',acc,⟨hrg5,own5,hR.apart,hR.once,fun a=>by rw [hR.some_ a,HNO.out a],fun p hp=>hR.sub p (by simp only [Bool.and_eq_true] at hp; exact hp.1),by have:=hR.few; omega,hB5,hR.low⟩⟩
     have hend2:=HR.out.2.2.2.2.2.2.1 W5 HR.out.2.2.2.1
     have HEND:=hide (⟨hend,hend2⟩:_ ∧ _)
     clear hend hend2
     by_cases hkey:px=key
     ·subst hkey
      have hyk:(yk == 2)=false:=beq_false_of_ne (fun e=>hins ⟨rfl,e⟩)
      have e1:(px.toList == px.toList)=true:=str_eq.2 rfl
      go_upto_region 5 with (fail)
      rw [HW5.out]
      clear hrun hen
      go_wp2_with fail
      exact HEND.out
     ·have e1:(px.toList == key.toList)=false:=str_ne.2 hkey
      go_upto_region 5 with (fail)
      rw [HW5.out]
      clear hrun hen
      go_wp2_with fail
      exact HEND.out
end Go.Proofs.YtiplgdkpnhamaaaGreatDoor
