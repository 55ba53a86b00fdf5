/- The texts QL0, QL1, QL2, QLa, QL3, joined. -/
import Derived.Test.YtiplgdkpnhamaaaGreatDoorE69
namespace Go.Proofs.YtiplgdkpnhamaaaGreatDoor.Tv
open Go.RowKit
theorem abort_hs (d:DRep) (tx:Int):(abortD d tx).hs=d.hs:=by unfold abortD;split <;> rfl
section
variable {n:Nat} {w w':World} {o o':Nat→Tag} {T:Nat→Tag} {B:Nat→Nat} {ts ts':List RTx} {D:Nat→DRep} {X:Nat→DX} {i:Nat}
theorem Net.abort (h:Net n w o T B ts D X) (hi:i < n) (tx:Int):Calls Tryz.prog 34 #[ptr (B i),.int .i64 tx] w fun e w'=>e=.returned (abortAns (D i) tx)∧∃ o',Net n w' o' T B ts (put D i (abortD (D i) tx)) X∧TouchT (grp n T) w o w' o':=by
 refine ((papi X).abort w o (T i) (B i) n i (D i) tx (h.pr i hi) (h.room hi)).mono ?_
 rintro e w' ⟨rfl,o',a,c⟩
 exact ⟨rfl,o',h.calm hi a c (abort_hs _ _)⟩
theorem Nk.abort (h:Nk n w o T B ts D X) (hi:i < n) (tx:Int):Calls Tryz.prog 34 #[ptr (B i),.int .i64 tx] w fun e w'=>e=.returned (abortAns (D i) tx)∧∃ o',Nk n w' o' T B ts (put D i (abortD (D i) tx)) X∧TouchT (grp n T) w o w' o':=
 (h.net.abort hi tx).mono fun _ _ ⟨e,o',h1,h2⟩=>⟨e,o',h.stay (abort_hs _ _) h1,h2⟩
theorem Nk.read (h:Nk n w o T B ts D X) (hi:i < n) (tl:Tag) (htl:tl≠T i) (tx:Int) (key:ByteArray) (hs:key.size≤maxLen):Calls Tryz.prog 33 #[ptr (B i),.int .i64 tx,.string key] w fun e w'=>∃ lv o',e=.returned (valAgg (readAns (opnAt (D i) tx) key (D i).hs n).1 lv (readAns (opnAt (D i) tx) key (D i).hs n).2.2) ∧
  Nk n w' o' T B ts D X∧TouchT (grp n T) w o w' o'∧Pc w' o' tl 9 1 lv (readAns (opnAt (D i) tx) key (D i).hs n).2.1.length (strs (readAns (opnAt (D i) tx) key (D i).hs n).2.1):=
 (h.net.read hi tl htl tx key hs).mono fun _ _ ⟨lv,o',e,h1,h2,h3⟩=>⟨lv,o',e,⟨h1,h.kn⟩,h2,h3⟩
end
theorem sees_own {n:Nat} {hs:List RTx} (h:HistG n hs) {u:RTx} (hu:u ∈ hs):seesV (visOf n hs) u.rep u.seq=true:=(seen_mem h h (fun _ h=>h) hu).2 hu
section
variable {n c:Nat} {w0 w:World} {gb g cap:Nat} {B:Nat→Nat} {ts:List RTx} {H H0:Nat→List RTx} {O:Nat→Nat→Option RTx} {X X0:Nat→DX} {L:List Let} {o:Nat→Tag} {j:Nat}
theorem RdAt.full (h:RdAt n ts H0 X0 H X n 0):Full n ts H:=fun k r hk hr=>h.one r k (Or.inl hr) hr hk
end
def kca:ByteArray:=⟨#[99,97]⟩
def kcb:ByteArray:=⟨#[99,98]⟩
def kra:ByteArray:=⟨#[114,97]⟩
def krb:ByteArray:=⟨#[114,98]⟩
def mvOps (x:Nat) (d:ByteArray):List ROp:=[⟨1,kca,noEl,x⟩,⟨2,kra,d,0⟩,⟨1,kcb,noEl,-(x:Int)⟩,⟨2,krb,d,0⟩]
def IsMv (u:RTx):Prop:=∃ x d,1≤x∧x≤100∧u.ops=mvOps x d
theorem wrap_id {z:Int} (h1:-9223372036854775808≤z) (h2:z≤9223372036854775807):wrap64 z=z:=by
 unfold wrap64
 omega
theorem mv_sum {x:Nat} {d:ByteArray} (hx:x≤100):sumOf kca (mvOps x d)=x∧sumOf kcb (mvOps x d)=-(x:Int):=by
 have n1:kcb≠kca:=by decide
 have n2:kca≠kcb:=by decide
 have e:mvOps x d=((([]++[⟨1,kca,noEl,(x:Int)⟩])++[⟨2,kra,d,0⟩])++[⟨1,kcb,noEl,-(x:Int)⟩])++[⟨2,krb,d,0⟩]:=rfl
 have z:∀ k,sumOf k []=0:=fun _=>rfl
 constructor
 ·rw [e,sumOf_snoc,if_neg (fun h=>by exact absurd h.1 (by simp)),sumOf_snoc,if_neg (fun h=>n1 h.2),sumOf_snoc,if_neg (fun h=>by exact absurd h.1 (by simp)),sumOf_snoc,if_pos ⟨rfl,rfl⟩,z,Int.zero_add]
  exact wrap_id (by show _≤(x:Int);omega) (by show (x:Int)≤_;omega)
 ·rw [e,sumOf_snoc,if_neg (fun h=>by exact absurd h.1 (by simp)),sumOf_snoc,if_pos ⟨rfl,rfl⟩,sumOf_snoc,if_neg (fun h=>by exact absurd h.1 (by simp)),sumOf_snoc,if_neg (fun h=>n2 h.2),z,Int.zero_add]
  exact wrap_id (by show _≤-(x:Int);omega) (by show -(x:Int)≤_;omega)
theorem mv_last {x:Nat} {d:ByteArray}:lastOf kra noEl (mvOps x d)=some ⟨2,kra,d,0⟩∧lastOf krb noEl (mvOps x d)=some ⟨2,krb,d,0⟩:=by
 have n1:krb≠kra:=by decide
 have n2:kcb≠kra:=by decide
 have e:(mvOps x d).reverse=[⟨2,krb,d,0⟩,⟨1,kcb,noEl,-(x:Int)⟩,⟨2,kra,d,0⟩,⟨1,kca,noEl,(x:Int)⟩]:=rfl
 have h1:hits kra noEl ⟨2,krb,d,0⟩=false:=decide_eq_false fun h=>n1 h.1
 have h2:hits kra noEl ⟨1,kcb,noEl,-(x:Int)⟩=false:=decide_eq_false fun h=>n2 h.1
 have h3:hits kra noEl ⟨2,kra,d,0⟩=true:=decide_eq_true ⟨rfl,Or.inl rfl⟩
 have h4:hits krb noEl ⟨2,krb,d,0⟩=true:=decide_eq_true ⟨rfl,Or.inl rfl⟩
 unfold lastOf
 rw [e]
 constructor
 ·rw [List.find?_cons,h1,List.find?_cons,h2,List.find?_cons,h3]
 ·rw [List.find?_cons,h4]
section
variable {v:List Int} {ts:List RTx}
theorem mv_over (hm:∀ u,u ∈ ts→IsMv u) (t:RTx):overOf v kra t ts=overOf v krb t ts:=by
 rw [overOf_any,overOf_any,Bool.eq_iff_iff,List.any_eq_true,List.any_eq_true]
 have key:∀ u,u ∈ ts→(lastOf kra noEl u.ops).isSome=(lastOf krb noEl u.ops).isSome:=fun u hu=>by
  obtain ⟨x,d,-,-,e⟩:=hm u hu
  rw [e,(mv_last (x:=x) (d:=d)).1,(mv_last (x:=x) (d:=d)).2];rfl
 constructor
 ·rintro ⟨u,hu,h⟩
  exact ⟨u,hu,by rw [← key u hu];exact h⟩
 ·rintro ⟨u,hu,h⟩
  exact ⟨u,hu,by rw [key u hu];exact h⟩
theorem find_in (ts:List RTx) (r s:Int):findTx ts r s ∈ ts∨findTx ts r s=⟨0,0,[],[]⟩:=by
 unfold findTx
 cases h:ts.find? (isDot r s) with
 | none=>exact Or.inr rfl
 | some u=>exact Or.inl (List.mem_of_find?_eq_some h)
theorem mv_regAt (hm:∀ u,u ∈ ts→IsMv u) (r s:Int):regAt v kra ts (findTx ts r s)=regAt v krb ts (findTx ts r s):=by
 rcases find_in ts r s with h | h
 ·obtain ⟨x,d,-,-,e⟩:=hm _ h
  unfold regAt
  rw [mv_over hm,e,(mv_last (x:=x) (d:=d)).1,(mv_last (x:=x) (d:=d)).2]
 ·rw [h];rfl
theorem mv_reg (hm:∀ u,u ∈ ts→IsMv u) (n:Nat):registerOf v kra ts n=registerOf v krb ts n:=by
 unfold registerOf
 rw [List.flatMap_def,List.flatMap_def]
 congr 1
 refine List.map_congr_left fun r _=>?_
 unfold regRow
 rw [List.flatMap_def,List.flatMap_def]
 congr 1
 refine List.map_congr_left fun s _=>?_
 exact mv_regAt hm _ _
theorem mv_csum (hm:∀ u,u ∈ ts→IsMv u):csum v kcb ts=-csum v kca ts∧0≤csum v kca ts∧csum v kca ts≤100 * ts.length:=by
 induction ts with
 | nil=>exact ⟨rfl,Int.le_refl _,Int.le_refl _⟩
 | cons u l ih=>
  obtain ⟨i1,i2,i3⟩:=ih fun w hw=>hm w (List.mem_cons_of_mem _ hw)
  obtain ⟨x,d,h1,h2,h3⟩:=hm u (by simp)
  obtain ⟨s1,s2⟩:=mv_sum (x:=x) (d:=d) h2
  have c1:csum v kca (u :: l)=(if seesV v u.rep u.seq then sumOf kca u.ops else 0)+csum v kca l:=by simp [csum]
  have c2:csum v kcb (u :: l)=(if seesV v u.rep u.seq then sumOf kcb u.ops else 0)+csum v kcb l:=by simp [csum]
  rw [c1,c2,h3,s1,s2,List.length_cons]
  split <;> omega
end
theorem mv_some {n:Nat} {hs:List RTx} (h:HistG n hs) (hm:∀ u,u ∈ hs→IsMv u) (hne:0 < hs.length):0 < (registerOf (visOf n hs) kra hs n).length:=by
 obtain ⟨j,hj⟩:∃ j,hs.length=j+1:=⟨hs.length - 1,by omega⟩
 have hjl:j < hs.length:=by omega
 have hk:=h.tx j hjl
 have hmem:hs[j] ∈ hs:=List.getElem_mem hjl
 have hseq:hs[j].seq≤(cntR hs hs[j].rep.toNat:Int):=(h.seq_le hmem).2
 have hpos:1≤hs[j].seq:=(h.seq_le hmem).1
 have hf:findTx hs hs[j].rep hs[j].seq=hs[j]:=find_one h.uniq (fun _ h=>h) hmem (by unfold isDot;simp)
 have hov:overOf (visOf n hs) kra hs[j] hs=false:=by
  rw [overOf_any,List.any_eq_false]
  intro u hu hc
  obtain ⟨k,hkl,e⟩:=List.getElem_of_mem hu
  have h2:seesV u.saw hs[j].rep hs[j].seq=true:=by
   simp only [Bool.and_eq_true] at hc
   exact hc.1.2
  rw [← e] at h2
  have:=h.back hkl hjl h2
  omega
 obtain ⟨x,d,-,-,e⟩:=hm _ hmem
 have hr:regAt (visOf n hs) kra hs hs[j]=[d]:=by
  unfold regAt
  rw [e,(mv_last (x:=x) (d:=d)).1]
  simp only [hov]
  rfl
 have hin:d ∈ registerOf (visOf n hs) kra hs n:=by
  unfold registerOf
  rw [List.mem_flatMap]
  refine ⟨hs[j].rep.toNat,List.mem_range.2 hk.rN,?_⟩
  unfold regRow
  rw [List.mem_flatMap]
  refine ⟨(hs[j].seq - 1).toNat,List.mem_range.2 ?_,?_⟩
  ·rw [visOf_get hk.rN,Int.toNat_natCast];omega
  ·have e1:((hs[j].rep.toNat:Nat):Int)=hs[j].rep:=hk.repN
   have e2:(((hs[j].seq - 1).toNat:Nat):Int)+1=hs[j].seq:=by omega
   rw [e1,e2,hf,hr]
   simp
 exact List.length_pos_of_mem hin
theorem csum_pos {n:Nat} {hs:List RTx} (h:HistG n hs) (hm:∀ u,u ∈ hs→IsMv u) (hne:0 < hs.length):0 < csum (visOf n hs) kca hs:=by
 have key:∀ l:List RTx,(∀ u,u ∈ l→u ∈ hs)→(l.length:Int)≤csum (visOf n hs) kca l:=by
  intro l
  induction l with
  | nil=>intro _;exact Int.le_refl _
  | cons u l ih=>
   intro hl
   have i:=ih fun w hw=>hl w (List.mem_cons_of_mem _ hw)
   obtain ⟨x,d,h1,h2,h3⟩:=hm u (hl u (by simp))
   have c1:csum (visOf n hs) kca (u :: l)=(if seesV (visOf n hs) u.rep u.seq then sumOf kca u.ops else 0)+csum (visOf n hs) kca l:=by simp [csum]
   rw [c1,if_pos (sees_own h (hl u (by simp))),h3,(mv_sum (d:=d) h2).1,List.length_cons]
   omega
 have:=key hs fun _ h=>h
 omega
def oI (i:Nat) (t:RTx):Nat→Nat→Option RTx:=put (fun _ _=>none) i (setSlot (fun _=>none) 0 (some t))
theorem oI_at (i:Nat) (t:RTx):oI i t i 0=some t:=by unfold oI;rw [put_same,setSlot_same]
theorem oI_set (i:Nat) (t u:RTx):put (oI i t) i (setSlot (oI i t i) 0 (some u))=oI i u:=by
 unfold oI
 rw [put_two,put_same,set_set]
theorem oI_end (i:Nat) (t:RTx):put (oI i t) i (setSlot (oI i t i) 0 none)=fun _ _=>none:=by
 unfold oI
 rw [put_two,put_same,set_back rfl]
 exact put_self (fun (_ _:Nat)=>(none:Option RTx)) i
section
variable {n c:Nat} {w0 w:World} {gb g cap:Nat} {B:Nat→Nat} {ts:List RTx} {H:Nat→List RTx} {X:Nat→DX} {L:List Let} {o:Nat→Tag} {i:Nat} {t:RTx}
theorem Ks.openI (h:Ks n c w0 gb g cap B ts H (fun _ _=>none) X L w o) (hi:i < n):Calls Tryz.prog 27 #[bptr (B i)] w fun e w'=>e=.returned (.tuple #[.int .i64 0,.int .i64 0])∧∃ o',Ks n c w0 gb g cap B ts H (oI i ⟨0,0,visOf n (H i),[]⟩) X L w' o'∧TouchT (kg c) w o w' o':=by
 obtain ⟨e1,e2⟩:=d_begin (n:=n) (hs:=H i) (op:=fun _=>none) free_new (by omega)
 refine (h.nk.begins hi).mono ?_
 rw [e1,e2,put_hO]
 rintro e w' ⟨rfl,o',h1,h2⟩
 exact ⟨rfl,o',h.out h1 h2 (fun _ hu=>hu) fun _ _=>Nat.le_refl _⟩
theorem Ks.addI (h:Ks n c w0 gb g cap B ts H (oI i t) X L w o) (hi:i < n) (p:ROp) (hk:p.kind=1) (hs:p.key.size≤maxLen) (he:doesErr (some t) p=0):Calls Tryz.prog 28 #[bptr (B i),.int .i64 0,.string p.key,.int .i64 p.amount] w fun e w'=>e=.returned (.int .i64 0)∧∃ o',Ks n c w0 gb g cap B ts H (oI i { t with ops:=t.ops++[p] }) X L w' o'∧TouchT (kg c) w o w' o':=by
 have hd:doesD (dD n (H i) (oI i t i)) 0 p=_:=d_does (n:=n) (hs:=H i) (op:=oI i t i) (k:=0) (oI_at i t) he
 have ha:opnAt (dD n (H i) (oI i t i)) 0=some t:=(opn_at n (H i) (oI i t i) 0).trans (oI_at i t)
 refine (h.nk.add hi 0 p hk hs).mono ?_
 rintro e w' ⟨rfl,o',h1,h2⟩
 rw [hd,put_hO,oI_set] at h1
 rw [ha,he]
 exact ⟨rfl,o',h.out h1 h2 (fun _ hu=>hu) fun _ _=>Nat.le_refl _⟩
theorem Ks.writeI (h:Ks n c w0 gb g cap B ts H (oI i t) X L w o) (hi:i < n) (p:ROp) (hk:p.kind=2) (hs:p.key.size≤maxLen) (hv:p.value.size≤maxLen) (he:doesErr (some t) p=0):Calls Tryz.prog 30 #[bptr (B i),.int .i64 0,.string p.key,.string p.value] w fun e w'=>e=.returned (.int .i64 0)∧∃ o',Ks n c w0 gb g cap B ts H (oI i { t with ops:=t.ops++[p] }) X L w' o'∧TouchT (kg c) w o w' o':=by
 have hd:doesD (dD n (H i) (oI i t i)) 0 p=_:=d_does (n:=n) (hs:=H i) (op:=oI i t i) (k:=0) (oI_at i t) he
 have ha:opnAt (dD n (H i) (oI i t i)) 0=some t:=(opn_at n (H i) (oI i t i) 0).trans (oI_at i t)
 refine (h.nk.write hi 0 p hk hs hv).mono ?_
 rintro e w' ⟨rfl,o',h1,h2⟩
 rw [hd,put_hO,oI_set] at h1
 rw [ha,he]
 exact ⟨rfl,o',h.out h1 h2 (fun _ hu=>hu) fun _ _=>Nat.le_refl _⟩
theorem Ks.commitI (h:Ks n c w0 gb g cap B ts H (oI i t) X L w o) (hi:i < n) (ho:0 < t.ops.length) (hf:ts.length+1≤1100000):Calls Tryz.prog 32 #[bptr (B i),.int .i64 0] w fun e w'=>e=.returned (.tuple #[.agg #[.int .i64 i,.int .i64 ((cntR (H i) i:Int)+1)],.int .i64 0])∧∃ o',Ks n c w0 gb g cap B (ts++[comT n i (H i) t]) (put H i (H i++[comT n i (H i) t])) (fun _ _=>none) X L w' o'∧TouchT (kg c) w o w' o':=by
 have a:=h.commit hi (k:=0) (oI_at i t) ho hf
 rw [oI_end] at a
 exact a
theorem Ks.abortI (h:Ks n c w0 gb g cap B ts H (oI i t) X L w o) (hi:i < n):Calls Tryz.prog 34 #[bptr (B i),.int .i64 0] w fun e w'=>e=.returned (.int .i64 0)∧∃ o',Ks n c w0 gb g cap B ts H (fun _ _=>none) X L w' o'∧TouchT (kg c) w o w' o':=by
 have ha:opnAt (dD n (H i) (oI i t i)) 0=some t:=(opn_at n (H i) (oI i t i) 0).trans (oI_at i t)
 have e1:abortAns (dD n (H i) (oI i t i)) 0=.int .i64 0:=by unfold abortAns;rw [ha];rfl
 have e2:abortD (dD n (H i) (oI i t i)) 0=dD n (H i) (setSlot (oI i t i) 0 none):=by unfold abortD;rw [ha];rfl
 refine (h.nk.abort hi 0).mono ?_
 rw [e1,e2,put_hO,oI_end]
 rintro e w' ⟨rfl,o',h1,h2⟩
 exact ⟨rfl,o',h.out h1 h2 (fun _ hu=>hu) fun _ _=>Nat.le_refl _⟩
theorem Ks.readI (h:Ks n c w0 gb g cap B ts H (oI i t) X L w o) (hi:i < n) (tl:Tag) (htl:free1 tl) {key:ByteArray} (hs:key.size≤maxLen) {sm:Int} {ss:List ByteArray} (he:readAns (some t) key (H i) n=(sm,ss,0)):Calls Tryz.prog 33 #[bptr (B i),.int .i64 0,.string key] w fun e w'=>∃ lv o',e=.returned (valAgg sm lv 0)∧Ks n c w0 gb g cap B ts H (oI i t) X L w' o'∧TouchT (kg c) w o w' o'∧Pc w' o' tl 9 1 lv ss.length (strs ss):=by
 have ha:opnAt (dD n (H i) (oI i t i)) 0=some t:=(opn_at n (H i) (oI i t i) 0).trans (oI_at i t)
 refine (h.nk.read hi tl (free_tgc htl c i) 0 key hs).mono ?_
 rintro e w' ⟨lv,o',rfl,h1,h2,h3⟩
 have e2:(dD n (H i) (oI i t i)).hs=H i:=rfl
 simp only [ha,e2,he] at h3 ⊢
 obtain ⟨k1,k2⟩:=h.out h1 h2 (fun _ hu=>hu) fun _ _=>Nat.le_refl _
 exact ⟨lv,o',rfl,k1,k2,h3⟩
end
theorem step_ts {n:Nat} {p:KOp} {s s':PS} (h:StepR n p s s') (h1:p.kind≠1) (h2:p.kind≠2):s'.ts=s.ts:=by
 unfold StepR at h
 rw [if_neg h1,if_neg h2] at h
 split at h
 ·obtain ⟨hs,rfl,-⟩:=h;rfl
 ·split at h
  ·subst h;rfl
  ·split at h
   ·split at h
    ·obtain ⟨hs,rfl,-⟩:=h;rfl
    ·subst h;rfl
   ·subst h;rfl
theorem mv_told {n:Nat} {hs:List RTx} (h:HistG n hs) (hl:hs.length≤1100000) (hm:∀ u,u ∈ hs→IsMv u):∃ (a:Int) (l:List ByteArray),readAns (some ⟨0,0,visOf n hs,[]⟩) kca hs n=(a,[],0)∧readAns (some ⟨0,0,visOf n hs,[]⟩) kcb hs n=(-a,[],0)∧readAns (some ⟨0,0,visOf n hs,[]⟩) kra hs n=(0,l,0)∧readAns (some ⟨0,0,visOf n hs,[]⟩) krb hs n=(0,l,0)∧0≤a∧a≤110000000∧l.length≤5500000∧(0 < a↔0 < hs.length)∧(0 < l.length↔0 < hs.length):=by
 obtain ⟨c1,c2,c3⟩:=mv_csum (v:=visOf n hs) hm
 have k1:kindOf kca=99:=by decide
 have k2:kindOf kcb=99:=by decide
 have k3:kindOf kra=114:=by decide
 have k4:kindOf krb=114:=by decide
 have z:∀ k,sumOf k []=0:=fun _=>rfl
 have hlen:((hs.length:Nat):Int)≤1100000:=by omega
 have w1:wrap64 (csum (visOf n hs) kca hs)=csum (visOf n hs) kca hs:=wrap_id (by omega) (by omega)
 have w2:wrap64 (-csum (visOf n hs) kca hs)=-csum (visOf n hs) kca hs:=wrap_id (by omega) (by omega)
 refine ⟨csum (visOf n hs) kca hs,registerOf (visOf n hs) kra hs n,?_,?_,?_,?_,c2,by omega,?_,?_,?_⟩
 ·simp only [readAns,k1,if_true]
  rw [counter_csum,z,Int.add_zero,w1,w1]
 ·simp only [readAns,k2,if_true]
  rw [counter_csum,z,Int.add_zero,c1,w2,w2]
 ·simp only [readAns,k3]
  rfl
 ·simp only [readAns,k4]
  rw [mv_reg hm]
  rfl
 ·have:=register_len (visOf n hs) kra hs (vis_few hl) n
  have:=h.n5
  omega
 ·constructor
  ·intro ha
   by_cases c:0 < hs.length
   ·exact c
   ·have e:hs=[]:=List.length_eq_zero_iff.1 (by omega)
    subst e
    exact absurd (show (0:Int) < 0 from ha) (Int.lt_irrefl 0)
  ·exact csum_pos h hm
 ·constructor
  ·intro ha
   by_cases c:0 < hs.length
   ·exact c
   ·have e:hs=[]:=List.length_eq_zero_iff.1 (by omega)
    subst e
    have e2:(registerOf (visOf n []) kra [] n).length=0:=by
     have hz:∀ m,registerOf (visOf n []) kra [] m=[]:=fun m=>by
      induction m with
      | zero=>rfl
      | succ m ih=>
       rw [registerOf_succ,ih]
       have:(visOf n ([]:List RTx)).getD m 0=0:=by
        by_cases c:m < n
        ·rw [visOf_get c];rfl
        ·rw [visOf_out (by omega)]
       rw [this];rfl
     rw [hz];rfl
    omega
  ·exact mv_some h hm
structure WhAt (n:Nat) (w0:World) (gb g cap:Nat) (B:Nat→Nat) (k:Nat) (s:PS) (X:Nat→DX) (w:World) (o:Nat→Tag):Prop where
 ks:Ks n 0 w0 gb g cap B s.ts s.H (fun _ _=>none) X s.L w o
 mv:∀ u,u ∈ s.ts→IsMv u
 few:s.ts.length≤k
 late:s.L.length≤k
theorem WhAt.below {n:Nat} {w0 w w':World} {gb g cap:Nat} {B:Nat→Nat} {k:Nat} {s:PS} {X:Nat→DX} {o:Nat→Tag} (h:WhAt n w0 gb g cap B k s X w o) (hB:Below w.heap.size w w'):WhAt n w0 gb g cap B k s X w' (own2 o w.heap.size fun _=>(14,0,0)):=
 ⟨(h.ks.below hB (14,0,0)).1,h.mv,h.few,h.late⟩
theorem mv_ok1 {t:RTx} (h:t.ops.length < 16) {x:Nat} (hx:x≤100):doesErr (some t) ⟨1,kca,noEl,x⟩=0∧doesErr (some t) ⟨1,kcb,noEl,-(x:Int)⟩=0:=by
 have k1:kindOf kca=99:=by decide
 have k2:kindOf kcb=99:=by decide
 constructor
 ·unfold doesErr
  simp only [k1,kindByte]
  rw [if_neg (by simp),if_neg (by simp;omega),if_neg (by omega)]
 ·unfold doesErr
  simp only [k2,kindByte]
  rw [if_neg (by simp),if_neg (by simp;omega),if_neg (by omega)]
theorem mv_ok2 {t:RTx} (h:t.ops.length < 16) {d:ByteArray} (hd:d.size=1):doesErr (some t) ⟨2,kra,d,0⟩=0∧doesErr (some t) ⟨2,krb,d,0⟩=0:=by
 have k1:kindOf kra=114:=by decide
 have k2:kindOf krb=114:=by decide
 constructor
 ·unfold doesErr
  simp only [k1,kindByte]
  rw [if_neg (by simp),if_neg (by simp [hd]),if_neg (by omega)]
 ·unfold doesErr
  simp only [k2,kindByte]
  rw [if_neg (by simp),if_neg (by simp [hd]),if_neg (by omega)]
theorem two_max:(2:Nat)≤maxLen:=by unfold maxLen;omega
structure Kp (n:Nat) (w0:World) (gb g cap:Nat) (B:Nat→Nat) (ts:List RTx) (H:Nat→List RTx) (O:Nat→Nat→Option RTx) (X:Nat→DX) (L:List Let) (ty:TypeId) (bs:List (Nat × List Value)) (rs:List (Value × List ByteArray)) (w:World) (o:Nat→Tag):Prop where
 ks:Ks n 0 w0 gb g cap B ts H O X L w o
 bs:∀ b,b ∈ bs→Bl w o (13,0,0) b.1 b.2 ty
 rs:∀ r,r ∈ rs→Pc w o (9,0,0) 9 1 r.1 r.2.length (strs r.2)
section
variable {n:Nat} {w0 w w':World} {gb g cap:Nat} {B:Nat→Nat} {ts ts':List RTx} {H H':Nat→List RTx} {O O':Nat→Nat→Option RTx} {X X':Nat→DX} {L L':List Let} {ty:TypeId} {bs:List (Nat × List Value)} {rs:List (Value × List ByteArray)} {o o':Nat→Tag} {b:Nat} {cs:List Value}
theorem Kp.of (h:Ks n 0 w0 gb g cap B ts H O X L w o) (hb:Bl w o (13,0,0) b cs ty):Kp n w0 gb g cap B ts H O X L ty [(b,cs)] [] w o:=
 ⟨h,fun q hq=>by simp at hq;subst hq;exact hb,fun r hr=>by simp at hr⟩
theorem Kp.bare (h:Ks n 0 w0 gb g cap B ts H O X L w o):Kp n w0 gb g cap B ts H O X L ty [] [] w o:=
 ⟨h,fun q hq=>by simp at hq,fun r hr=>by simp at hr⟩
theorem Kp.next (h:Kp n w0 gb g cap B ts H O X L ty bs rs w o) (k:Ks n 0 w0 gb g cap B ts' H' O' X' L' w' o') (t:TouchT (kg 0) w o w' o'):Kp n w0 gb g cap B ts' H' O' X' L' ty bs rs w' o':=
 ⟨k,fun b hb=>(h.bs b hb).touch t (free_kg (by simp [free1]) _),fun r hr=>(h.rs r hr).touch t (free_kg (by simp [free1]) _)⟩
theorem Kp.below (h:Kp n w0 gb g cap B ts H O X L ty bs rs w o) (hB:Below w.heap.size w w'):Kp n w0 gb g cap B ts H O X L ty bs rs w' (own2 o w.heap.size fun _=>(14,0,0)):=by
 obtain ⟨a,c⟩:=h.ks.below hB (14,0,0)
 exact h.next a c
theorem Kp.box (h:Kp n w0 gb g cap B ts H O X L ty bs rs w o) (hB:Below w.heap.size w w') (hb:Blk w' w.heap.size cs ty):Kp n w0 gb g cap B ts H O X L ty ((w.heap.size,cs) :: bs) rs w' (own2 o w.heap.size fun _=>(13,0,0)):=by
 obtain ⟨a,c⟩:=h.ks.below hB (13,0,0)
 have k:=h.next a c
 refine ⟨a,fun q hq=>?_,k.rs⟩
 rcases List.mem_cons.1 hq with rfl | hq
 ·exact ⟨hb,own2_high (Nat.le_refl _)⟩
 ·exact k.bs q hq
theorem Kp.list (h:Kp n w0 gb g cap B ts H O X L ty bs rs w o) {lv:Value} {l:List ByteArray} (hp:Pc w o (9,0,0) 9 1 lv l.length (strs l)):Kp n w0 gb g cap B ts H O X L ty bs ((lv,l) :: rs) w o:=
 ⟨h.ks,h.bs,fun r hr=>by rcases List.mem_cons.1 hr with rfl | hr;exact hp;exact h.rs r hr⟩
theorem Kp.at (h:Kp n w0 gb g cap B ts H O X L ty bs rs w o) {j:Nat} (hj:bs[j]? = some (b,cs)):Blk w b cs ty:=(h.bs _ (List.mem_of_getElem? hj)).blk
end
theorem full_some {n:Nat} {ts:List RTx} {H:Nat→List RTx} (hf:Full n ts H) (h:HistG n ts) (h0:0 < n) (hs:∀ u,u ∈ H 0→u ∈ ts):0 < (H 0).length↔0 < ts.length:=by
 constructor
 ·intro c
  exact List.length_pos_of_mem (hs _ (List.getElem_mem c))
 ·intro c
  have hn:=h.tx 0 c
  have e:0 < cntR ts (ts[0].rep.toNat):=List.length_pos_of_mem (List.mem_filter.2 ⟨List.getElem_mem c,decide_eq_true hn.repN.symm⟩)
  rw [← hf 0 _ h0 hn.rN] at e
  exact Nat.lt_of_lt_of_le e (cntR_le _ _)
theorem same_self (a:Int) (l:List ByteArray):sameB a a l l=true:=by simp [sameB]
theorem com_mv {n i:Nat} {hs:List RTx} {t:RTx} {x:Nat} {d:ByteArray} (h1:1≤x) (h2:x≤100) (ht:t.ops=mvOps x d):IsMv (comT n i hs t):=⟨x,d,h1,h2,ht⟩
set_option maxRecDepth 100000 in
set_option maxHeartbeats 16000000 in
theorem wholly_any {w:World} (ht:Tabs w) (m:Int) (hm:-9223372036854775808≤m) (hm':m≤9223372036854775807) (sv:Value) (ps:List KOp) (hps:KIn w sv ps) :
  Calls Tryz.prog 8 #[.int .i64 m,sv] w fun e w'=>e=.returned (.bool true)∧Below w.heap.size w w':=by
 have HRm:Hid (6≤w.heap.size):=ht.room
 have HMd:=hide (made_any ht m hm hm')
 have hlt:=pickOf_lt m 4 (by omega)
 generalize hn:2+pickOf m 4=n at HMd
 have hn2:2≤n:=by omega
 have hn5:n≤5:=by omega
 obtain ⟨ao,cp,esv,hcell⟩:=hps.ex
 have HPS:=hide (⟨hcell,hps.ok,hps.most⟩:_∧_∧_)
 subst esv
 have hpm:ps.length≤262144:=hps.most
 clear ht hm hm' hlt hn hps hcell
 go_enter Tryz.func8,Tryz.ntmps8
 go_wp2_with fail
 refine HMd.out.mono ?_
 rintro e w1 ⟨gb,rv,B,o,rfl,-,h2,h3,h4⟩
 obtain ⟨g,cap,-,hK⟩:=Ks.start h4 h2 h3 (by omega)
 have HK:Hid (WhAt n w gb g cap B 0 ⟨[],fun _=>[],[]⟩ (fun _=>newX) w1 o):=⟨hK,fun u hu=>by simp at hu,Nat.zero_le _,Nat.zero_le _⟩
 clear hK h2 h3 h4 HMd
 go_wp2_with fail
 go_loopw [6,7,8,9,10,11,12,13,14,15,16,17,18,19,20,21,22,23,24,25,26,27,28,29,30,31] (fun mv iv _ _ _ _ _ _ _ _ _ _ _ _ _ _ _ _ _ _ _ _ _ _ _ _ wr=>∃ (k:Nat) (s:PS) (X:Nat→DX) (oo:Nat→Tag),k≤ps.length∧iv=.int .i64 k∧mv=.int .i64 s.ts.length∧Hid (WhAt n w gb g cap B k s X wr oo)) (fun _ iv _ _ _ _ _ _ _ _ _ _ _ _ _ _ _ _ _ _ _ _ _ _ _ _ _=>ps.length - (intOf iv).toNat)
 case atStart=>exact ⟨0,_,_,o,Nat.zero_le _,rfl,rfl,HK.out⟩
 case round=>
  clear HK
  obtain ⟨k,s,X,oo,hk,rfl,rfl,HE⟩:=hrel
  have HBr:Hid (Below w.heap.size w wr):=at0_below HE.out.ks.at0
  by_cases hlt:k < ps.length
  ·as_aux_lemma=>
    obtain ⟨sg,off,e,hsb,hcell⟩:=HPS.out.1 k hlt
    subst e
    have x0:=hcell 0 (by omega)
    have x1:=hcell 1 (by omega)
    have x2:=hcell 2 (by omega)
    have x3:=hcell 3 (by omega)
    simp only [KOp.cells,List.getElem?_cons_zero,List.getElem?_cons_succ,Nat.add_zero] at x0 x1 x2 x3
    have y0:=cell_later HBr.out x0
    have y1:=cell_later HBr.out x1
    have y2:=cell_later HBr.out x2
    have y3:=cell_later HBr.out x3
    have hsl:sg < wr.heap.size:=by have:=HBr.out.size;omega
    have HO:=hide (HPS.out.2.1 k hlt)
    obtain ⟨p,hp⟩:∃ p,ps[k]=p:=⟨_,rfl⟩
    rw [hp] at y0 y1 y2 y3 HO
    have hfw:=HE.out.few
    clear x0 x1 x2 x3 hcell hsb hp HBr HPS
    go_upto_region 9 with (fail)
    generalize hwb:World.alloc wr _=W1
    have hB1:Below wr.heap.size wr W1:=by rw [← hwb];exact (Below.refl _ _).alloc (Nat.le_refl _) _
    have HK1:=hide (HE.out.ks.below hB1 (13,0,0)).1
    have HBx:Hid (Bl W1 (own2 oo wr.heap.size fun _=>(13,0,0)) (13,0,0) wr.heap.size p.cells 39):=⟨by rw [← hwb];exact heap_alloc_new wr _,own2_high (Nat.le_refl _)⟩
    have HM:=hide (⟨HE.out.mv,HE.out.late⟩:_∧_)
    clear hwb hB1 y0 y1 y2 y3 hsl HE
    generalize (own2 oo wr.heap.size fun _=>(13,0,0))=o1 at *
    generalize wr.heap.size=bb at *
    have z1:W1.cell? ⟨bb,1,none⟩=some (.int .i64 p.a):=HBx.out.blk.cell 1
    have zl:=HBx.out.blk.lt
    have hia:=pickOf_lt p.a n (by omega)
    go_wp2_with fail
    refine (of_any HK1.out (by omega) p.a HO.out.a1 HO.out.a2).mono ?_
    rintro e w2 ⟨rfl,hB2⟩
    obtain ⟨K2,T2⟩:=HK1.out.below hB2 (14,0,0)
    have HK2:=hide (⟨K2,HBx.out.touch T2 (fun e=>by obtain ⟨e,-⟩:=e;simp at e)⟩:_∧_)
    clear K2 T2 HK1 HBx hB2 z1 zl
    generalize own2 o1 _ (fun _=>(14,0,0))=o2 at *
    generalize pickOf p.a n=i at *
    have z0:w2.cell? ⟨bb,0,none⟩=some (.int .i64 p.kind):=HK2.out.2.blk.cell 0
    have z1:w2.cell? ⟨bb,1,none⟩=some (.int .i64 p.a):=HK2.out.2.blk.cell 1
    have z2:w2.cell? ⟨bb,2,none⟩=some (.int .i64 p.b):=HK2.out.2.blk.cell 2
    have z3:w2.cell? ⟨bb,3,none⟩=some (.int .i64 p.c):=HK2.out.2.blk.cell 3
    have zl:=HK2.out.2.blk.lt
    go_upto_region 10 with (fail)
    go_cut [63] (fun tv wz=>tv=.bool (decide (p.kind=1∨p.kind=2))∧wz=w2)
    case first=>
     by_cases c1:p.kind=1
     ·go_wp2_with fail
      go_meet
      exact ⟨by simp [c1],rfl⟩
     ·go_wp2_with fail
      go_meet
      exact ⟨by congr 1;rw [Bool.eq_iff_iff];simp [c1],rfl⟩
    case rest=>
     obtain ⟨rfl,rfl⟩:=hcut
     go_upto_if 63 with (fail)
     go_cut [6] (fun mv wz=>∃ (s':PS) (X':Nat→DX) (o':Nat→Tag),mv=.int .i64 s'.ts.length∧Hid (WhAt n w gb g cap B (k+1) s' X' wz o'))
     case first=>
      by_cases c:p.kind=1∨p.kind=2
      ·as_aux_lemma=>
        have hp:=fun W=>kpick_any p.c 100 W (by omega) (by omega) HO.out.c1 HO.out.c2
        have hl:=pickOf_lt p.c 100 (by omega)
        generalize pickOf p.c 100=m0 at hp hl
        have HP:=hide hp
        have hds:(digOf p.c).size=1:=rfl
        have hd:=fun W=>digits_any p.c W HO.out.c1 HO.out.c2
        generalize digOf p.c=d at hd hds
        have HD:=hide hd
        have HDS:=hide hds
        have H2:=hide (Kp.of HK2.out.1 HK2.out.2)
        clear hp hd hds HK2 z0 z1 z2 z3 zl HO
        go_wp2_with fail
        refine (H2.out.ks.openI hia).mono ?_
        rintro e w3 ⟨rfl,o3,K3,T3⟩
        have H3:=hide (H2.out.next K3 T3)
        clear K3 T3 H2
        have z3:w3.cell? ⟨bb,3,none⟩=some (.int .i64 p.c):=(H3.out.at (j:=0) rfl).cell 3
        have zl:bb < w3.heap.size:=(H3.out.at (j:=0) rfl).lt
        go_wp2_with fail
        refine (HP.out _).mono ?_
        rintro e w4 ⟨rfl,hw⟩
        have hw':=hw.symm
        subst hw'
        clear hw
        go_wp2_with fail
        have e1:(m0:Int)+1=((m0+1:Nat):Int):=by omega
        rw [e1]
        have hx:=mv_ok1 (t:=⟨0,0,visOf n (s.H i),[]⟩) (by simp) (x:=m0+1) (by omega)
        refine (H3.out.ks.addI hia ⟨1,kca,noEl,((m0+1:Nat):Int)⟩ rfl two_max hx.1).mono ?_
        rintro e w5 ⟨rfl,o5,K5,T5⟩
        have H5:=hide (H3.out.next K5 T5)
        clear K5 T5 H3 e1 hx z3 zl
        have z3:w5.cell? ⟨bb,3,none⟩=some (.int .i64 p.c):=(H5.out.at (j:=0) rfl).cell 3
        have zl:bb < w5.heap.size:=(H5.out.at (j:=0) rfl).lt
        go_wp2_with fail
        refine (HD.out _).mono ?_
        rintro e w6 ⟨rfl,hB⟩
        have H6:=hide (H5.out.below hB)
        clear hB H5 z3 zl
        generalize own2 o5 _ (fun _=>(14,0,0))=o6 at *
        go_wp2_with fail
        refine (H6.out.ks.writeI hia ⟨2,kra,d,0⟩ rfl two_max (by show d.size≤_;rw [HDS.out];unfold maxLen;omega) (mv_ok2 (by simp) HDS.out).1).mono ?_
        rintro e w7 ⟨rfl,o7,K7,T7⟩
        have H7:=hide (H6.out.next K7 T7)
        clear K7 T7 H6
        have z3:w7.cell? ⟨bb,3,none⟩=some (.int .i64 p.c):=(H7.out.at (j:=0) rfl).cell 3
        have zl:bb < w7.heap.size:=(H7.out.at (j:=0) rfl).lt
        go_wp2_with fail
        refine (HP.out _).mono ?_
        rintro e w8 ⟨rfl,hw⟩
        have hw':=hw.symm
        subst hw'
        clear hw
        go_wp2_with fail
        have e1:-(m0:Int) - 1=-((m0+1:Nat):Int):=by omega
        rw [e1]
        refine (H7.out.ks.addI hia ⟨1,kcb,noEl,-((m0+1:Nat):Int)⟩ rfl two_max (mv_ok1 (by simp) (x:=m0+1) (by omega)).2).mono ?_
        rintro e w9 ⟨rfl,o9,K9,T9⟩
        have H9:=hide (H7.out.next K9 T9)
        clear K9 T9 H7 e1 z3 zl
        have z3:w9.cell? ⟨bb,3,none⟩=some (.int .i64 p.c):=(H9.out.at (j:=0) rfl).cell 3
        have zl:bb < w9.heap.size:=(H9.out.at (j:=0) rfl).lt
        go_wp2_with fail
        refine (HD.out _).mono ?_
        rintro e wa ⟨rfl,hB⟩
        have HA:=hide (H9.out.below hB)
        clear hB H9 z3 zl
        generalize own2 o9 _ (fun _=>(14,0,0))=oa at *
        go_wp2_with fail
        refine (HA.out.ks.writeI hia ⟨2,krb,d,0⟩ rfl two_max (by show d.size≤_;rw [HDS.out];unfold maxLen;omega) (mv_ok2 (by simp) HDS.out).2).mono ?_
        rintro e wb ⟨rfl,ob,Kb,Tb⟩
        have HB:=hide (HA.out.next Kb Tb)
        clear Kb Tb HA
        go_wp2_with fail
        refine (HB.out.ks.commitI hia (by simp) (by omega)).mono ?_
        rintro e wc ⟨rfl,oc,Kc,Tc⟩
        have HC:Hid (WhAt n w gb g cap B (k+1) ⟨_,_,s.L⟩ X wc oc):=⟨Kc,fun u hu=>by
         rcases List.mem_append.1 hu with hu | hu
         ·exact HM.out.1 u hu
         ·rw [List.mem_singleton.1 hu]
          exact com_mv (by omega) (by omega) (show _=mvOps (m0+1) d from rfl),by simp;omega,by show s.L.length≤k+1;have:=HM.out.2;omega⟩
        clear Kc Tc HB HM HP HD HDS
        go_upto_region 17 with (fail)
        generalize hwd:World.alloc wc _=Wd
        have HD:=hide (HC.out.below (show Below wc.heap.size wc Wd by rw [← hwd];exact (Below.refl _ _).alloc (Nat.le_refl _) _))
        clear HC hwd
        go_wp2_with fail
        go_meet
        exact ⟨_,X,_,by simp,HD⟩
      ·as_aux_lemma=>
        go_wp2_with fail
        refine (step_any (s:=s) HK2.out.1 (by omega) HRm.out (fun i _=>⟨0,1,room_none⟩) p HO.out (by omega) (by have:=HM.out.2;omega)).mono ?_
        rintro e w3 ⟨rfl,o3,s3,X3,hst,hK3,-,-⟩
        have hts:=step_ts hst (fun e=>c (Or.inl e)) (fun e=>c (Or.inr e))
        have hfe:=(step_few hst).2
        have HN:Hid (WhAt n w gb g cap B (k+1) s3 X3 w3 o3):=⟨hK3,by rw [hts];exact HM.out.1,by rw [hts];omega,by have:=HM.out.2;omega⟩
        have HTS:Hid (s.ts=s3.ts):=hts.symm
        clear HK2 HM HO hst hK3 hfe z0 z1 z2 z3 zl hts
        go_wp2_with fail
        go_meet
        exact ⟨s3,X3,o3,by rw [HTS.out],HN⟩
     case rest=>
      as_aux_lemma=>
       obtain ⟨s',X',o',rfl,HW⟩:=hcut
       clear HK2 HM HO z0 z1 z2 z3 zl hfw hia
       go_wp2_with fail
       go_loopw [19,20,21,22,23,24,25,26,27,28,29,30,31] (fun jv _ _ _ _ _ _ _ _ _ _ _ _ wz=>∃ (j:Nat) (oz:Nat→Tag),j≤n∧jv=.int .i64 j∧Hid (WhAt n w gb g cap B (k+1) s' X' wz oz)) (fun jv _ _ _ _ _ _ _ _ _ _ _ _ _=>n - (intOf jv).toNat)
       case atStart=>exact ⟨0,o',Nat.zero_le _,rfl,HW.out⟩
       case round=>
        clear HW
        obtain ⟨j,oz,hjn,rfl,HE⟩:=hrel
        obtain ⟨c0,hck,hgl⟩:=HE.out.ks.cells
        by_cases hj:j < n
        ·as_aux_lemma=>
          have cj:=hck j hj
          obtain ⟨hh,hsub⟩:=HE.out.ks.histAt hj
          obtain ⟨a,l,r1,r2,r3,r4,ha0,ha1,hl1,hi1,hi2⟩:=mv_told hh (HE.out.ks.len hj) (fun u hu=>HE.out.mv u (hsub u hu))
          have HR:=hide (⟨r1,r2,r3,r4⟩:_∧_∧_∧_)
          have HQ:Hid (0 < a↔0 < l.length):=hi1.trans hi2.symm
          have H0:=hide (Kp.bare (ty:=66) HE.out.ks)
          have HW:Hid ((∀ u,u ∈ s'.ts→IsMv u)∧s'.ts.length≤k+1∧s'.L.length≤k+1):=⟨HE.out.mv,HE.out.few,HE.out.late⟩
          clear hck hh hsub r1 r2 r3 r4 hi1 hi2 HE
          go_wp2_with fail
          refine (H0.out.ks.openI hj).mono ?_
          rintro e w3 ⟨rfl,o3,K3,T3⟩
          have H3:=hide (H0.out.next K3 T3)
          clear K3 T3 H0 c0 cj hgl
          obtain ⟨c0,hck,hgl⟩:=H3.out.ks.cells
          have cj:=hck j hj
          clear hck
          go_wp2_with fail
          refine (H3.out.ks.readI hj (9,0,0) (by simp [free1]) (key:=kca) two_max HR.out.1).mono ?_
          rintro e w4 ⟨lv,o4,rfl,K,T,P⟩
          obtain ⟨al,ac,el,-⟩:=P.row.shape
          subst el
          have H4:=hide (H3.out.next K T)
          clear K T P H3 c0 cj hgl
          go_upto_region 28 with (fail)
          generalize hW:World.alloc w4 _=W4
          have H4b:=hide (H4.out.box (cs:=[.int .i64 a,.slice al 0 ac]) (w':=W4) (by rw [← hW];exact (Below.refl _ _).alloc (Nat.le_refl _) _) (by rw [← hW];exact heap_alloc_new w4 _))
          clear H4 hW
          generalize own2 o4 _ (fun _=>(13,0,0))=o4b at *
          generalize w4.heap.size=ba at *
          obtain ⟨c0,hck,hgl⟩:=H4b.out.ks.cells
          have cj:=hck j hj
          clear hck
          go_wp2_with fail
          refine (H4b.out.ks.readI hj (9,0,0) (by simp [free1]) (key:=kcb) two_max HR.out.2.1).mono ?_
          rintro e w5 ⟨lv,o5,rfl,K,T,P⟩
          obtain ⟨bl,bc,el,-⟩:=P.row.shape
          subst el
          have H5:=hide (H4b.out.next K T)
          clear K T P H4b c0 cj hgl
          go_upto_region 29 with (fail)
          generalize hW:World.alloc w5 _=W5
          have H5b:=hide (H5.out.box (cs:=[.int .i64 (-a),.slice bl 0 bc]) (w':=W5) (by rw [← hW];exact (Below.refl _ _).alloc (Nat.le_refl _) _) (by rw [← hW];exact heap_alloc_new w5 _))
          clear H5 hW
          generalize own2 o5 _ (fun _=>(13,0,0))=o5b at *
          generalize w5.heap.size=bb_ at *
          obtain ⟨c0,hck,hgl⟩:=H5b.out.ks.cells
          have cj:=hck j hj
          clear hck
          go_wp2_with fail
          refine (H5b.out.ks.readI hj (9,0,0) (by simp [free1]) (key:=kra) two_max HR.out.2.2.1).mono ?_
          rintro e w6 ⟨lv,o6,rfl,K,T,P⟩
          obtain ⟨xl,xc,el,-⟩:=P.row.shape
          subst el
          have H6:=hide ((H5b.out.next K T).list P)
          clear K T P H5b c0 cj hgl
          go_upto_region 30 with (fail)
          generalize hW:World.alloc w6 _=W6
          have H6b:=hide (H6.out.box (cs:=[.int .i64 0,.slice xl l.length xc]) (w':=W6) (by rw [← hW];exact (Below.refl _ _).alloc (Nat.le_refl _) _) (by rw [← hW];exact heap_alloc_new w6 _))
          clear H6 hW
          generalize own2 o6 _ (fun _=>(13,0,0))=o6b at *
          generalize w6.heap.size=bx at *
          obtain ⟨c0,hck,hgl⟩:=H6b.out.ks.cells
          have cj:=hck j hj
          clear hck
          go_wp2_with fail
          refine (H6b.out.ks.readI hj (9,0,0) (by simp [free1]) (key:=krb) two_max HR.out.2.2.2).mono ?_
          rintro e w7 ⟨lv,o7,rfl,K,T,P⟩
          obtain ⟨yl,yc,el,-⟩:=P.row.shape
          subst el
          have H7:=hide ((H6b.out.next K T).list P)
          clear K T P H6b c0 cj hgl
          go_upto_region 31 with (fail)
          generalize hW:World.alloc w7 _=W7
          have H7b:=hide (H7.out.box (cs:=[.int .i64 0,.slice yl l.length yc]) (w':=W7) (by rw [← hW];exact (Below.refl _ _).alloc (Nat.le_refl _) _) (by rw [← hW];exact heap_alloc_new w7 _))
          clear H7 hW
          generalize own2 o7 _ (fun _=>(13,0,0))=o7b at *
          generalize w7.heap.size=by_ at *
          obtain ⟨c0,hck,hgl⟩:=H7b.out.ks.cells
          have cj:=hck j hj
          clear hck HR
          go_wp2_with fail
          refine (H7b.out.ks.abortI hj).mono ?_
          rintro e w8 ⟨rfl,o8,K8,T8⟩
          have H8:=hide (H7b.out.next K8 T8)
          clear K8 T8 H7b c0 cj hgl
          have y0:w8.cell? ⟨by_,0,none⟩=some (.int .i64 0):=(H8.out.at (j:=0) rfl).cell 0
          have y1:w8.cell? ⟨by_,1,none⟩=some (.slice yl l.length yc):=(H8.out.at (j:=0) rfl).cell 1
          have x0:w8.cell? ⟨bx,0,none⟩=some (.int .i64 0):=(H8.out.at (j:=1) rfl).cell 0
          have x1:w8.cell? ⟨bx,1,none⟩=some (.slice xl l.length xc):=(H8.out.at (j:=1) rfl).cell 1
          have ly:=(H8.out.at (j:=0) rfl).lt
          have lx:=(H8.out.at (j:=1) rfl).lt
          go_wp2_with fail
          refine (ksame_any w8 0 0 _ _ l l (H8.out.rs _ (List.mem_cons_of_mem _ List.mem_cons_self)).row (H8.out.rs _ List.mem_cons_self).row (by omega) (by omega)).mono ?_
          rintro e w9 ⟨rfl,hB⟩
          rw [same_self]
          have H9:=hide (H8.out.below hB)
          clear hB H8 y0 y1 x0 x1 ly lx
          generalize own2 o8 _ (fun _=>(14,0,0))=o9 at *
          have x1:w9.cell? ⟨bx,1,none⟩=some (.slice xl l.length xc):=(H9.out.at (j:=1) rfl).cell 1
          have b0:w9.cell? ⟨bb_,0,none⟩=some (.int .i64 (-a)):=(H9.out.at (j:=2) rfl).cell 0
          have a0:w9.cell? ⟨ba,0,none⟩=some (.int .i64 a):=(H9.out.at (j:=3) rfl).cell 0
          have lx:=(H9.out.at (j:=1) rfl).lt
          have lb:=(H9.out.at (j:=2) rfl).lt
          have la:=(H9.out.at (j:=3) rfl).lt
          have HZ:Hid (WhAt n w gb g cap B (k+1) s' X' w9 o9):=⟨H9.out.ks,HW.out.1,HW.out.2.1,HW.out.2.2⟩
          clear H9 HW
          go_upto_region 33 with (fail)
          go_cut [259] (fun tv wz=>tv=.bool false∧wz=w9)
          case first=>
           by_cases ca:0 < a
           ·have hl:=HQ.out.1 ca
            go_wp2_with fail
            go_meet
            exact ⟨congrArg Value.bool (decide_eq_false (by omega)),rfl⟩
           ·have hl:¬ 0 < l.length:=fun e=>ca (HQ.out.2 e)
            go_wp2_with fail
            go_meet
            exact ⟨congrArg Value.bool (decide_eq_false (by omega)),rfl⟩
          case rest=>
           obtain ⟨rfl,rfl⟩:=hcut
           clear x1 b0 a0 lx lb la
           go_wp2_with fail
           exact ⟨⟨j+1,_,by omega,by go_num,HZ⟩,by simp [intOf];omega⟩
        ·as_aux_lemma=>
          have hj':¬ (j:Int) < n:=by omega
          clear hck
          go_wp2_with fail
          exact ⟨⟨k+1,s',X',oz,by omega,by go_num,rfl,HE⟩,by simp [intOf];omega⟩
  ·as_aux_lemma=>
    have hlt':¬ (k:Int) < ps.length:=by omega
    have HM:Hid (∀ u,u ∈ s.ts→IsMv u):=HE.out.mv
    have hfw:=HE.out.few
    have HK0:=hide HE.out.ks
    clear HPS HBr HE
    go_wp2_with fail
    refine (round_any HK0.out).mono ?_
    rintro e w3 ⟨rfl,o3,H1,X1,hK,-,hR⟩
    have HK1:=hide hK
    clear HK0 hK hR
    go_wp2_with fail
    refine (round_any HK1.out).mono ?_
    rintro e w4 ⟨rfl,o4,H2,X2,hK,-,hR⟩
    obtain ⟨hh,hsub⟩:=hK.histAt (i:=0) (by omega)
    obtain ⟨a,l,r1,-,-,-,ha0,ha1,-,hi1,-⟩:=mv_told hh (hK.len (by omega)) (fun u hu=>HM.out u (hsub u hu))
    have HQ:Hid (0 < a↔0 < s.ts.length):=hi1.trans (full_some hR.full hK.hist (by omega) hsub)
    have HR:=hide r1
    have HK2:=hide hK
    clear HK1 hK hR hh hsub r1 hi1
    obtain ⟨c0,hck,hgl⟩:=HK2.out.cells
    have cj:=hck 0 (by omega)
    clear hck
    go_wp2_with fail
    refine (HK2.out.openI (i:=0) (by omega)).mono ?_
    rintro e w5 ⟨rfl,o5,K5,-⟩
    have HK5:=hide K5
    clear HK2 K5 c0 cj hgl
    obtain ⟨c0,hck,hgl⟩:=HK5.out.cells
    have cj:=hck 0 (by omega)
    clear hck
    go_wp2_with fail
    refine (HK5.out.readI (i:=0) (by omega) (9,0,0) (by simp [free1]) (key:=kca) two_max HR.out).mono ?_
    rintro e w6 ⟨lv,o6,rfl,K6,-,P6⟩
    obtain ⟨al,cl,el,-⟩:=P6.row.shape
    subst el
    have HBe:Hid (Below w.heap.size w w6):=at0_below K6.at0
    clear HK5 K6 P6 c0 cj hgl HM HR
    go_upto_region 39 with (fail)
    generalize hW:World.alloc w6 _=W6
    have b6:Blk W6 w6.heap.size [.int .i64 a,.slice al 0 cl] 66:=by rw [← hW];exact heap_alloc_new w6 _
    have HB6:Hid (Below w.heap.size w W6):=by rw [← hW];exact HBe.out.alloc HBe.out.size _
    have a0:W6.cell? ⟨w6.heap.size,0,none⟩=some (.int .i64 a):=b6.cell 0
    have l6:=b6.lt
    clear hW b6 HBe
    generalize w6.heap.size=ba at *
    by_cases ca:0 < a
    ·have hs:=HQ.out.1 ca
     go_wp2_with fail
     go_ret
     exact ⟨rfl,HB6.out⟩
    ·have hs:¬ 0 < s.ts.length:=fun e=>ca (HQ.out.2 e)
     go_wp2_with fail
     go_ret
     exact ⟨rfl,HB6.out⟩
end Go.Proofs.YtiplgdkpnhamaaaGreatDoor.Tv
