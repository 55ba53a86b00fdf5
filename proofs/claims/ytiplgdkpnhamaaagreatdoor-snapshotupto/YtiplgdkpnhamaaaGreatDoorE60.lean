/- The texts QN1, QN2, QN3, joined; room_one and Nk.read. -/
import Derived.Test.YtiplgdkpnhamaaaGreatDoorE64
namespace Go.Proofs.YtiplgdkpnhamaaaGreatDoor.Tv
open Go.RowKit
section
variable {n:Nat} {w w':World} {o o':Nat→Tag} {T:Nat→Tag} {B:Nat→Nat} {ts ts':List RTx} {D:Nat→DRep} {X:Nat→DX} {i:Nat}
theorem Nk.read (h:Nk n w o T B ts D X) (hi:i<n) (tl:Tag) (htl:tl≠T i) (tx:Int) (key:ByteArray) (hs:key.size≤maxLen):Calls Tryz.prog 33 #[ptr (B i),.int .i64 tx,.string key] w fun e w'=>∃ lv o',e=.returned (valAgg (readAns (opnAt (D i) tx) key (D i).hs n).1 lv (readAns (opnAt (D i) tx) key (D i).hs n).2.2) ∧
  Nk n w' o' T B ts D X∧TouchT (grp n T) w o w' o'∧Pc w' o' tl 9 1 lv (readAns (opnAt (D i) tx) key (D i).hs n).2.1.length (strs (readAns (opnAt (D i) tx) key (D i).hs n).2.1):=
 (h.net.read hi tl htl tx key hs).mono fun _ _ ⟨lv,o',e,h1,h2,h3⟩=>⟨lv,o',e,⟨h1,h.kn⟩,h2,h3⟩
end
theorem room_one (t:RTx):Room2 (fun j=>if j=0 then some t else none) 1 2:=by
 refine ⟨by omega,by omega,fun j hj=>?_,rfl,fun j h1 h2=>by omega,rfl⟩
 have e:j=0:=by omega
 subst e
 rfl
end Go.Proofs.YtiplgdkpnhamaaaGreatDoor.Tv
namespace Go.Proofs.YtiplgdkpnhamaaaGreatDoor.Tv
open Go.RowKit
theorem rec_mem {n:Nat} {hs us hs':List RTx} (h:RecH n hs us hs') {u:RTx} (hu:u ∈ hs):u ∈ hs':=by
 obtain ⟨op,h⟩:=h
 obtain ⟨⟨l,e⟩,-,-⟩:=h.more
 have e':hs'=hs ++ l:=e
 rw [e']
 exact List.mem_append_left _ hu
theorem step_mem {n:Nat} {p:KOp} {s s':PS} (h:StepR n p s s') (k:Nat) {u:RTx} (hu:u ∈ s.H k):u ∈ s'.H k:=by
 have key:∀ (i:Nat) (hs:List RTx),(∀ v,v ∈ s.H i→v ∈ hs)→u ∈ put s.H i hs k:=fun i hs hm=>by
  by_cases c:k=i
  ·subst c;rw [put_same];exact hm u hu
  ·rw [put_other c];exact hu
 unfold StepR at h
 split at h
 ·subst h;exact key _ _ fun v hv=>List.mem_append_left _ hv
 ·split at h
  ·obtain ⟨a,b,-,-,rfl⟩:=h
   exact key _ _ fun v hv=>List.mem_append_left _ (List.mem_append_left _ hv)
  ·split at h
   ·obtain ⟨hs,rfl,hr⟩:=h
    exact key _ _ fun v hv=>rec_mem hr hv
   ·split at h
    ·subst h;exact hu
    ·split at h
     ·split at h
      ·obtain ⟨hs,rfl,hr⟩:=h
       exact key _ _ fun v hv=>rec_mem hr hv
      ·subst h;exact hu
     ·subst h;exact hu
theorem read_still {n:Nat} {h0 hs:List RTx} (hH:HistG n hs) (hH0:HistG n h0) (hm:∀ u,u ∈ h0→u ∈ hs) (ops:List ROp) (key:ByteArray):readAns (some ⟨0,0,visOf n h0,ops⟩) key hs n=readAns (some ⟨0,0,visOf n h0,ops⟩) key h0 n:=
 (told_ts hH hH0 hm (t:=⟨0,0,visOf n h0,ops⟩) (vis_own h0) key).symm
def kC:ByteArray:=⟨#[99]⟩
def addOp (m:Nat):ROp:=⟨1,kC,noEl,m⟩
theorem add_ok {t:RTx} (h:t.ops.length<16) {m:Nat} (hm:m≤1000):doesErr (some t) (addOp m)=0:=by
 have hk:kindOf kC=99:=by decide
 unfold addOp doesErr
 simp only [hk,kindByte]
 rw [if_neg (by simp),if_neg (by simp;omega),if_neg (by omega)]
def opO (t:RTx):Nat→Nat→Option RTx:=fun i j=>if i=0 then (if j=0 then some t else none) else none
theorem opO_room (t:RTx) (i:Nat):∃ k1 k2,Room2 (opO t i) k1 k2:=by
 by_cases c:i=0
 ·subst c
  exact ⟨1,2,room_one t⟩
 ·refine ⟨0,1,?_⟩
  have e:opO t i=fun _=>none:=by funext j;unfold opO;rw [if_neg c]
  rw [e]
  exact room_none
section
variable {n c:Nat} {w0 w w':World} {gb g cap:Nat} {B:Nat→Nat} {ts:List RTx} {H:Nat→List RTx} {X:Nat→DX} {L:List Let} {o:Nat→Tag}
theorem Ks.open0 (h:Ks n c w0 gb g cap B ts H (fun _ _=>none) X L w o) (h0:0<n):Calls Tryz.prog 27 #[bptr (B 0)] w fun e w'=>e=.returned (.tuple #[.int .i64 0,.int .i64 0])∧∃ o',Ks n c w0 gb g cap B ts H (opO ⟨0,0,visOf n (H 0),[]⟩) X L w' o'∧TouchT (kg c) w o w' o':=by
 obtain ⟨e1,e2⟩:=d_begin (n:=n) (hs:=H 0) (op:=fun _=>none) free_new (by omega)
 refine (h.nk.begins h0).mono ?_
 rw [e1,e2,put_hO]
 rintro e w' ⟨rfl,o',h1,h2⟩
 have e3:put (fun _ _=>none) 0 (setSlot (fun _=>none) 0 (some ⟨0,0,visOf n (H 0),[]⟩))=opO ⟨0,0,visOf n (H 0),[]⟩:=by
  funext i j
  by_cases c:i=0
  ·subst c;rw [put_same];rfl
  ·rw [put_other c];unfold opO;rw [if_neg c]
 rw [e3] at h1
 exact ⟨rfl,o',h.out h1 h2 (fun _ hu=>hu) fun _ _=>Nat.le_refl _⟩
theorem Ks.add0 {t:RTx} (h:Ks n c w0 gb g cap B ts H (opO t) X L w o) (h0:0<n) (ht:t.ops.length<16) {m:Nat} (hm:m≤1000):Calls Tryz.prog 28 #[bptr (B 0),.int .i64 0,.string kC,.int .i64 m] w fun e w'=>e=.returned (.int .i64 0)∧∃ o',Ks n c w0 gb g cap B ts H (opO { t with ops:=t.ops ++ [addOp m] }) X L w' o'∧TouchT (kg c) w o w' o':=by
 have hO:opO t 0 0=some t:=rfl
 have hd:=d_does (n:=n) (hs:=H 0) (op:=opO t 0) (k:=0) hO (add_ok ht hm)
 refine (h.nk.add h0 0 (addOp m) rfl (by show kC.size≤maxLen;show 1≤maxLen;unfold maxLen;omega)).mono ?_
 have ha:opnAt (dD n (H 0) (opO t 0)) 0=some t:=opn_at n (H 0) (opO t 0) 0
 rintro e w' ⟨rfl,o',h1,h2⟩
 rw [ha,add_ok ht hm]
 have hd':doesD (dD n (H 0) (opO t 0)) 0 (addOp m)=_:=hd
 rw [hd',put_hO] at h1
 have e3:put (opO t) 0 (setSlot (opO t 0) 0 (some { t with ops:=t.ops ++ [addOp m] }))=opO { t with ops:=t.ops ++ [addOp m] }:=by
  funext i j
  by_cases c:i=0
  ·subst c
   rw [put_same]
   by_cases c2:j=0
   ·subst c2;rw [setSlot_same];rfl
   ·rw [setSlot_other c2];unfold opO;simp [c2]
  ·rw [put_other c];unfold opO;rw [if_neg c,if_neg c]
 rw [e3] at h1
 exact ⟨rfl,o',h.out h1 h2 (fun _ hu=>hu) fun _ _=>Nat.le_refl _⟩
theorem Ks.read0 {t:RTx} (h:Ks n c w0 gb g cap B ts H (opO t) X L w o) (h0:0<n) (tl:Tag) (htl:free1 tl) {key:ByteArray} (hk:key ∈ keyL):Calls Tryz.prog 33 #[bptr (B 0),.int .i64 0,.string key] w fun e w'=>∃ lv o',e=.returned (valAgg (readAns (some t) key (H 0) n).1 lv 0)∧Ks n c w0 gb g cap B ts H (opO t) X L w' o'∧TouchT (kg c) w o w' o'∧Pc w' o' tl 9 1 lv (readAns (some t) key (H 0) n).2.1.length (strs (readAns (some t) key (H 0) n).2.1):=by
 obtain ⟨hko,hks⟩:=key_ok hk t (H 0) n
 have ha:opnAt (dD n (H 0) (opO t 0)) 0=some t:=opn_at n (H 0) (opO t 0) 0
 refine (h.nk.read h0 tl (free_tgc htl c 0) 0 key hks).mono ?_
 rintro e w' ⟨lv,o',rfl,h1,h2,h3⟩
 simp only [ha] at h3 ⊢
 have e2:(dD n (H 0) (opO t 0)).hs=H 0:=rfl
 rw [e2] at h3 ⊢
 rw [hko]
 obtain ⟨k1,k2⟩:=h.out h1 h2 (fun _ hu=>hu) fun _ _=>Nat.le_refl _
 exact ⟨lv,o',rfl,k1,k2,h3⟩
end
end Go.Proofs.YtiplgdkpnhamaaaGreatDoor.Tv
namespace Go.Proofs.YtiplgdkpnhamaaaGreatDoor.Tv
open Go.RowKit
theorem sees_own {n:Nat} {hs:List RTx} (h:HistG n hs) {u:RTx} (hu:u ∈ hs):seesV (visOf n hs) u.rep u.seq=true:=(seen_mem h h (fun _ h=>h) hu).2 hu
theorem csum_more {n:Nat} {hs:List RTx} {u:RTx} (h:HistG n (hs ++ [u])) (key:ByteArray):csum (visOf n (hs ++ [u])) key (hs ++ [u])=csum (visOf n hs) key hs+sumOf key u.ops:=by
 unfold csum
 rw [List.map_append,List.sum_append]
 congr 1
 ·congr 1
  refine List.map_congr_left fun v hv=>?_
  rw [if_pos (sees_own h.less hv),if_pos (sees_own h (List.mem_append_left _ hv))]
 ·rw [List.map_cons,List.map_nil,if_pos (sees_own h (by simp))]
  simp
theorem all_first (n:Nat) (hs:List RTx):(allV n hs)[0]? = some (wrap64 (csum (visOf n hs) kC hs),[]):=by
 have hk:kindOf kC=99:=by decide
 have e:allV n hs=((readAns (some ⟨0,0,visOf n hs,[]⟩) kC hs n).1,(readAns (some ⟨0,0,visOf n hs,[]⟩) kC hs n).2.1) :: (allV n hs).tail:=rfl
 rw [e,List.getElem?_cons_zero]
 simp only [readAns,hk,if_true]
 rw [counter_csum]
 have:sumOf kC []=0:=rfl
 rw [this]
 congr 2
 unfold wrap64
 omega
theorem wrap_small {m:Nat} (hm:m≤1000):wrap64 (m:Int)=m:=by
 unfold wrap64
 omega
theorem sum_add {m:Nat} (hm:m≤1000):sumOf kC [addOp m]=m:=by
 have e:sumOf kC ([] ++ [addOp m])=_:=sumOf_snoc kC [] (addOp m)
 have h1:(addOp m).kind=1∧(addOp m).key=kC:=⟨rfl,rfl⟩
 have h2:sumOf kC []=0:=rfl
 have h3:(addOp m).amount=(m:Int):=rfl
 rw [if_pos h1,h2,h3,Int.zero_add,wrap_small hm] at e
 exact e
theorem all_more {n m:Nat} (hm:m≤1000) {hs saw:List RTx} (h:HistG n (hs ++ [comT n 0 hs ⟨0,0,visOf n saw,[addOp m]⟩])):∃ a:Int,(allV n hs)[0]? = some (a,[])∧(allV n (hs ++ [comT n 0 hs ⟨0,0,visOf n saw,[addOp m]⟩]))[0]? = some (wrap64 (a+m),[]):=by
 refine ⟨_,all_first n hs,?_⟩
 rw [all_first,csum_more h]
 have:sumOf kC (comT n 0 hs ⟨0,0,visOf n saw,[addOp m]⟩).ops=m:=sum_add hm
 rw [this]
 congr 2
 unfold wrap64
 omega
section
variable {n c:Nat} {w0 w w':World} {gb g cap:Nat} {B:Nat→Nat} {ts:List RTx} {H:Nat→List RTx} {O:Nat→Nat→Option RTx} {X:Nat→DX} {L:List Let} {o o':Nat→Tag}
theorem Ks.free {A:Tag→Prop} (h:Ks n c w0 gb g cap B ts H O X L w o) (hr:6≤w0.heap.size) (hA:∀ t,A t→free1 t∧nz t) (k:TouchT A w o w' o'):Ks n c w0 gb g cap B ts H O X L w' o':=by
 have no:∀ t,kg c t→¬ A t:=fun t hk ha=>free_kg (hA t ha).1 c hk
 have low:∀ q,q<6→¬ A (o q):=fun q hq e=>by
  rw [at0_low h.at0 hr hq] at e
  exact (hA _ e).2 rfl
 obtain ⟨lv,b1,b2⟩:=h.blk
 exact ⟨h.nk.beside k (fun i _=>no _ ⟨Or.inl rfl,rfl⟩) low,⟨lv,b1.touch k (no _ ⟨Or.inr (Or.inl rfl),rfl⟩),b2.touch k (no _ ⟨Or.inr (Or.inr (Or.inr rfl)),rfl⟩)⟩,h.row.touch k (no _ ⟨Or.inr (Or.inr (Or.inl rfl)),rfl⟩),h.at0.trans (k.mono fun t e=>(hA t e).2),h.ok⟩
end
def rdV (n:Nat) (t:RTx) (hs:List RTx):List (Int × List ByteArray):=keyL.map fun key=>((readAns (some t) key hs n).1,(readAns (some t) key hs n).2.1)
theorem rdV_len (n:Nat) (t:RTx) (hs:List RTx):(rdV n t hs).length=6:=by simp [rdV,keyL]
end Go.Proofs.YtiplgdkpnhamaaaGreatDoor.Tv
namespace Go.Proofs.YtiplgdkpnhamaaaGreatDoor.Tv
open Go.RowKit
structure SnAt (n:Nat) (w0:World) (gb g cap:Nat) (B:Nat→Nat) (t:RTx) (h0:List RTx) (s:PS) (X:Nat→DX) (lv:Value) (vs:List (Int × List ByteArray)) (w:World) (o:Nat→Tag):Prop where
 ks:Ks n 0 w0 gb g cap B s.ts s.H (opO t) X s.L w o
 vals:∃ xs,ValsX w o (8,0,0) (9,0,0) lv vs xs
 sub:∀ u,u ∈ h0→u ∈ s.H 0
section
variable {n:Nat} {w0 w w':World} {gb g cap:Nat} {B:Nat→Nat} {t:RTx} {h0:List RTx} {s s':PS} {X X':Nat→DX} {lv:Value} {vs:List (Int × List ByteArray)} {o o':Nat→Tag}
theorem SnAt.next (h:SnAt n w0 gb g cap B t h0 s X lv vs w o) (k:Ks n 0 w0 gb g cap B s'.ts s'.H (opO t) X' s'.L w' o') (ht:TouchT (kg 0) w o w' o') (hs:∀ u,u ∈ s.H 0→u ∈ s'.H 0):SnAt n w0 gb g cap B t h0 s' X' lv vs w' o':=by
 obtain ⟨xs,hv⟩:=h.vals
 exact ⟨k,⟨xs,hv.touch ht (free_kg (by simp [free1]) _) (free_kg (by simp [free1]) _)⟩,fun u hu=>hs u (h.sub u hu)⟩
theorem SnAt.below (h:SnAt n w0 gb g cap B t h0 s X lv vs w o) (hB:Below w.heap.size w w'):SnAt n w0 gb g cap B t h0 s X lv vs w' (own2 o w.heap.size fun _=>(14,0,0)):=by
 obtain ⟨a,b⟩:=h.ks.below hB (14,0,0)
 exact h.next a b fun _ hu=>hu
end
theorem opO_end (t:RTx):put (opO t) 0 (setSlot (opO t 0) 0 none)=fun _ _=>none:=by
 funext i j
 by_cases c:i=0
 ·subst c
  rw [put_same]
  by_cases c2:j=0
  ·subst c2;rw [setSlot_same]
  ·rw [setSlot_other c2];unfold opO;simp [c2]
 ·rw [put_other c];unfold opO;rw [if_neg c]
theorem told_low {n:Nat} {h0 hs:List RTx} (hm:∀ u,u ∈ h0→u ∈ hs) (hH0:HistG n h0) (_:HistG n hs) (hl:hs.length≤1100000) (r:Nat):(visOf n h0).getD r 0≤1100000:=vis_few (Nat.le_trans (hH0.few hm) hl) r
set_option maxRecDepth 100000 in
set_option maxHeartbeats 16000000 in
theorem snapshot_any {w:World} (ht:Tabs w) (m:Int) (hm:-9223372036854775808≤m) (hm':m≤9223372036854775807) (sv:Value) (ps:List KOp) (hps:KIn w sv ps) (av:Value) (qs:List KOp) (has:KIn w av qs) (am:Int) (ham:-9223372036854775808≤am) (ham':am≤9223372036854775807) :
  Calls Tryz.prog 10 #[.int .i64 m,sv,av,.int .i64 am] w fun e w'=>e=.returned (.bool true)∧Below w.heap.size w w':=by
 obtain ⟨i0,hi,hz0,hz1,hz2⟩:=info_parts Tryz.infoVal
 have HI:=hide (⟨hi,hz0,hz1,hz2⟩:_∧_∧_∧_)
 clear hi hz0 hz1 hz2
 have HRm:Hid (6≤w.heap.size):=ht.room
 have HPl:=hide (played_any ht m hm hm' sv ps hps)
 have hp:=fun W=>kpick_any am 1000 W (by omega) (by omega) ham ham'
 have hl:=pickOf_lt am 1000 (by omega)
 generalize pickOf am 1000=m0 at hp hl
 have HP:=hide hp
 have hlt:=pickOf_lt m 4 (by omega)
 generalize hn:2+pickOf m 4=n at HPl
 have hn2:2≤n:=by omega
 have hn5:n≤5:=by omega
 obtain ⟨ao,cp,esv,-⟩:=hps.ex
 obtain ⟨bo,bp,eav,hcell⟩:=has.ex
 have HPS:=hide (⟨hcell,has.ok,has.most,hps.most⟩:_∧_∧_∧_)
 subst esv eav
 have hpm:qs.length≤262144:=has.most
 clear ht hm hm' ham ham' hlt hn hps has hcell hp
 go_enter Tryz.func10,Tryz.ntmps10
 go_wp2_with fail
 refine HPl.out.mono ?_
 rintro e w1 ⟨gb,g,cap,B,rfl,hE⟩
 obtain ⟨s,X,o,hK,hts,hL⟩:=hE.ex
 have HK:=hide hK
 have HB:=hide (⟨hts,hL⟩:_∧_)
 clear hK hE HPl hts hL
 obtain ⟨c0,hck,hgl⟩:=HK.out.cells
 have ca:=hck 0 (by omega)
 clear hck
 go_wp2_with fail
 refine (HP.out _).mono ?_
 rintro e w2 ⟨rfl,hw⟩
 have hw':=hw.symm
 subst hw'
 clear hw HP c0 ca hgl
 go_wp2_with fail
 have e1:(1:Int)+(m0:Int)=((1+m0:Nat):Int):=by omega
 rw [e1]
 clear e1
 generalize hmm:1+m0=ma at *
 have hma:ma≤1000:=by omega
 clear hmm hl
 refine (HK.out.open0 (by omega)).mono ?_
 rintro e w3 ⟨rfl,o3,K3,-⟩
 have H3:=hide K3
 clear K3 HK
 go_wp2_with fail
 refine (H3.out.add0 (by omega) (by simp) hma).mono ?_
 rintro e w4 ⟨rfl,o4,K4,-⟩
 obtain ⟨t,et⟩:∃ t:RTx,{ (⟨0,0,visOf n (s.H 0),[]⟩:RTx) with ops:=[] ++ [addOp ma] }=t:=⟨_,rfl⟩
 have HT:Hid (t=⟨0,0,visOf n (s.H 0),[addOp ma]⟩):=et.symm
 rw [et] at K4
 have H4:=hide K4
 clear K4 H3 et
 have HS4:Hid (SnAt n w gb g cap B t (s.H 0) s X (.slice none 0 0) ((rdV n t (s.H 0)).take 0) w4 o4):=⟨H4.out,⟨[],ValsX.nil _ _ _ _⟩,fun _ hu=>hu⟩
 clear H4
 go_wp2_with fail
 go_loopw [14,15,16,17] (fun lv iv _ _ wr=>∃ (k:Nat) (oo:Nat→Tag),k≤6∧iv=.int .i64 k∧Hid (SnAt n w gb g cap B t (s.H 0) s X lv ((rdV n t (s.H 0)).take k) wr oo)) (fun _ iv _ _ _=>6 - (intOf iv).toNat)
 case atStart=>exact ⟨0,o4,by omega,rfl,HS4.out⟩
 case round=>
  clear HS4
  obtain ⟨k,oo,hk6,rfl,HA⟩:=hrel
  by_cases hk:k<6
  ·as_aux_lemma=>
    have hkl:k<keyL.length:=by simpa [keyL] using hk
    obtain ⟨key,hkey⟩:∃ key,keyL[k]=key:=⟨_,rfl⟩
    have hmem:key ∈ keyL:=hkey ▸ List.getElem_mem hkl
    have HKk:Hid (∀ W,Calls Tryz.prog 43 #[] W fun e w'=>∃ g,e=.returned (.slice (some ⟨g,0,none⟩) 6 6)∧w'.cell? ⟨g,k,none⟩=some (.string key)∧g<w'.heap.size∧Hid (Below W.heap.size W w')):=fun W=>by
     refine (keys_any W).mono ?_
     rintro e w' ⟨rfl,rfl⟩
     have bk:Blk (W.alloc (.cells (strs keyL).toArray 9)) W.heap.size (strs keyL) 9:=heap_alloc_new W _
     exact ⟨_,rfl,by rw [bk.cell k];unfold strs;rw [List.getElem?_map,List.getElem?_eq_getElem hkl,hkey];rfl,bk.lt,(Below.refl _ _).alloc (Nat.le_refl _) _⟩
    have HAV:Hid ((rdV n t (s.H 0))[k]? = some ((readAns (some t) key (s.H 0) n).1,(readAns (some t) key (s.H 0) n).2.1)):=by
     unfold Hid rdV
     rw [List.getElem?_map,List.getElem?_eq_getElem hkl,hkey];rfl
    have hlen:((rdV n t (s.H 0)).take k).length=k:=by rw [List.length_take,rdV_len];omega
    obtain ⟨xs,hv⟩:=HA.out.vals
    obtain ⟨ao,cp,elv,-⟩:=hv.row.row.shape
    rw [hlen] at elv
    subst elv
    clear hv hkey hkl
    go_wp2_with fail
    refine (HKk.out _).mono ?_
    rintro e w5 ⟨g5,rfl,-,-,hB5⟩
    have HA5:=hide (HA.out.below hB5.out)
    clear HA hB5
    generalize own2 oo _ (fun _=>(14,0,0))=o5 at *
    go_wp2_with fail
    refine (HKk.out _).mono ?_
    rintro e w6 ⟨g6,rfl,z6,l6,hB6⟩
    have HA6:=hide (HA5.out.below hB6.out)
    clear HA5 hB6 HKk
    generalize own2 o5 _ (fun _=>(14,0,0))=o6 at *
    go_wp2_with fail
    refine (HA6.out.ks.read0 (by omega) (9,0,0) (by simp [free1]) hmem).mono ?_
    rintro e w7 ⟨lv,o7,rfl,K7,T7,P7⟩
    generalize (readAns (some t) key (s.H 0) n).1=sm at *
    generalize (readAns (some t) key (s.H 0) n).2.1=ss at *
    obtain ⟨al,cl,el,-⟩:=P7.row.shape
    subst el
    have HA7:=hide (⟨HA6.out.next (s':=s) K7 T7 (fun _ hu=>hu),P7⟩:_∧_)
    clear HA6 K7 T7 P7 z6 l6 hmem
    go_upto_region 13 with (fail)
    generalize hw8:World.alloc w7 _=W8
    have hB8:Below w7.heap.size w7 W8:=by rw [← hw8];exact (Below.refl _ _).alloc (Nat.le_refl _) _
    have b8:Blk W8 w7.heap.size [.int .i64 sm,.slice al ss.length cl] 66:=by rw [← hw8];exact heap_alloc_new w7 _
    have HA8:=hide (⟨HA7.out.1.below hB8,HA7.out.2.move2 (w':=W8) (o':=own2 o7 w7.heap.size fun _=>(14,0,0)) (fun q hq e=>⟨hB8.block q hq,(own2_low hq).trans e⟩)⟩:_∧_)
    have z0:W8.cell? ⟨w7.heap.size,0,none⟩=some (.int .i64 sm):=b8.cell 0
    have z1:W8.cell? ⟨w7.heap.size,1,none⟩=some (.slice al ss.length cl):=b8.cell 1
    have hl8:=b8.lt
    obtain ⟨ys,hv8⟩:=HA8.out.1.vals
    have hrow8:W8.ownsRow 0 66 2 (.slice ao k cp) k (ys.flatMap valCells):=by
     have:=hv8.row.row
     rwa [hlen] at this
    have HR8:=hide (⟨hrow8,hv8⟩:_∧_)
    clear hrow8 hv8 HA7 hw8 hB8 b8
    generalize own2 o7 _ (fun _=>(14,0,0))=o8 at *
    generalize w7.heap.size=vb at *
    go_wp2_with (at_builtin;refine wpList_append_own_at _ rfl _ _ 48 rfl 0 66 i0 (.agg #[.int .i64 0,.slice none 0 0]) 2 32 Tryz.underlying48 HI.out.1 HI.out.2.1 HI.out.2.2.1 HI.out.2.2.2 rfl (by decide) _ _ _ rfl (World.ownsRow.alloc HR8.out.1 _) ⟨W8.heap.size,0,none⟩ 1 1 [.int .i64 sm,.slice al ss.length cl] rfl rfl (news_at (heap_alloc_new _ _)) (by intro u hu;simp at hu;rcases hu with rfl | rfl <;> rfl) (by unfold maxLen;omega) (by omega) (Nat.zero_le _) ?_;intro v9 w9 hown9 hgrow9 hnil9 hat9)
    have hB9:Below W8.heap.size W8 (W8.alloc (.cells #[.int .i64 sm,.slice al ss.length cl] 66)):=(Below.refl _ _).alloc (Nat.le_refl _) _
    have A9:=HA8.out.1.below hB9
    have P9:=HA8.out.2.move2 (w':=W8.alloc (.cells #[.int .i64 sm,.slice al ss.length cl] 66)) (o':=own2 o8 W8.heap.size fun _=>(14,0,0)) (fun q hq e=>⟨hB9.block q hq,(own2_low hq).trans e⟩)
    have V9:=HR8.out.2.below hB9 (fun _=>(14,0,0))
    have hs:=V9.snoc (by simp) P9 (by rw [hlen];exact hown9) hgrow9 hat9
    have T9:=(TouchT.refl (fun q=>q=((8,0,0):Tag)) _ (own2 o8 W8.heap.size fun _=>(14,0,0))).grew hgrow9 V9.row.tag rfl
    obtain ⟨hkl,hke⟩:=List.getElem?_eq_some_iff.1 HAV.out
    exact ⟨⟨k+1,_,by omega,by go_num,⟨A9.ks.free HRm.out (fun q e=>by subst e;simp [free1,nz]) T9,⟨_,by rw [List.take_succ_eq_append_getElem hkl,hke];exact hs⟩,A9.sub⟩⟩,by simp [intOf];omega⟩
  ·as_aux_lemma=>
    have hk':k=6:=by omega
    subst hk'
    have htk:(rdV n t (s.H 0)).take 6=rdV n t (s.H 0):=List.take_of_length_le (by rw [rdV_len];exact Nat.le_refl _)
    rw [htk] at HA
    obtain ⟨xs,hv⟩:=HA.out.vals
    obtain ⟨lg,lcp,elv,-⟩:=hv.cells (rdV_len _ _ _)
    subst elv
    have HH0:=hide (HA.out.ks.histAt (i:=0) (by omega)).1
    have HLs:Hid (s.ts.length≤2 * ps.length∧s.L.length≤ps.length):=HB.out
    clear hv htk HB
    have HKk:Hid (∀ W,Calls Tryz.prog 43 #[] W fun e w'=>∃ g,e=.returned (.slice (some ⟨g,0,none⟩) 6 6)∧Hid (Below W.heap.size W w')):=fun W=>by
     refine (keys_any W).mono ?_
     rintro e w' ⟨rfl,rfl⟩
     exact ⟨_,rfl,(Below.refl _ _).alloc (Nat.le_refl _) _⟩
    go_wp2_with fail
    refine (HKk.out _).mono ?_
    rintro e w5 ⟨g5,rfl,hB5⟩
    have HA5:=hide (HA.out.below hB5.out)
    clear HA hB5 HKk
    generalize own2 oo _ (fun _=>(14,0,0))=o5 at *
    go_wp2_with fail
    go_loopw [18,19,20,21,22,23] (fun iv _ _ _ _ _ wz=>∃ (i:Nat) (oz:Nat→Tag) (s2:PS) (X2:Nat→DX),i≤qs.length∧iv=.int .i64 i∧Hid (SnAt n w gb g cap B t (s.H 0) s2 X2 (.slice (some ⟨lg,0,none⟩) 6 lcp) (rdV n t (s.H 0)) wz oz∧s2.ts.length≤2 * ps.length+2 * i∧s2.L.length≤ps.length+i)) (fun iv _ _ _ _ _ _=>qs.length - (intOf iv).toNat)
    case atStart=>exact ⟨0,o5,s,X,Nat.zero_le _,rfl,HA5.out,HLs.out.1,HLs.out.2⟩
    case round=>
     clear HA5 HLs
     obtain ⟨i,oz,s2,X2,hiq,rfl,HA⟩:=hrel
     have HBr:Hid (Below w.heap.size w wr):=at0_below HA.out.1.ks.at0
     by_cases hlt:i<qs.length
     ·as_aux_lemma=>
       obtain ⟨sg,off,e,hsb,hcell⟩:=HPS.out.1 i hlt
       subst e
       have x0:=hcell 0 (by omega)
       have x1:=hcell 1 (by omega)
       have x2:=hcell 2 (by omega)
       have x3:=hcell 3 (by omega)
       simp only [KOp.cells,List.getElem?_cons_zero,List.getElem?_cons_succ,Nat.add_zero] at x0 x1 x2 x3
       have y0:=cell_later HBr.out x0
       have y1:=cell_later HBr.out x1
       have y2:=cell_later HBr.out x2
       have y3:=cell_later HBr.out x3
       have hsl:sg<wr.heap.size:=by have:=HBr.out.size;omega
       have HO:=hide (HPS.out.2.1 i hlt)
       have hpl:=HPS.out.2.2.2
       obtain ⟨p,hp⟩:∃ p,qs[i]=p:=⟨_,rfl⟩
       rw [hp] at y0 y1 y2 y3 HO
       clear x0 x1 x2 x3 hcell hsb hp HBr
       go_wp2_with fail
       refine (step_any HA.out.1.ks (by omega) HRm.out (fun q _=>opO_room t q) p HO.out (by have:=HA.out.2.1;omega) (by have:=HA.out.2.2;omega)).mono ?_
       rintro e w6 ⟨rfl,o6,s3,X3,hst,hK6,hT6,-⟩
       have hfew:=step_few hst
       have HA6:=hide (HA.out.1.next (s':=s3) hK6 hT6 (fun u hu=>step_mem hst 0 hu))
       have HL6:Hid (s3.ts.length≤2 * ps.length+2 * (i+1)∧s3.L.length≤ps.length+(i+1)):=⟨by have:=HA.out.2.1;omega,by have:=HA.out.2.2;omega⟩
       clear HA hst hK6 hT6 hfew y0 y1 y2 y3 hsl HO hpl
       go_wp2_with fail
       go_loopw [20,21,22,23] (fun kv _ _ _ wz=>∃ (k:Nat) (oz:Nat→Tag),k≤6∧kv=.int .i64 k∧Hid (SnAt n w gb g cap B t (s.H 0) s3 X3 (.slice (some ⟨lg,0,none⟩) 6 lcp) (rdV n t (s.H 0)) wz oz)) (fun kv _ _ _ _=>6 - (intOf kv).toNat)
       case atStart=>exact ⟨0,o6,by omega,rfl,HA6.out⟩
       case round=>
        clear HA6
        obtain ⟨k,oz,hk6,rfl,HA⟩:=hrel
        by_cases hk:k<6
        ·as_aux_lemma=>
          have hkl:k<keyL.length:=by simpa [keyL] using hk
          obtain ⟨key,hkey⟩:∃ key,keyL[k]=key:=⟨_,rfl⟩
          have hmem:key ∈ keyL:=hkey ▸ List.getElem_mem hkl
          have HKk:Hid (∀ W,Calls Tryz.prog 43 #[] W fun e w'=>∃ g,e=.returned (.slice (some ⟨g,0,none⟩) 6 6)∧w'.cell? ⟨g,k,none⟩=some (.string key)∧g<w'.heap.size∧Hid (Below W.heap.size W w')):=fun W=>by
           refine (keys_any W).mono ?_
           rintro e w' ⟨rfl,rfl⟩
           have bk:Blk (W.alloc (.cells (strs keyL).toArray 9)) W.heap.size (strs keyL) 9:=heap_alloc_new W _
           exact ⟨_,rfl,by rw [bk.cell k];unfold strs;rw [List.getElem?_map,List.getElem?_eq_getElem hkl,hkey];rfl,bk.lt,(Below.refl _ _).alloc (Nat.le_refl _) _⟩
          have HAV:Hid ((rdV n t (s.H 0))[k]? = some ((readAns (some t) key (s.H 0) n).1,(readAns (some t) key (s.H 0) n).2.1)):=by
           unfold Hid rdV
           rw [List.getElem?_map,List.getElem?_eq_getElem hkl,hkey];rfl
          have hrs:readAns (some t) key (s3.H 0) n=readAns (some t) key (s.H 0) n:=by
           rw [HT.out]
           exact read_still (HA.out.ks.histAt (i:=0) (by omega)).1 HH0.out HA.out.sub _ _
          have hrl:(readAns (some t) key (s.H 0) n).2.1.length≤100000000:=by
           rw [← hrs,HT.out]
           exact read_len (HA.out.ks.histAt (i:=0) (by omega)).1 (HA.out.ks.len (by omega)) (t:=⟨0,0,visOf n (s.H 0),[addOp ma]⟩) (fun r=>by
            have h1:=told_low HA.out.sub HH0.out (HA.out.ks.histAt (i:=0) (by omega)).1 (HA.out.ks.len (i:=0) (by omega)) r
            exact h1) (by simp) key
          have HRs:=hide hrs
          clear hkey hkl hrs
          go_wp2_with fail
          refine (HKk.out _).mono ?_
          rintro e w7 ⟨g7,rfl,-,-,hB7⟩
          have HA7:=hide (HA.out.below hB7.out)
          clear HA hB7
          generalize own2 oz _ (fun _=>(14,0,0))=o7 at *
          go_wp2_with fail
          refine (HKk.out _).mono ?_
          rintro e w8 ⟨g8,rfl,z8,l8,hB8⟩
          have HA8:=hide (HA7.out.below hB8.out)
          clear HA7 hB8 HKk
          generalize own2 o7 _ (fun _=>(14,0,0))=o8 at *
          go_wp2_with fail
          refine (HA8.out.ks.read0 (by omega) (6,0,0) (by simp [free1]) hmem).mono ?_
          rintro e w9 ⟨lv,o9,rfl,K9,T9,P9⟩
          rw [HRs.out] at P9 ⊢
          generalize (readAns (some t) key (s.H 0) n).1=sm at *
          generalize (readAns (some t) key (s.H 0) n).2.1=ss at *
          obtain ⟨al,cl,el,-⟩:=P9.row.shape
          subst el
          have HA9:=hide (⟨HA8.out.next (s':=s3) K9 T9 (fun _ hu=>hu),P9⟩:_∧_)
          clear HA8 K9 T9 P9 z8 l8 hmem HRs
          as_aux_lemma=>
           go_upto_region 28 with (fail)
           generalize hwa:World.alloc w9 _=Wa
           have hBa:Below w9.heap.size w9 Wa:=by rw [← hwa];exact (Below.refl _ _).alloc (Nat.le_refl _) _
           have ba:Blk Wa w9.heap.size [.int .i64 sm,.slice al ss.length cl] 66:=by rw [← hwa];exact heap_alloc_new w9 _
           have HAa:=hide (HA9.out.1.below hBa)
           have hrv:Row Wa 9 1 (.slice al ss.length cl) ss.length (strs ss):=HA9.out.2.row.below hBa
           obtain ⟨ys,hv⟩:=HAa.out.vals
           obtain ⟨lg',lcp',el,hcs⟩:=hv.cells (rdV_len _ _ _)
           injection el with e1 e2 e3
           injection e1 with e4
           injection e4 with e5
           subst e5
           obtain ⟨hkv,hke⟩:=List.getElem?_eq_some_iff.1 HAV.out
           obtain ⟨bl,cl2,d0,d1,hrw⟩:=hcs k hkv
           rw [hke] at d0 d1 hrw
           dsimp only at d0 d1 hrw
           have m0:=Bel.cell (show Wa.cell? ⟨w9.heap.size,0,none⟩=some (.int .i64 sm) from ba.cell 0)
           have m1:=Bel.cell (show Wa.cell? ⟨w9.heap.size,1,none⟩=some (.slice al ss.length cl) from ba.cell 1)
           have m2:=Bel.cell d0
           have m3:=Bel.cell d1
           have HSm:Hid (∀ f:Fam (Bel Wa),Calls Tryz.prog 35 #[.agg #[.int .i64 sm,.slice al ss.length cl],.agg #[.int .i64 sm,.slice bl ss.length cl2]] f.w fun e w''=>e=.returned (.bool true)∧∃ g:Fam (Bel Wa),w''=g.w):=fun f=>Bel.call f ((ksame_any f.w sm sm _ _ ss ss (hrv.below f.ok) (hrw.below f.ok) hrl hrl).mono fun e w' ⟨h1,h2⟩=>⟨by rw [h1];exact ret_bool (decide_eq_true ⟨rfl,rfl⟩),h2⟩)
           have hla:=ba.lt
           clear hcs d0 d1 hrw hv hrv HA9 hwa hBa ba e2 e3
           generalize own2 o9 _ (fun _=>(14,0,0))=oa at *
           generalize w9.heap.size=vb at *
           refine region_fam (Bel Wa) (by kernel_rfl) (by kernel_rfl) (Below.refl _ _).drew ?_
           repeat (go_big_quiet_step (first | (go_at_call 35;exact HSm.out _)))
           refine wpQuiet_nil ?_
           intro _ hw'
           obtain ⟨fq,rfl⟩:=hw'
           obtain ⟨wb,hBb⟩:=fq
           try dsimp only
           have HAb:=hide (HAa.out.below hBb)
           clear HAa hBb m0 m1 m2 m3 HSm
           go_wp2_with fail
           exact ⟨⟨k+1,_,by omega,by go_num,HAb.out⟩,by simp [intOf];omega⟩
        ·as_aux_lemma=>
          have hk':k=6:=by omega
          subst hk'
          have HKk:Hid (∀ W,Calls Tryz.prog 43 #[] W fun e w'=>∃ g,e=.returned (.slice (some ⟨g,0,none⟩) 6 6)∧Hid (Below W.heap.size W w')):=fun W=>by
           refine (keys_any W).mono ?_
           rintro e w' ⟨rfl,rfl⟩
           exact ⟨_,rfl,(Below.refl _ _).alloc (Nat.le_refl _) _⟩
          go_wp2_with fail
          refine (HKk.out _).mono ?_
          rintro e w7 ⟨g7,rfl,hB7⟩
          have HA7:=hide (HA.out.below hB7.out)
          clear HA hB7 HKk
          go_wp2_with fail
          exact ⟨⟨i+1,_,s3,X3,by omega,by go_num,HA7.out,HL6.out⟩,by simp [intOf];omega⟩
     ·as_aux_lemma=>
       have hlt':¬ (i:Int)<qs.length:=by omega
       have hpl:=HPS.out.2.2.2
       have hfr:freeSlot (opO t 0)<6:=by
        have:freeSlot (opO t 0)=1:=(room_one t).free
        omega
       clear HPS HBr HI
       go_wp2_with fail
       refine (HA.out.1.ks.all (i:=0) (by omega) hfr (10,0,0) (11,0,0) (by simp [free1]) (by simp [free1]) (by simp)).mono ?_
       rintro e w6 ⟨lv6,o6,xs6,rfl,K6,T6,V6⟩
       obtain ⟨g6,cp6,el6,-⟩:=V6.cells (allV_len _ _)
       subst el6
       have H6:=hide (⟨K6,V6⟩:_∧_)
       have HBd:=hide HA.out.2
       clear HA K6 T6 V6 hfr
       go_wp2_with fail
       refine (H6.out.1.commit (i:=0) (by omega) (k:=0) (t:=t) rfl (by rw [HT.out];simp) (by have:=HBd.out.1;omega)).mono ?_
       rintro e w7 ⟨rfl,o7,K7,T7⟩
       rw [opO_end] at K7
       have H7:=hide (⟨K7,H6.out.2.touch T7 (free_kg (by simp [free1]) _) (free_kg (by simp [free1]) _)⟩:_∧_)
       have hH7:=(K7.histAt (i:=0) (by omega)).1
       rw [put_same] at hH7
       have hq:((cntR (s2.H 0 ++ [comT n 0 (s2.H 0) t]) 0:Nat):Int)=(cntR (s2.H 0) 0:Int)+1:=by
        have e:(comT n 0 (s2.H 0) t).rep=((0:Nat):Int):=rfl
        rw [cntR_snoc,if_pos e];rfl
       have hmo:∃ a:Int,(allV n (s2.H 0))[0]? = some (a,[])∧(allV n (s2.H 0 ++ [comT n 0 (s2.H 0) t]))[0]? = some (wrap64 (a+ma),[]):=by
        rw [HT.out] at hH7 ⊢
        exact all_more hma hH7
       obtain ⟨a,ha1,ha2⟩:=hmo
       have HMo:=hide (⟨hq,ha1,ha2⟩:_∧_∧_)
       clear K7 T7 H6 hH7 hq ha1 ha2 HBd
       generalize (cntR (s2.H 0) 0:Int)+1=sq at *
       generalize comT n 0 (s2.H 0) t=u at *
       as_aux_lemma=>
        go_upto_region 33 with (fail)
        generalize hw8:World.alloc w7 _=W8
        have hB8:Below w7.heap.size w7 W8:=by rw [← hw8];exact (Below.refl _ _).alloc (Nat.le_refl _) _
        have HD8:Hid (Bl W8 (own2 o7 w7.heap.size fun _=>(14,0,0)) (14,0,0) w7.heap.size [.int .i64 (0:Nat),.int .i64 sq] 62):=⟨by rw [← hw8];exact heap_alloc_new w7 _,own2_high (Nat.le_refl _)⟩
        have H8:=hide (⟨(H7.out.1.below hB8 (14,0,0)).1,H7.out.2.below hB8 (fun _=>(14,0,0))⟩:_∧_)
        clear H7 hw8 hB8
        generalize own2 o7 _ (fun _=>(14,0,0))=o8 at *
        generalize w7.heap.size=db at *
        go_wp2_with fail
        refine (H8.out.1.all (i:=0) (by omega) (by show freeSlot (fun _=>none)<6;rw [free_new];omega) (15,0,0) (16,0,0) (by simp [free1]) (by simp [free1]) (by simp)).mono ?_
        rintro e w9 ⟨lv9,o9,xs9,rfl,K9,T9,V9⟩
        rw [put_same] at V9
        obtain ⟨g9,cp9,el9,-⟩:=V9.cells (allV_len _ _)
        subst el9
        have H9:=hide (⟨K9,H8.out.2.touch T9 (free_kg (by simp [free1]) _) (free_kg (by simp [free1]) _),V9,HD8.out.touch T9 (free_kg (by simp [free1]) _)⟩:_∧_∧_∧_)
        clear K9 T9 V9 H8 HD8
        go_wp2_with fail
        refine (H9.out.1.visible (i:=0) (by omega) (17,0,0) (by simp [free1])).mono ?_
        rintro e wa ⟨lva,oa,rfl,Ka,Ta,Pa⟩
        rw [put_same] at Pa
        obtain ⟨va,vcap,ela,-,-,hval,hvc,-⟩:=Row.pos Pa.row (by omega)
        subst ela
        have hv0:wa.cell? ⟨va,0,none⟩=some (.int .i64 sq):=by
         rw [hvc 0 (by omega),ints_get _ _ (by rw [visOf_len];omega)]
         have:=visOf_get (hs:=s2.H 0 ++ [u]) (show 0<n by omega)
         rw [List.getD_eq_getElem?_getD,List.getElem?_eq_getElem (by rw [visOf_len];omega),HMo.out.1] at this
         exact congrArg (fun z=>some (Value.int .i64 z)) this
        have hDa:=H9.out.2.2.2.touch Ta (free_kg (by simp [free1]) _)
        have hV1:=H9.out.2.1.touch Ta (free_kg (by simp [free1]) _) (free_kg (by simp [free1]) _)
        have hV2:=H9.out.2.2.1.touch Ta (free_kg (by simp [free1]) _) (free_kg (by simp [free1]) _)
        obtain ⟨g6',cp6',e6,hc6⟩:=hV1.cells (allV_len _ _)
        injection e6 with e61
        injection e61 with e62
        injection e62 with e63
        subst e63
        obtain ⟨g9',cp9',e9,hc9⟩:=hV2.cells (allV_len _ _)
        injection e9 with e91
        injection e91 with e92
        injection e92 with e93
        subst e93
        obtain ⟨k1,k2⟩:=List.getElem?_eq_some_iff.1 HMo.out.2.1
        obtain ⟨k3,k4⟩:=List.getElem?_eq_some_iff.1 HMo.out.2.2
        obtain ⟨_,_,d6,-,-⟩:=hc6 0 k1
        obtain ⟨_,_,d9,-,-⟩:=hc9 0 k3
        rw [k2] at d6
        rw [k4] at d9
        dsimp only at d6 d9
        have m0:=Bel.cell hv0
        have m1:=Bel.cell (show wa.cell? ⟨db,0,none⟩=some (.int .i64 (0:Nat)) from hDa.blk.cell 0)
        have m2:=Bel.cell (show wa.cell? ⟨db,1,none⟩=some (.int .i64 sq) from hDa.blk.cell 1)
        have m3:=Bel.cell (show wa.cell? ⟨g6,0,none⟩=some (.int .i64 a) from d6)
        have m4:=Bel.cell (show wa.cell? ⟨g9,0,none⟩=some (.int .i64 (wrap64 (a+ma))) from d9)
        have HBa:Hid (Below w.heap.size w wa):=at0_below Ka.at0
        have hnn:¬ (n:Int)=0:=by omega
        have hn0:¬ n=0:=by omega
        have hnb:((n:Int) == 0)=false:=by simpa using hn0
        clear hvc hv0 hDa hV1 hV2 hc6 hc9 d6 d9 k1 k2 k3 k4 H9 Ka Ta Pa HMo
        go_upto_region 35 with (fail)
        refine region_fam (Bel wa) (by kernel_rfl) (by kernel_rfl) (Below.refl _ _).drew ?_
        repeat (go_big_quiet_step (fail))
        refine wpQuiet_nil ?_
        intro _ hw'
        obtain ⟨fq,rfl⟩:=hw'
        obtain ⟨wb,hBb⟩:=fq
        try dsimp only
        have n1:=m1 ⟨wb,hBb⟩
        have n3:=m3 ⟨wb,hBb⟩
        have n4:=m4 ⟨wb,hBb⟩
        dsimp only at n1 n3 n4
        have p1:=Bel.cell n1
        have p3:=Bel.cell n3
        have p4:=Bel.cell n4
        have HBb:Hid (Below w.heap.size w wb):=HBa.out.trans (hBb.mono HBa.out.size)
        clear m0 m1 m2 m3 m4 n1 n3 n4 HBa hBb
        go_upto_region 37 with (fail)
        refine region_fam (Bel wb) (by kernel_rfl) (by kernel_rfl) (Below.refl _ _).drew ?_
        repeat (go_big_quiet_step (fail))
        refine wpQuiet_nil ?_
        intro _ hw'
        obtain ⟨fq,rfl⟩:=hw'
        obtain ⟨wc,hBc⟩:=fq
        try dsimp only
        go_wp2_with fail
        go_ret
        exact ⟨by simp,HBb.out.trans (hBc.mono HBb.out.size)⟩
end Go.Proofs.YtiplgdkpnhamaaaGreatDoor.Tv
