/- Of the text QS6: played. -/
import Derived.Test.YtiplgdkpnhamaaaGreatDoorE47
namespace Go.Proofs.YtiplgdkpnhamaaaGreatDoor.Tv
open Go.RowKit
def PlayEnd (n:Nat) (len:Nat) (w:World) (e:Ending) (w':World):Prop:=∃ gb g cap B,e=.returned (bptr gb)∧EqAt n w gb g cap B len w'
set_option maxRecDepth 100000 in
set_option maxHeartbeats 16000000 in
theorem played_any {w:World} (ht:Tabs w) (m:Int) (hm:-9223372036854775808≤m) (hm':m≤9223372036854775807) (sv:Value) (ps:List KOp) (hps:KIn w sv ps) :
  Calls Tryz.prog 42 #[.int .i64 m,sv] w (PlayEnd (2+pickOf m 4) ps.length w):=by
 have HRm:Hid (6≤w.heap.size):=ht.room
 have HMd:=hide (made_any ht m hm hm')
 have hlt:=pickOf_lt m 4 (by omega)
 generalize hn:2+pickOf m 4=n at HMd ⊢
 have hn2:2≤n:=by omega
 have hn5:n≤5:=by omega
 obtain ⟨ao,cp,esv,hcell⟩:=hps.ex
 have HPS:=hide (⟨hcell,hps.ok,hps.most⟩:_∧_∧_)
 subst esv
 have hpm:ps.length≤262144:=hps.most
 clear ht hm hm' hlt hn hps hcell
 go_enter Tryz.func42,Tryz.ntmps42
 go_wp2_with fail
 refine HMd.out.mono ?_
 rintro e w1 ⟨gb,rv,B,o,rfl,-,h2,h3,h4⟩
 obtain ⟨g,cap,-,hK⟩:=Ks.start h4 h2 h3 (by omega)
 have HK:Hid (EqAt n w gb g cap B 0 w1):=⟨⟨⟨[],fun _=>[],[]⟩,_,o,hK,Nat.zero_le _,Nat.zero_le _⟩⟩
 clear hK h2 h3 h4 HMd
 go_wp2_with fail
 go_loopw [6,7] (fun iv _ wr=>∃ k:Nat,k≤ps.length∧iv=.int .i64 k∧Hid (EqAt n w gb g cap B k wr)) (fun iv _ _=>ps.length - (intOf iv).toNat)
 case atStart=>exact ⟨0,Nat.zero_le _,rfl,HK.out⟩
 case round=>
  clear HK
  obtain ⟨k,hk,rfl,HE⟩:=hrel
  obtain ⟨s,X,o,hK,hts,hL⟩:=HE.out.ex
  have HBr:Hid (Below w.heap.size w wr):=at0_below hK.at0
  by_cases hlt:k<ps.length
  ·as_aux_lemma=>
    obtain ⟨sg,off,rfl,hsb,hcell⟩:=HPS.out.1 k hlt
    have x0:=hcell 0 (by omega)
    have x1:=hcell 1 (by omega)
    have x2:=hcell 2 (by omega)
    have x3:=hcell 3 (by omega)
    simp only [KOp.cells,List.getElem?_cons_zero,List.getElem?_cons_succ,Nat.add_zero] at x0 x1 x2 x3
    have y0:=cell_later HBr.out x0
    have y1:=cell_later HBr.out x1
    have y2:=cell_later HBr.out x2
    have y3:=cell_later HBr.out x3
    have hsl:sg<wr.heap.size:=by have:=HBr.out.size;omega
    have HO:=hide (HPS.out.2.1 k hlt)
    obtain ⟨p,hp⟩:∃ p,ps[k]=p:=⟨_,rfl⟩
    rw [hp] at y0 y1 y2 y3 HO
    have HKs:=hide (⟨hK,hts,hL⟩:_∧_∧_)
    clear x0 x1 x2 x3 hcell hsb hp HE hK hts hL HBr
    go_wp2_with fail
    refine (step_any HKs.out.1 (by omega) HRm.out (fun i _=>⟨0,1,room_none⟩) p HO.out (by have:=HKs.out.2.1;omega) (by have:=HKs.out.2.2;omega)).mono ?_
    rintro e w2 ⟨rfl,o2,s2,X2,hst,hK2,-,-⟩
    have hfew:=step_few hst
    have HE2:Hid (EqAt n w gb g cap B (k+1) w2):=⟨s2,X2,o2,hK2,by have:=HKs.out.2.1;omega,by have:=HKs.out.2.2;omega⟩
    clear hst hK2 hfew HKs y0 y1 y2 y3 HO
    go_wp2_with fail
    exact ⟨⟨k+1,by omega,by go_num,HE2.out⟩,by simp [intOf];omega⟩
  ·as_aux_lemma=>
    have hkl:k=ps.length:=by omega
    subst hkl
    go_wp2_with fail
    go_ret
    exact ⟨gb,g,cap,B,rfl,HE.out⟩
end Go.Proofs.YtiplgdkpnhamaaaGreatDoor.Tv
