/- The texts R15, S8, joined. -/
import Derived.Test.YtiplgdkpnhamaaaGreatDoorW08
import Derived.Deep.OwnRows
import Derived.Deep.DeepCutAuto

/- The reference's Group.New: a replica at which nothing is visible. -/
namespace Go.Proofs.YtiplgdkpnhamaaaGreatDoor
open Go.RowKit

theorem Tryz.infoInt15 : (Tryz.prog.info? 3).map (fun i => (i.zero, i.size, i.bytes)) = some (some (.int .i64 0), 1, 8) := by kernel_rfl
theorem Tryz.infoInts15 : (Tryz.prog.info? 44).map (fun i => (i.zero, i.size, i.bytes)) = some (some (.slice none 0 0), 1, 24) := by kernel_rfl
theorem mk_ints (n : Nat) (hn : n ≤ 5) (v : World) : (Instr.makeSlice 44 (.int .i64 (n : Int)) (.int .i64 (n : Int))).run Tryz.prog v = .ok (.slice (some ⟨v.heap.size, 0, none⟩) n n) (v.alloc (.cells (madeCells #[.int .i64 0] n) 3)) :=
  run_make_row' 44 3 (.int .i64 0) 8 Tryz.underlying44 Tryz.infoInt15 rfl .i64 .i64 n (by omega) (by omega) v
theorem made_zero (n : Nat) : (madeCells #[Value.int .i64 0] n).toList = ints (List.replicate n 0) := by
  rw [toList_madeCells_one]; simp [ints]
theorem row_made (w : World) (n base : Nat) (hn : n ≤ 5) (hb : base ≤ w.heap.size) : (w.alloc (.cells (madeCells #[.int .i64 0] n) 3)).ownsRow base 3 1 (.slice (some ⟨w.heap.size, 0, none⟩) n n) n (ints (List.replicate n 0)) := by
  have hl : (madeCells #[Value.int .i64 0] n).size = n := by
    have := congrArg List.length (made_zero n)
    simpa [ints] using this
  have a := World.ownsRow_lit (base := base) (e := 3) (size := 1) w (madeCells #[.int .i64 0] n) n hb (by unfold maxLen; omega) (by omega)
  rw [made_zero n] at a
  exact a

/-- The replica as it is made. -/
structure NewSt (w wr : World) (o : Nat → Tag) (b n k : Nat) (id : Int) (vv kv gv : Value) : Prop where
  blk : Bl wr o (1, 0, 0) b [.int .i64 id, vv, .slice none 0 0, kv, gv] 165
  vis : Pc wr o (2, 0, 0) 3 1 vv n (ints (List.replicate n 0))
  known : ∃ ys, Pc wr o (3, 0, 0) 44 1 kv k ys
  low : w.heap.size ≤ b ∧ (∀ q, vv.ownBlock = some q → w.heap.size ≤ q) ∧ (∀ q, kv.ownBlock = some q → w.heap.size ≤ q)
  bel : Below w.heap.size w wr

theorem new0 (w : World) (n : Nat) (id : Int) (hn : n ≤ 5) (x y : Nat) (h : (x = w.heap.size ∧ y = w.heap.size + 1) ∨ (x = w.heap.size + 1 ∧ y = w.heap.size)) :
    ∃ b o vv gv, ptr (w.heap.size + 1 + 1) = ptr b ∧ NewSt w (((w.alloc (.cells (madeCells #[.int .i64 0] n) 3)).alloc (.cells (madeCells #[.int .i64 0] n) 3)).alloc (.cells #[.int .i64 id, .slice (some ⟨x, 0, none⟩) n n, .slice none 0 0, .slice none 0 0, .slice (some ⟨y, 0, none⟩) n n] 165)).drew o b n 0 id vv (.slice none 0 0) gv := by
  have s1 : (w.alloc (.cells (madeCells #[.int .i64 0] n) 3)).heap.size = w.heap.size + 1 := by simp
  have s2 : ((w.alloc (.cells (madeCells #[.int .i64 0] n) 3)).alloc (.cells (madeCells #[.int .i64 0] n) 3)).heap.size = w.heap.size + 2 := by simp
  refine ⟨w.heap.size + 2, fun q => if q = w.heap.size + 2 then (1, 0, 0) else (2, 0, 0), .slice (some ⟨x, 0, none⟩) n n, .slice (some ⟨y, 0, none⟩) n n, rfl, ⟨?_, by simp⟩, ⟨?_, fun q hq => ?_⟩, ⟨[], ⟨by simpa using World.ownsRow_nil _ _ _ _, fun q hq => by simp [Value.ownBlock] at hq⟩⟩, ⟨by omega, fun q hq => ?_, fun q hq => by simp [Value.ownBlock] at hq⟩, ?_⟩
  · have := heap_alloc_new ((w.alloc (.cells (madeCells #[.int .i64 0] n) 3)).alloc (.cells (madeCells #[.int .i64 0] n) 3)) (.cells #[.int .i64 id, .slice (some ⟨x, 0, none⟩) n n, .slice none 0 0, .slice none 0 0, .slice (some ⟨y, 0, none⟩) n n] 165)
    rw [s2] at this
    exact this
  · rcases h with ⟨rfl, rfl⟩ | ⟨rfl, rfl⟩
    · exact World.ownsRow.alloc (World.ownsRow.alloc (row_made w n 0 hn (Nat.zero_le _)) _) _
    · have a := row_made (w.alloc (.cells (madeCells #[.int .i64 0] n) 3)) n 0 hn (Nat.zero_le _)
      rw [s1] at a
      exact World.ownsRow.alloc a _
  · have e : x = q := by simpa [Value.ownBlock] using hq
    subst e
    rw [if_neg (by omega)]
  · have e : x = q := by simpa [Value.ownBlock] using hq
    subst e
    omega
  · exact ((((Below.refl _ _).alloc (Nat.le_refl _) _).alloc (by omega) _).alloc (by omega) _).drew

theorem NewSt.more {w wr w1 : World} {o : Nat → Tag} {b n k : Nat} {id : Int} {vv kv gv v1 : Value} {ob1 ob2 : Obj} {ys zs : List Value} (h : NewSt w wr o b n k id vv kv gv) (hK : Pc wr o (3, 0, 0) 44 1 kv k ys)
    (hown : w1.ownsRow 0 44 1 v1 (k + 1) zs) (hg : ((wr.alloc ob1).alloc ob2).grownBy w1 kv.ownBlock) (hat : v1.ownBlock = kv.ownBlock ∨ v1.ownBlock = some ((wr.alloc ob1).alloc ob2).heap.size) :
    NewSt w (w1.setCell ⟨b, 3, none⟩ v1) (upd o ((wr.alloc ob1).alloc ob2).heap.size (3, 0, 0)) b n (k + 1) id vv v1 gv := by
  have hs : ((wr.alloc ob1).alloc ob2).heap.size = wr.heap.size + 2 := by simp
  have hB1 := ((h.blk.alloc ob1).alloc ob2).grew hg hK.tag (by simp)
  have e : upd o ((wr.alloc ob1).alloc ob2).heap.size (3, 0, 0) (⟨b, 3, none⟩ : Addr).block = (1, 0, 0) := hB1.tag
  refine ⟨hB1.set 3 v1, (((h.vis.alloc ob1).alloc ob2).grew hg hK.tag (by simp)).set e (by simp) v1, ⟨zs, (((hK.alloc ob1).alloc ob2).app hown hat).set e (by simp) v1⟩, ⟨h.low.1, h.low.2.1, fun q hq => ?_⟩, ?_⟩
  · rcases hat with c | c
    · exact h.low.2.2 q (by rw [← c]; exact hq)
    · rw [c] at hq
      have := h.bel.size
      cases hq
      omega
  · have hb2 := (h.bel.alloc h.bel.size ob1).alloc (by have := h.bel.size; simp; omega) ob2
    exact (hb2.grown hg (by have := h.bel.size; omega) h.low.2.2).setCell h.low.1 v1

set_option maxRecDepth 100000 in
set_option maxHeartbeats 4000000 in
theorem new_any (w : World) (gb n : Nat) (id : Int) (rsv av : Value) (hn : 1 ≤ n) (hn5 : n ≤ 5) (hG : Blk w gb [.int .i64 n, rsv, av] 89) :
    Calls Tryz.prog 50 #[ptr gb, .int .i64 id] w fun e w' => ∃ b o vv kv gv, e = .returned (ptr b) ∧ NewSt w w' o b n n id vv kv gv := by
  have hmk := mk_ints n hn5
  have g0 : w.cell? ⟨gb, 0, none⟩ = some (.int .i64 n) := hG.cell 0
  have hgl := hG.lt
  clear hG
  go_enter Tryz.func50, Tryz.ntmps50
  go_upto_region 1 with (fail)
  go_cut [5] (fun p wc => ∃ b o vv gv, p = ptr b ∧ NewSt w wc o b n 0 id vv (.slice none 0 0) gv)
  case first =>
    go_region
    all_goals go_wp2_with fail
    all_goals go_meet
    all_goals first | exact new0 w n id hn5 _ _ (Or.inl ⟨rfl, rfl⟩) | exact new0 w n id hn5 _ _ (Or.inr ⟨rfl, rfl⟩)
  case rest =>
    obtain ⟨b, o, vv, gv, rfl, h0⟩ := hcut
    have H0 := hide h0
    clear h0
    obtain ⟨i0, hi, hz0, hz1, hz2⟩ := info_parts Tryz.infoInts15
    go_wp2_with fail
    go_loopw [6] (fun i wr => ∃ (k : Nat) (o' : Nat → Tag) (kv : Value), k ≤ n ∧ i = .int .i64 k ∧ Hid (NewSt w wr o' b n k id vv kv gv)) (fun i _ => n - (intOf i).toNat)
    case atStart => exact ⟨0, o, _, Nat.zero_le _, rfl, H0.out⟩
    case round =>
      obtain ⟨k, o', kv, hk, rfl, hst⟩ := hrel
      have g1 := cell_later hst.out.bel g0
      have hgl1 : gb < wr.heap.size := by have := hst.out.bel.size; omega
      by_cases hlt : k < n
      · obtain ⟨ys, hK⟩ := hst.out.known
        obtain ⟨ko, kcap, rfl, -, -, -⟩ := hK.row.shape
        have c3 : wr.cell? ⟨b, 3, none⟩ = some (.slice ko k kcap) := hst.out.blk.blk.cell 3
        have hbl := hst.out.blk.blk.lt
        have HK := hide hK
        have hyl : Hid (ys.length = k * 1) := hK.row.1
        clear hK g0
        go_wp2_with fail
        go_region_law (refine step_append_own rfl _ _ 92 rfl 44 i0 (.slice none 0 0) 1 24 Tryz.underlying92 hi hz0 hz1 hz2 rfl (by decide) (.slice ko k kcap) k ys (by simp [Act.eval]) (by exact World.ownsRow.alloc (World.ownsRow.alloc HK.out.row _) _) ⟨wr.heap.size + 1, 0, none⟩ 1 1 [.slice (some ⟨wr.heap.size, 0, none⟩) n n] (by simp [Act.eval]) rfl (by exact news2 _ _ _ _) (by intro u hu; simp at hu; subst hu; rfl) (by unfold maxLen; omega) (by omega) ?_; intro v2 w2 hown2 hgrow2 hat2; obtain ⟨g2, cap2, rfl, -, -, -, -, -⟩ := Row.pos hown2 (by omega); have hg2 : ((wr.alloc (.cells (madeCells #[.int .i64 0] n) 3)).alloc (.cells #[.slice (some ⟨wr.heap.size, 0, none⟩) n n] 44)).grownBy w2 (Value.slice ko k kcap).ownBlock := ⟨hgrow2.os, hgrow2.tape, hgrow2.output, hgrow2.size, hgrow2.block⟩; have hB1 := ((hst.out.blk.alloc _).alloc _).grew hg2 HK.out.tag (by simp); have q4 := hB1.blk.cell 3; have p4 := hB1.blk.frozen 3; have hl1 := hB1.blk.lt; clear hB1 hgrow2)
        all_goals go_wp2_with fail
        all_goals exact ⟨⟨k + 1, _, _, by omega, by go_num, hst.out.more HK.out hown2 hg2 hat2⟩, by simp [intOf]; omega⟩
      · have e : k = n := by omega
        subst e
        go_wp2_with fail
        go_ret
        exact ⟨b, o', vv, kv, gv, rfl, hst.out⟩

end Go.Proofs.YtiplgdkpnhamaaaGreatDoor

/- The law's group while its replicas are made. -/
namespace Go.Proofs.YtiplgdkpnhamaaaGreatDoor
open Go.RowKit

abbrev nilS : Value := .slice none 0 0
structure BegSt (PR : World → (Nat → Tag) → Tag → Nat → Nat → Nat → DRep → Prop) (w0 : World) (w : World) (o : Nat → Tag) (s wb gb n : Nat) (pb rb : List Nat) (rsv rsvR : Value) (cnt : Int) : Prop where
  blk : Bl w o (s + 11, 0, 0) wb [rsv, ptr gb, nilS, nilS, nilS, nilS, nilS, .int .i64 cnt] 94
  rs : Pc w o (s + 11, 1, 0) 45 1 rsv pb.length (ptrs pb)
  grp : Bl w o (s + 8, 0, 0) gb [.int .i64 n, rsvR, nilS] 89
  rrs : Pc w o (s + 8, 1, 0) 96 1 rsvR rb.length (ptrs rb)
  prog : ∀ i (h : i < pb.length), PR w o (s + 1, i, 0) pb[i] n i (newD n)
  ref : ∀ i (h : i < rb.length), RefR w o s i rb[i] n (newD n)
  moved : Moved (lawTag s) w0 (fun _ => (0, 0, 0)) w o
section
variable {PR : World → (Nat → Tag) → Tag → Nat → Nat → Nat → DRep → Prop} {w0 w w' : World} {o o' : Nat → Tag} {s wb gb n : Nat} {pb rb : List Nat} {rsv rsvR : Value} {cnt : Int}
/-- New blocks of whatever owners. -/
theorem BegSt.below (P : PApi PR) (h : BegSt PR w0 w o s wb gb n pb rb rsv rsvR cnt) (hB : Below w.heap.size w w') (f : Nat → Tag) : BegSt PR w0 w' (own2 o w.heap.size f) s wb gb n pb rb rsv rsvR cnt := by
  have hm : ∀ t q, q < w.heap.size → o q = t → w'.heap[q]? = w.heap[q]? ∧ own2 o w.heap.size f q = t := fun t q hq e => ⟨hB.block q hq, (own2_low hq).trans e⟩
  refine ⟨h.blk.move2 (hm _), h.rs.move2 (hm _), h.grp.move2 (hm _), h.rrs.move2 (hm _), fun i hi => P.move (h.prog i hi) (hm _), fun i hi => ?_, h.moved.trans ⟨Touch.ofBelow hB, fun q hq _ => own2_low hq⟩⟩
  obtain ⟨vv, v, kv, gv, xs, R⟩ := h.ref i hi
  exact ⟨vv, v, kv, gv, xs, R.move fun q hq _ => ⟨hB.block q hq, own2_low hq⟩⟩
theorem BegSt.same_o (P : PApi PR) (h : BegSt PR w0 w o s wb gb n pb rb rsv rsvR cnt) (hB : Below w.heap.size w w') : BegSt PR w0 w' o s wb gb n pb rb rsv rsvR cnt := by
  have a := h.below P hB o
  have e : own2 o w.heap.size o = o := by funext q; unfold own2; split <;> rfl
  rw [e] at a
  exact a
/-- One more of the program's, as it stands apart still. -/
theorem NewSt.ref {w1 : World} {o1 : Nat → Tag} {k b : Nat} {vv kv gv : Value} {on : Nat → Tag} (N : NewSt w w1 on b n n (k : Int) vv kv gv) :
    RefR w1 (own2 o1 w.heap.size fun q => if q = b then (s + 2, k, 0) else if vv.ownBlock = some q then (s + 3, k, 0) else (s + 7, k, 0)) s k b n (newD n) := by
  have hbv : ¬ vv.ownBlock = some b := fun e => by have c := N.vis.tag b e; rw [N.blk.tag] at c; simp at c
  refine ⟨vv, nilS, kv, gv, [], ⟨N.blk.blk, ?_⟩, ⟨?_, fun q hq => ?_⟩, ⟨by simpa using World.ownsRow_nil _ _ _ _, fun q hq => by simp [Value.ownBlock] at hq⟩, by simp [newD], by simp, fun k hk => by simp at hk, fun k _ => rfl, fun k hk => by simp at hk⟩
  · rw [own2_high N.low.1]; simp
  · have a := N.vis.row
    simp only [newD, List.length_replicate]
    exact a
  · rw [own2_high (N.low.2.1 q hq)]
    have hq' : q ≠ b := fun e => hbv (e ▸ hq)
    simp [hq', hq]
/-- The list of the program's replicas grows. -/
theorem BegSt.putP (P : PApi PR) {w1 : World} {v1 : Value} {ob : Obj} {b : Nat} (h : BegSt PR w0 w o s wb gb n pb rb rsv rsvR cnt) (hnew : PR w o (s + 1, pb.length, 0) b n pb.length (newD n))
    (hown : w1.ownsRow 0 45 1 v1 (pb.length + 1) (ptrs pb ++ [ptr b])) (hg : (w.alloc ob).grownBy w1 rsv.ownBlock) (hat : v1.ownBlock = rsv.ownBlock ∨ v1.ownBlock = some (w.alloc ob).heap.size) :
    BegSt PR w0 (w1.setCell ⟨wb, 0, none⟩ v1) (upd o (w.alloc ob).heap.size (s + 11, 1, 0)) s wb gb n (pb ++ [b]) rb v1 rsvR cnt ∧ TouchT (fun t => t = (s + 11, 0, 0) ∨ t = (s + 11, 1, 0)) w o (w1.setCell ⟨wb, 0, none⟩ v1) (upd o (w.alloc ob).heap.size (s + 11, 1, 0)) := by
  have g1 := (h.blk.alloc ob).grew hg h.rs.tag (by simp)
  have e : upd o (w.alloc ob).heap.size (s + 11, 1, 0) (⟨wb, 0, none⟩ : Addr).block = (s + 11, 0, 0) := g1.tag
  have T : TouchT (fun t => t = (s + 11, 0, 0) ∨ t = (s + 11, 1, 0)) w o (w1.setCell ⟨wb, 0, none⟩ v1) (upd o (w.alloc ob).heap.size (s + 11, 1, 0)) := (((TouchT.refl _ w o).alloc ob).grew hg h.rs.tag (Or.inr rfl)).set (by rw [e]; exact Or.inl rfl) v1
  have mv : ∀ {i b' : Nat}, PR w o (s + 1, i, 0) b' n i (newD n) → PR (w1.setCell ⟨wb, 0, none⟩ v1) (upd o (w.alloc ob).heap.size (s + 11, 1, 0)) (s + 1, i, 0) b' n i (newD n) := fun hp =>
    P.move hp fun q hq c => ⟨T.touch.block q hq (by rw [c]; simp), (T.same q hq).trans c⟩
  refine ⟨⟨g1.set 0 v1, ?_, h.grp.touch T (by simp), h.rrs.touch T (by simp), fun i hi => ?_, fun i hi => ?_, h.moved.trans (T.moved fun t c => by rcases c with rfl | rfl <;> exact ⟨by simp, by simp⟩)⟩, T⟩
  · have a := ((h.rs.alloc ob).app hown hat).set e (by simp) v1
    rw [List.length_append]
    simpa [ptrs] using a
  · by_cases c : i < pb.length
    · rw [List.getElem_append_left c]; exact mv (h.prog i c)
    · have c' : i = pb.length := by simp at hi; omega
      subst c'
      rw [List.getElem_append_right (by omega)]
      simpa using mv hnew
  · obtain ⟨vv, v, kv, gv, xs, R⟩ := h.ref i hi
    exact ⟨vv, v, kv, gv, xs, R.touch T fun t ht c => by rcases ht with rfl | rfl | rfl | ⟨x, rfl | rfl⟩ <;> simp at c⟩
/-- The list of the reference's replicas grows. -/
theorem BegSt.putR (P : PApi PR) {w1 : World} {v1 : Value} {ob : Obj} {b : Nat} (h : BegSt PR w0 w o s wb gb n pb rb rsv rsvR cnt) (hnew : RefR w o s rb.length b n (newD n))
    (hown : w1.ownsRow 0 96 1 v1 (rb.length + 1) (ptrs rb ++ [ptr b])) (hg : (w.alloc ob).grownBy w1 rsvR.ownBlock) (hat : v1.ownBlock = rsvR.ownBlock ∨ v1.ownBlock = some (w.alloc ob).heap.size) :
    BegSt PR w0 (w1.setCell ⟨gb, 1, none⟩ v1) (upd o (w.alloc ob).heap.size (s + 8, 1, 0)) s wb gb n pb (rb ++ [b]) rsv v1 cnt := by
  have g1 := (h.grp.alloc ob).grew hg h.rrs.tag (by simp)
  have e : upd o (w.alloc ob).heap.size (s + 8, 1, 0) (⟨gb, 1, none⟩ : Addr).block = (s + 8, 0, 0) := g1.tag
  have T : TouchT (fun t => t = (s + 8, 0, 0) ∨ t = (s + 8, 1, 0)) w o (w1.setCell ⟨gb, 1, none⟩ v1) (upd o (w.alloc ob).heap.size (s + 8, 1, 0)) := (((TouchT.refl _ w o).alloc ob).grew hg h.rrs.tag (Or.inr rfl)).set (by rw [e]; exact Or.inl rfl) v1
  have mv : ∀ {i b' : Nat}, RefR w o s i b' n (newD n) → RefR (w1.setCell ⟨gb, 1, none⟩ v1) (upd o (w.alloc ob).heap.size (s + 8, 1, 0)) s i b' n (newD n) := fun hp => by
    obtain ⟨vv, v, kv, gv, xs, R⟩ := hp
    exact ⟨vv, v, kv, gv, xs, R.touch T fun t ht c => by rcases ht with rfl | rfl | rfl | ⟨x, rfl | rfl⟩ <;> simp at c⟩
  refine ⟨h.blk.touch T (by simp), h.rs.touch T (by simp), g1.set 1 v1, ?_, fun i hi => P.move (h.prog i hi) fun q hq c => ⟨T.touch.block q hq (by rw [c]; simp), (T.same q hq).trans c⟩, fun i hi => ?_, h.moved.trans (T.moved fun t c => by rcases c with rfl | rfl <;> exact ⟨by simp, by simp⟩)⟩
  · have a := ((h.rrs.alloc ob).app hown hat).set e (by simp) v1
    rw [List.length_append]
    simpa [ptrs] using a
  · by_cases c : i < rb.length
    · rw [List.getElem_append_left c]; exact mv (h.ref i c)
    · have c' : i = rb.length := by simp at hi; omega
      subst c'
      rw [List.getElem_append_right (by omega)]
      simpa using mv hnew
theorem RefR.touch {A : Tag → Prop} {i b : Nat} {d : DRep} (h : RefR w o s i b n d) (T : TouchT A w o w' o') (hA : ∀ t, repTag s i t → ¬ A t) : RefR w' o' s i b n d := by
  obtain ⟨vv, v, kv, gv, xs, R⟩ := h
  exact ⟨vv, v, kv, gv, xs, R.touch T hA⟩
theorem Below.ofMoved (h : Moved (lawTag s) w0 (fun _ => (0, 0, 0)) w o) : Below w0.heap.size w0 w :=
  ⟨h.touch.os, h.touch.tape, h.touch.output, h.touch.size, fun q hq => h.touch.block q hq (by simp [lawTag])⟩
theorem BegSt.law (h : BegSt PR w0 w o s wb gb n pb rb rsv rsvR cnt) (hl : pb.length = n) (hs : rb.length = n) : LawSt PR w o s wb gb n pb rb rsv nilS nilS nilS nilS nilS cnt 0 (List.replicate n (newD n)) (List.replicate n (newD n)) [] := by
  have nilP : ∀ (t : Tag) (e : TypeId), ∃ l : List Value, l.length ≤ 0 ∧ Pc w o t e 1 nilS l.length l := fun t e => ⟨[], by simp, ⟨World.ownsRow_nil _ _ _ _, fun q hq => by simp [Value.ownBlock] at hq⟩⟩
  refine ⟨h.blk, h.rs, nilP _ _, nilP _ _, nilP _ _, nilP _ _, ⟨rsvR, nilS, [], h.grp, h.rrs, ⟨by simpa using World.ownsRow_nil _ _ _ _, fun q hq => by simp [Value.ownBlock] at hq⟩, rfl, fun j hj => by simp at hj, by simp⟩, hl, hs, by simp, by simp, fun i hi => ?_, fun i hi => ?_⟩
  · rw [List.getElem_replicate]; exact h.prog i (by omega)
  · rw [List.getElem_replicate]; exact h.ref i (by omega)
end

end Go.Proofs.YtiplgdkpnhamaaaGreatDoor
