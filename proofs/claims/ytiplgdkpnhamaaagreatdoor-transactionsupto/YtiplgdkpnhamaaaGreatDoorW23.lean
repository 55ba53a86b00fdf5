/- The texts F7, joined. -/
import Derived.Test.YtiplgdkpnhamaaaGreatDoorW22
import Derived.Test.YtiplgdkpnhamaaaGreatDoorW12
import Derived.Test.YtiplgdkpnhamaaaGreatDoorW11

/- The program's transaction.sum, transaction.values, and the closure of transaction.elements. -/
namespace Go.Proofs.YtiplgdkpnhamaaaGreatDoor
open Go.RowKit Go.Sort

structure OpenTx (w : World) (tb nb mb nW : Nat) (calls : Int) (m : Place → Option Wr) : Prop where
  blk : Blk w tb [bptr nb, .int .i64 calls, .map (some mb)] 122
  own : MapIn w 129 mb nW Place.val Wr.val m
theorem OpenTx.below {w w' : World} {tb nb mb nW : Nat} {calls : Int} {m : Place → Option Wr} (h : OpenTx w tb nb mb nW calls m) (hb : Below w.heap.size w w') : OpenTx w' tb nb mb nW calls m := ⟨h.blk.below hb, h.own.move (hb.block _ h.own.lt)⟩
theorem sumTold_perm {vers : VName → Option Ver} {p : Place} {l l' : List Dot} (h : l.Perm l') : sumTold vers p l = sumTold vers p l' := by
  unfold sumTold
  refine h.foldl_eq' (fun x _ y _ z => ?_) 0
  rw [wrap_add, wrap_add]
  congr 1
  omega
theorem snap_sum_at {w : World} {o : Nat → Own} {sb n nb : Nat} {st : St} {saw : Vec} {kept : Value} (hS : SnapIn w o sb n nb st saw kept) (key : ByteArray) (hk : key.size ≤ maxLen) :
    Calls Tryz.prog 107 #[bptr nb, .string key] w fun e w' => e = .returned (.int .i64 (sumTold st.vers ⟨key, noEl⟩ (toldRaw saw st ⟨key, noEl⟩))) ∧ Below w.heap.size w w' :=
  (snap_sum hS key hk).mono (by rintro e w' ⟨l, hl, rfl, hB⟩; exact ⟨by rw [sumTold_perm hl], hB⟩)
theorem no_size : noEl.size ≤ maxLen := by show (ByteArray.mk #[]).size ≤ _; exact Nat.zero_le _
theorem wr_look_ok {w : World} {mb n : Nat} {m : Place → Option Wr} {p : Place} (hM : MapIn w 129 mb n Place.val Wr.val m) (h1 : p.key.size ≤ maxLen) (h2 : p.el.size ≤ maxLen) {W : World} (hW : W.heap[mb]? = w.heap[mb]?) :
    (Instr.lookup 120 (.map (some mb)) (.agg #[.string p.key, .string p.el]) true).run Tryz.prog W = .ok (.tuple #[(wrAt m p).val, .bool (m p).isSome]) W := by
  obtain ⟨kl, hk⟩ := place_key p h1 h2
  have a := (hM.move hW).lookup_ok (t := 120) place_keyed Tryz.underlying120 (zeroWr W) hk
  have e : (m p).elim noWr.val Wr.val = (wrAt m p).val := by unfold wrAt; cases m p <;> rfl
  rw [e] at a
  exact a

set_option maxRecDepth 100000 in
set_option maxHeartbeats 4000000 in
theorem tsum_any {w : World} {o : Nat → Own} {sb n nb tb mb nW : Nat} {st : St} {saw : Vec} {kept : Value} {calls : Int} {m : Place → Option Wr} (hS : SnapIn w o sb n nb st saw kept) (hT : OpenTx w tb nb mb nW calls m) (key : ByteArray) (hk : key.size ≤ maxLen) :
    Calls Tryz.prog 68 #[bptr tb, .string key] w fun e w' => e = .returned (.int .i64 (wrap64 (sumTold st.vers ⟨key, noEl⟩ (toldRaw saw st ⟨key, noEl⟩) + (wrAt m ⟨key, noEl⟩).amount))) ∧ Below w.heap.size w w' := by
  have c0 := Bel.cell (show w.cell? ⟨tb, 0, none⟩ = some (.pointer (some ⟨nb, 0, none⟩)) from hT.blk.cell 0)
  have c2 := Bel.cell (show w.cell? ⟨tb, 2, none⟩ = some (.map (some mb)) from hT.blk.cell 2)
  have hcall : ∀ f : Fam (Bel w), Calls Tryz.prog 107 #[.pointer (some ⟨nb, 0, none⟩), .string key] f.w fun e w'' => e = .returned (.int .i64 (sumTold st.vers ⟨key, noEl⟩ (toldRaw saw st ⟨key, noEl⟩))) ∧ ∃ g : Fam (Bel w), w'' = g.w := fun f => Bel.call f (snap_sum_at (hS.below f.ok) key hk)
  have hlk : ∀ f : Fam (Bel w), (Instr.lookup 120 (.map (some mb)) (.agg #[.string key, .string ⟨#[]⟩]) false).run Tryz.prog f.w = .ok (wrAt m ⟨key, noEl⟩).val f.w := fun f => wr_look hT.own (p := ⟨key, noEl⟩) hk no_size (f.ok.block _ hT.own.lt)
  obtain ⟨s, hs⟩ : ∃ s, sumTold st.vers ⟨key, noEl⟩ (toldRaw saw st ⟨key, noEl⟩) = s := ⟨_, rfl⟩
  obtain ⟨x, hx⟩ : ∃ x, wrAt m ⟨key, noEl⟩ = x := ⟨_, rfl⟩
  rw [hs] at hcall
  rw [hx] at hlk
  rw [hs, hx]
  have hfa := field_amount x.kind x.amount x.value
  have HC := hide hcall
  clear hcall hs hx hS hT
  go_enter Tryz.func68, Tryz.ntmps68
  go_wp2_with fail
  refine region_fam (Bel w) (by kernel_rfl) (by kernel_rfl) (Below.refl _ _).drew ?_
  repeat (go_big_quiet_step (first | (go_at_call 107; exact HC.out _)))
  refine wpQuiet_nil ?_
  intro _ hw'
  obtain ⟨fq, rfl⟩ := hw'
  go_wp2_with fail
  go_ret
  exact ⟨rfl, fq.ok⟩

set_option maxRecDepth 100000 in
set_option maxHeartbeats 4000000 in
theorem tvalues_own {w : World} {tb nb mb nW : Nat} {calls : Int} {m : Place → Option Wr} (hT : OpenTx w tb nb mb nW calls m) (key : ByteArray) (hk : key.size ≤ maxLen) {x : Wr} (hx : m ⟨key, noEl⟩ = some x) :
    Calls Tryz.prog 69 #[bptr tb, .string key] w fun e w' => ∃ v, e = .returned v ∧ w'.ownsRow w.heap.size 9 1 v 1 [.string x.value] ∧ Below w.heap.size w w' := by
  have c2 : w.cell? ⟨tb, 2, none⟩ = some (.map (some mb)) := hT.blk.cell 2
  have hl := hT.blk.lt
  have hlk := wr_look_ok hT.own (p := ⟨key, noEl⟩) hk no_size (W := w) rfl
  have hw : wrAt m ⟨key, noEl⟩ = x := by unfold wrAt; rw [hx]; rfl
  rw [hw, hx] at hlk
  simp only [noEl, Wr.val, Option.isSome_some] at hlk
  clear hT hw hx
  generalize hW1 : w.alloc (.cells #[.int .i64 x.kind, .int .i64 x.amount, .string x.value] 132) = W1
  have hB1 : Below w.heap.size w W1 := by rw [← hW1]; exact (Below.refl _ _).alloc (Nat.le_refl _) _
  have HB := hide hB1
  have HW := hide hW1
  clear hB1 hW1
  go_enter Tryz.func69, Tryz.ntmps69
  go_wp2_with fail
  rw [HW.out]
  go_ret
  refine ⟨_, rfl, ?_, HB.out.alloc HB.out.size _⟩
  have a := heap_alloc_new W1 (.cells #[.string x.value] 9)
  have hz : W1.heap.size = w.heap.size + 1 := by rw [← HW.out]; simp
  rw [hz] at a
  exact ⟨rfl, .inr ⟨w.heap.size + 1, 1, #[.string x.value], rfl, by omega, a, Nat.le_refl _, by unfold maxLen; omega, rfl, rfl⟩⟩
set_option maxRecDepth 100000 in
set_option maxHeartbeats 4000000 in
theorem tvalues_told {w : World} {o : Nat → Own} {sb n nb tb mb nW : Nat} {st : St} {saw : Vec} {kept : Value} {calls : Int} {m : Place → Option Wr} (hS : SnapIn w o sb n nb st saw kept) (hT : OpenTx w tb nb mb nW calls m) (key : ByteArray) (hk : key.size ≤ maxLen) (hx : m ⟨key, noEl⟩ = none) :
    Calls Tryz.prog 69 #[bptr tb, .string key] w fun e w' => ∃ (v : Value) (l : List Dot), l.Perm (toldRaw saw st ⟨key, noEl⟩) ∧ l.Pairwise dotLt ∧ e = .returned v ∧ w'.ownsRow w.heap.size 9 1 v (valsTold st.vers ⟨key, noEl⟩ l).length (strs (valsTold st.vers ⟨key, noEl⟩ l)) ∧ Below w.heap.size w w' := by
  have c0 : w.cell? ⟨tb, 0, none⟩ = some (.pointer (some ⟨nb, 0, none⟩)) := hT.blk.cell 0
  have c2 : w.cell? ⟨tb, 2, none⟩ = some (.map (some mb)) := hT.blk.cell 2
  have hl := hT.blk.lt
  have hlk := wr_look_ok hT.own (p := ⟨key, noEl⟩) hk no_size (W := w) rfl
  have hw : wrAt m ⟨key, noEl⟩ = noWr := by unfold wrAt; rw [hx]; rfl
  rw [hw, hx] at hlk
  simp only [noEl, Wr.val, noWr, Option.isSome_none] at hlk
  clear hT hw hx
  generalize hW1 : w.alloc (.cells #[.int .i64 0, .int .i64 0, .string ⟨#[]⟩] 132) = W1
  have hB1 : Below w.heap.size w W1 := by rw [← hW1]; exact (Below.refl _ _).alloc (Nat.le_refl _) _
  have hcall := snap_values (hS.below hB1) key hk
  have HC := hide hcall
  have HB := hide hB1
  have HW := hide hW1
  clear hB1 hW1 hcall hS
  go_enter Tryz.func69, Tryz.ntmps69
  go_wp2_with fail
  rw [HW.out]
  refine HC.out.mono ?_
  rintro e w2 ⟨v, l, h1, h2, rfl, h4, h5⟩
  have HE := hide (⟨h1, h2, h4, h5⟩ : _ ∧ _ ∧ _ ∧ _)
  clear h1 h2 h4 h5
  go_wp2_with fail
  go_ret
  exact ⟨_, l, HE.out.1, HE.out.2.1, rfl, ownsRow_low HE.out.2.2.1 HB.out.size, HB.out.trans (HE.out.2.2.2.mono HB.out.size)⟩

set_option maxRecDepth 100000 in
set_option maxHeartbeats 4000000 in
theorem elemfn {w : World} {tb nb mb nW pb kb : Nat} {calls : Int} {m : Place → Option Wr} (hT : OpenTx w tb nb mb nW calls m) (hp : w.cell? ⟨pb, 0, none⟩ = some (bptr tb)) (key : ByteArray) (hkb : w.cell? ⟨kb, 0, none⟩ = some (.string key)) (hk : key.size ≤ maxLen) (a : ByteArray) (ha : a.size ≤ maxLen) :
    Calls Tryz.prog 111 (#[Value.string a] ++ #[bptr pb, bptr kb]) w fun e w' => e = .returned (.bool (m ⟨key, a⟩).isSome) ∧ Below w.heap.size w w' := by
  have c2 : w.cell? ⟨tb, 2, none⟩ = some (.map (some mb)) := hT.blk.cell 2
  have hl := hT.blk.lt
  have hpl := World.block_lt_of_cell? w _ hp
  have hkl := World.block_lt_of_cell? w _ hkb
  obtain ⟨x, hx⟩ : ∃ x, wrAt m ⟨key, a⟩ = x := ⟨_, rfl⟩
  obtain ⟨b, hb⟩ : ∃ b, (m ⟨key, a⟩).isSome = b := ⟨_, rfl⟩
  have l1 := wr_look_ok hT.own (p := ⟨key, a⟩) hk ha (W := w.drew) rfl
  have l2 := wr_look_ok hT.own (p := ⟨key, a⟩) hk ha (W := (w.alloc (.cells #[.int .i64 0, .int .i64 0, .string ⟨#[]⟩] 132)).drew) (Below.heap_alloc _ _ _ hT.own.lt)
  rw [hx, hb] at l1 l2
  simp only [Wr.val] at l1 l2
  rw [hb]
  clear hT hx hb
  go_enter Tryz.func111, Tryz.ntmps111
  go_wp2_with fail
  go_region
  all_goals go_wp2_with fail
  all_goals go_ret
  all_goals exact ⟨rfl, ((Below.refl _ _).alloc (Nat.le_refl _) _).drew⟩

end Go.Proofs.YtiplgdkpnhamaaaGreatDoor
