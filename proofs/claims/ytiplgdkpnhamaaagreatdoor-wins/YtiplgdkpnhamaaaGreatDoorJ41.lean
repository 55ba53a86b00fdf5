/- The texts ZK17, joined. -/
import Derived.Test.YtiplgdkpnhamaaaGreatDoorJ40

namespace Go.Proofs.YtiplgdkpnhamaaaGreatDoor.Tv
open Go.RowKit
attribute [local go_sem] Oper.semAt_some
def txIn (us : List RTx) (z : Wt) : RTx := (us.find? fun u => decide (u.rep.toNat = z.x.1.rep ∧ u.seq = z.x.1.seq)).getD ⟨0, 0, [], []⟩
theorem txIn_ok {us : List RTx} {ys : List (Tr × Nat)} (hys : ys.map Prod.fst = us.map trOf) (hdots : us.Pairwise fun a b => ¬ (a.rep.toNat = b.rep.toNat ∧ a.seq = b.seq)) {z : Wt} (hz : z ∈ wtsOf ys) : z.x ∈ ys ∧ txIn us z ∈ us ∧ trOf (txIn us z) = z.x.1 := by
  obtain ⟨k, hk, rfl⟩ := List.mem_iff_getElem.1 hz
  rw [wts_len] at hk
  have hlen : ys.length = us.length := by have := congrArg List.length hys; simpa using this
  have hku : k < us.length := by omega
  have ex : ((wtsOf ys)[k]'(by rw [wts_len]; exact hk)).x = ys[k] := by simp [wtsOf]
  have e1 : ys[k].1 = trOf us[k] := by
    have := congrArg (fun l => l[k]?) hys
    simp only [List.getElem?_map, List.getElem?_eq_getElem hk, List.getElem?_eq_getElem hku, Option.map_some, Option.some.injEq] at this
    exact this
  refine ⟨by rw [ex]; exact List.getElem_mem hk, ?_⟩
  have hp : decide (us[k].rep.toNat = ((wtsOf ys)[k]'(by rw [wts_len]; exact hk)).x.1.rep ∧ us[k].seq = ((wtsOf ys)[k]'(by rw [wts_len]; exact hk)).x.1.seq) = true := by
    rw [ex, e1]; simp [trOf]
  have hs : (us.find? fun u => decide (u.rep.toNat = ((wtsOf ys)[k]'(by rw [wts_len]; exact hk)).x.1.rep ∧ u.seq = ((wtsOf ys)[k]'(by rw [wts_len]; exact hk)).x.1.seq)).isSome := by
    rw [List.find?_isSome]; exact ⟨us[k], List.getElem_mem hku, hp⟩
  obtain ⟨u, hu⟩ := Option.isSome_iff_exists.1 hs
  have hu1 := List.find?_some hu
  have hu2 := List.mem_of_find?_eq_some hu
  have eu : txIn us ((wtsOf ys)[k]'(by rw [wts_len]; exact hk)) = u := by unfold txIn; rw [hu]; rfl
  rw [eu]
  refine ⟨hu2, ?_⟩
  rw [ex, e1] at hu1 ⊢
  have hu3 : u.rep.toNat = us[k].rep.toNat ∧ u.seq = us[k].seq := of_decide_eq_true hu1
  obtain ⟨m, hm, rfl⟩ := List.mem_iff_getElem.1 hu2
  have hpw := List.pairwise_iff_getElem.1 hdots
  by_cases c : m = k
  · subst c; rfl
  · by_cases c2 : m < k
    · exact absurd hu3 (hpw m k hm hku c2)
    · exact absurd ⟨hu3.1.symm, hu3.2.symm⟩ (hpw k m hku hm (by omega))
def RecEnd (xq : DX) (w : World) (p : Nat → Own) (b n i : Nat) (d : DRep) (us : List RTx) (e : Ending) (w' : World) : Prop :=
  e = .returned (.int .i64 0) ∧ ∃ (p' : Nat → Own) (ys : List (Tr × Nat)) (xs : List Wt), ys.map Prod.fst = us.map trOf ∧ xs.Perm (wtsOf ys) ∧ (xs.Pairwise fun a b => wLt b a = false) ∧ RepIn xq w' p' b n i (passD d (xs.map (txIn us))) ∧ QW w p w' p'
set_option maxRecDepth 100000 in
set_option maxHeartbeats 4000000 in
theorem receive_ok {xq : DX} {w : World} {p : Nat → Own} {b n i : Nat} {d : DRep} (h : RepIn xq w p b n i d) (us : List RTx) (hU : us.length ≤ 50000000) (hR : ∀ vs, (∀ v, v ∈ vs → v ∈ us) → HistG n (passD d vs).hs → (passD d vs).hs.length ≤ 1100000) (t : ByteArray) (j : Nat) (vis : Vec) (hj : j < 5)
    (hread : ∀ W, Below w.heap.size w W → Calls Tryz.prog 79 #[.func (.func 80) #[] #[], .string t, .int .i64 n] W fun e w' => Below W.heap.size W w' ∧ ∃ lv, e = .returned (.tuple #[ansVal j vis lv, .int .i64 0]) ∧ GotL W (us.map trOf) lv w')
    (hus : ∀ u, u ∈ us → u.rep.toNat < 5 ∧ 0 ≤ u.seq ∧ u.seq ≤ 9223372036854775807) (hsm : ∀ v, v ∈ needsOf (us.map trOf) → v.small) (hdots : us.Pairwise fun a b => ¬ (a.rep.toNat = b.rep.toNat ∧ a.seq = b.seq))
    (hnew : ∀ vs u, (∀ v, v ∈ vs → v ∈ us) → u ∈ us → HistG n (passD d vs).hs → (passD d vs).vis = visOf n (passD d vs).hs → canD (passD d vs) u = true → NewOk n (passD d vs).hs u) :
    Calls Tryz.prog 41 #[bptr b, .string t] w (RecEnd (learnX xq j vis) w p b n i d us) := by
  refine callsIn_wide.1 (?_ : CallsIn Fence.wide 6 _ _ _ _ _)
  refine callsIn_of_wp_marks Tryz.func41 rfl trivial ?_ rfl
  simp only [Tryz.ntmps41, List.size_toArray, List.length_cons, List.length_nil, Nat.reduceAdd, Nat.reduceSub, Array.replicate_succ, Array.replicate_zero, List.push_toArray, List.append_toArray, List.nil_append, List.cons_append]
  refine wpIn_wide.2 ?_
  generalize hW0 : w.alloc (.cells #[bptr b] 45) = W0
  have hB0 : Below w.heap.size w W0 := by rw [← hW0]; exact (Below.refl _ _).alloc (Nat.le_refl _) _
  have bR : Blk W0 w.heap.size [bptr b] 45 := by rw [← hW0]; exact heap_alloc_new w _
  obtain ⟨sb, st, sl, tbs, mbs, hv, kn, h⟩ := h
  have h0 := h.below hB0
  obtain ⟨-, c1, -⟩ := h0.cellOf
  have r0 : W0.cell? ⟨w.heap.size, 0, none⟩ = some (bptr b) := bR.cell 0
  have hlb := h0.blk.blk.lt
  have HRD := hide (hread W0 hB0)
  have hsz0 : W0.heap.size = w.heap.size + 1 := by rw [← hW0]; simp
  have HH := hide (⟨h, ⟨hU, hR⟩, hus, hsm, hdots, hnew, hB0, bR, h0, hsz0⟩ : _ ∧ (_ ∧ _) ∧ _ ∧ _ ∧ _ ∧ _ ∧ _ ∧ _ ∧ _ ∧ _)
  have HW0 := hide hW0
  clear h hU hR hus hsm hdots hnew hread hB0 bR h0 hW0 hsz0
  go_upto_region 1 with (fail)
  rw [HW0.out]
  go_upto_region 2 with (go_at_call 79; refine HRD.out.mono ?_; rintro e w2 ⟨hB2, lv, rfl, hG2⟩; obtain ⟨ao, m, cp, rfl⟩ := hG2.shape; have H2 := hide (⟨hB2, hG2⟩ : _ ∧ _); have r2 := cell_later hB2 r0; have l2 : w.heap.size < w2.heap.size := World.block_lt_of_cell? w2 _ r2; clear hB2 hG2 r0)
  generalize hW3 : w2.alloc (.cells #[.int .i64 j, .int .i64 vis.a, .int .i64 vis.b, .int .i64 vis.c, .int .i64 vis.d, .int .i64 vis.e, .slice ao m cp] 154) = W3
  have hB3 : Below w2.heap.size w2 W3 := by rw [← hW3]; exact (Below.refl _ _).alloc (Nat.le_refl _) _
  have bA : Blk W3 w2.heap.size [.int .i64 j, .int .i64 vis.a, .int .i64 vis.b, .int .i64 vis.c, .int .i64 vis.d, .int .i64 vis.e, .slice ao m cp] 154 := by rw [← hW3]; exact heap_alloc_new w2 _
  obtain ⟨ys, hys, hyr, hym⟩ := H2.out.2.ex
  classical
  obtain ⟨p1, hp1⟩ : ∃ p1 : Nat → Own, p1 = own2q p w.heap.size fun q => if ∃ y ∈ ys, y.2 = q then .held 5 else .other := ⟨_, rfl⟩
  have hB03 : Below w.heap.size w W3 := (HH.out.2.2.2.2.2.2.1.trans (H2.out.1.mono HH.out.2.2.2.2.2.2.1.size)).trans (hB3.mono (Nat.le_trans HH.out.2.2.2.2.2.2.1.size H2.out.1.size))
  have hP3 : RepP xq W3 p1 b n i d sb st sl tbs mbs hv kn := HH.out.1.move fun q hq _ => ⟨hB03.block q hq, by rw [hp1]; exact own2q_low hq⟩
  have hln := learn_any hP3 hj vis
  have HLN := hide hln
  have r3 := cell_later hB3 r2
  have a0 : W3.cell? ⟨w2.heap.size, 0, none⟩ = some (.int .i64 j) := bA.cell 0
  have a1 : W3.cell? ⟨w2.heap.size, 1, none⟩ = some (.int .i64 vis.a) := bA.cell 1
  have a2 : W3.cell? ⟨w2.heap.size, 2, none⟩ = some (.int .i64 vis.b) := bA.cell 2
  have a3 : W3.cell? ⟨w2.heap.size, 3, none⟩ = some (.int .i64 vis.c) := bA.cell 3
  have a4 : W3.cell? ⟨w2.heap.size, 4, none⟩ = some (.int .i64 vis.d) := bA.cell 4
  have a5 : W3.cell? ⟨w2.heap.size, 5, none⟩ = some (.int .i64 vis.e) := bA.cell 5
  have l3 := bA.lt
  have l3' := World.block_lt_of_cell? W3 _ r3
  have H3 := hide (⟨hB3, bA, hys, hyr, hym, hp1, hB03, hP3⟩ : _ ∧ _ ∧ _ ∧ _ ∧ _ ∧ _ ∧ _ ∧ _)
  clear hln hB3 bA hW3 hys hyr hym hp1 hB03 hP3 HRD HW0 r2 c1 hlb l2
  go_upto_region 5 with (go_at_call 76; refine HLN.out.mono ?_; rintro e w4 ⟨rfl, hI4, hq4⟩; refine Hid.out ?_)
  refine Lib.hid ?_
  obtain ⟨hB3, bA, hys, hyr, hym, hp1, hB03, hP3⟩ := H3.out
  have hsW0 : W0.heap.size = w.heap.size + 1 := HH.out.2.2.2.2.2.2.2.2.2
  have hs2 : W0.heap.size ≤ w2.heap.size := H2.out.1.size
  have hs3 := hB3.size
  have hp1h : ∀ q, w.heap.size ≤ q → p1 q = if ∃ y ∈ ys, y.2 = q then .held 5 else .other := fun q hq => by rw [hp1]; exact own2q_high hq
  have hk4 : ∀ q, w.heap.size ≤ q → q < W3.heap.size → w4.heap[q]? = W3.heap[q]? := fun q hq hq3 => hq4.touch.block q hq3 (by rw [hp1h q hq]; split <;> simp)
  have hyl : ∀ y, y ∈ ys → W0.heap.size ≤ y.2 ∧ y.2 < w2.heap.size := fun y hy => ⟨(hym y hy).1, (hym y hy).2.lt⟩
  have pR : p1 w.heap.size = .other := by
    rw [hp1h _ (Nat.le_refl _), if_neg]
    rintro ⟨y, hy, e⟩
    have := (hyl y hy).1; omega
  have pA : p1 w2.heap.size = .other := by
    rw [hp1h _ (by omega), if_neg]
    rintro ⟨y, hy, e⟩
    have := (hyl y hy).2; omega
  have bA4 := bA.move (hk4 _ (by omega) bA.lt)
  have bR4 : Blk w4 w.heap.size [bptr b] 45 := ((HH.out.2.2.2.2.2.2.2.1.below H2.out.1).below hB3).move (hk4 _ (Nat.le_refl _) (by omega))
  have hr4 : w4.ownsRow 0 139 8 (.slice ao m cp) ys.length (ys.flatMap trCells) := by
    refine own_move (ownsRow_below (ownsRow_low hyr (Nat.zero_le _)) hB3) fun q hq => hk4 q ?_ ?_
    · have := (hyr.lt q hq).1; omega
    · have := (hyr.lt q hq).2; omega
  have ht4 : ∀ y, y ∈ ys → TrIn w4 y ∧ p1 y.2 = .held 5 := fun y hy => by
    have h1 := hyl y hy
    refine ⟨MapIn.move (MapIn.move (hym y hy).2 (hB3.block _ h1.2)) (hk4 _ (by omega) (by omega)), ?_⟩
    rw [hp1h _ (by omega), if_pos ⟨y, hy, rfl⟩]
  have hmy : m = ys.length := by
    obtain ⟨a', c', e', -⟩ := Row.shape hr4
    cases e'; rfl
  subst hmy
  have a6 : w4.cell? ⟨w2.heap.size, 6, none⟩ = some (.slice ao ys.length cp) := bA4.cell 6
  have l4 := bA4.lt
  have hqw : QW w p w4 p1 := by
    refine ⟨?_, fun q hq e => by rw [hp1, own2q_low hq] at e; exact e⟩
    refine (Touch.ofBelow hB03).trans (hq4.touch.mono fun q hq e => ?_)
    by_cases c : q < w.heap.size
    · left
      rw [hp1, own2q_low c] at e
      rw [e]; simp
    · exact Or.inr (by omega)
  have hio := inorder_call w4 ao ys.length cp
  have HIO := hide hio
  have H4 := hide (⟨hI4, hys, hyl, pR, bR4, hr4, ht4, hqw, hs2⟩ : _ ∧ _ ∧ _ ∧ _ ∧ _ ∧ _ ∧ _ ∧ _ ∧ _)
  have l4w : w.heap.size < w4.heap.size := bR4.lt
  clear hI4 hq4 hB3 bA hys hyr hym hp1 hB03 hP3 hp1h hk4 hyl pR pA bA4 bR4 hr4 ht4 hqw hio H3 a0 a1 a2 a3 a4 a5 r3 l3 l3' HLN hs3 hs2
  go_wp2_with (go_at_call 81; refine HIO.out.mono ?_; rintro e w5 ⟨rfl, rfl⟩)
  obtain ⟨hI4, hys, hyl, pR, bR4, hr4, ht4, hqw, hs2⟩ := H4.out
  obtain ⟨-, ⟨hU, hR⟩, hus, hsm, hdots, hnew, -⟩ := HH.out
  have hlen : ys.length = us.length := by have := congrArg List.length hys; simpa using this
  have hf : ∀ x, x ∈ ys → x.1.rep < 5 ∧ 0 ≤ x.1.seq ∧ x.1.seq ≤ 9223372036854775807 := fun x hx => by
    have h1 : x.1 ∈ us.map trOf := by rw [← hys]; exact List.mem_map.2 ⟨x, hx, rfl⟩
    obtain ⟨u, hu, e⟩ := List.mem_map.1 h1
    rw [← e]; exact hus u hu
  have hzt : ∀ z, z ∈ wtsOf ys → (z.x ∈ ys ∧ txIn us z ∈ us ∧ trOf (txIn us z) = z.x.1) := fun z hz => txIn_ok hys hdots hz
  have hB5 : Below w4.heap.size w4 (w4.alloc (.cells #[.slice ao ys.length cp] 106)) := (Below.refl _ _).alloc (Nat.le_refl _) _
  have hs5 : (w4.alloc (.cells #[.slice ao ys.length cp] 106)).heap.size = w4.heap.size + 1 := by simp
  have b5 : Blk (w4.alloc (.cells #[.slice ao ys.length cp] 106)) w4.heap.size [.slice ao ys.length cp] 106 := heap_alloc_new w4 _
  generalize hW5 : w4.alloc (.cells #[.slice ao ys.length cp] 106) = W5 at *
  have hseq := inorder_seq 5 w4.heap.size 0 ys (.slice ao ys.length cp) W5 (b5.cell 0) (ownsRow_below hr4 hB5) (by omega) hf (by rw [hys]; exact hsm)
  have h0 : RecI (learnX xq j vis) b n i d w p w.heap.size W5.heap.size (wtsOf ys) (txIn us) (fun _ => False) [] W5 := by
    refine ⟨⟨p1, hI4.move fun q hq _ => ⟨hB5.block q hq, rfl⟩, ⟨hqw.touch.trans (Touch.ofBelow hB5), hqw.stay⟩, fun q hq => hq.elim, pR, fun z hz => (ht4 _ (hzt z hz).1).2⟩, bR4.below hB5, fun z hz => ⟨MapIn.move (ht4 _ (hzt z hz).1).1 (hB5.block _ (ht4 _ (hzt z hz).1).1.lt), ?_⟩, fun z hz => by simp at hz, fun q hq => hq.elim, by omega, by omega, Nat.le_refl _⟩
    have := (ht4 _ (hzt z hz).1).1.lt
    omega
  have HLEN := hide hlen
  clear hlen hs5
  have hmo : Tryz.prog.follows .mixedOrders = true := by kernel_rfl
  generalize Value.tuple #[ansVal (↑j) vis (Value.slice ao ys.length cp), Value.int IntKind.i64 0] = u8
  generalize ansVal (↑j) vis (Value.slice ao ys.length cp) = u15
  generalize Value.agg #[Value.int IntKind.i64 ↑j, Value.int IntKind.i64 vis.a, Value.int IntKind.i64 vis.b, Value.int IntKind.i64 vis.c, Value.int IntKind.i64 vis.d, Value.int IntKind.i64 vis.e] = u22
  have hf1 : Fence.wide.fn 57 := trivial
  have hf2 : Fence.wide.fn 82 := trivial
  have hf3 : Fence.wide.fn 66 := trivial
  refine (wpIn_wide (n := 6)).1 ?_
  refine range_x (n := 6) (by omega) (gf := 124) (lb := #[bptr w4.heap.size]) rfl (fun _ _ => rfl) hseq (Below.refl _ _) (fun _ => rfl) (RecI (learnX xq j vis) b n i d w p w.heap.size W5.heap.size (wtsOf ys) (txIn us)) (fun X Y pre W1 W2 h hT hY => RecI.stable h hT hY) (fun X pre W h q hq => (RecI.xb h q hq).2) h0
    (fun x a' W X => ∃ Bx, X Bx ∧ Blk W Bx (trCells x.x) 139 ∧ a' = { tmps := #[bptr b, Value.string t, Value.pointer (some { block := w.heap.size, off := 0 }), undef, Value.int IntKind.i64 0, Value.pointer (some { block := w2.heap.size, off := 0 }), Value.int IntKind.i64 0, Value.pointer (some { block := Bx, off := 0 }), u8, Value.string t, bptr b, Value.pointer (some { block := b, off := 0 }), Value.pointer (some { block := b, off := 1 }), Value.int IntKind.i64 ↑n, u8, u15, Value.int IntKind.i64 0, Value.int IntKind.i64 0, Value.bool false, undef, bptr b, Value.pointer (some { block := w2.heap.size, off := 0 }), u22, Value.tuple #[], Value.pointer (some { block := w2.heap.size, off := 6 }), Value.slice ao ys.length cp, Value.func (Fn.func 124) #[] #[bptr w4.heap.size], .agg #[.int .i64 x.x.1.rep, .int .i64 x.x.1.seq, .int .i64 x.x.1.saw.a, .int .i64 x.x.1.saw.b, .int .i64 x.x.1.saw.c, .int .i64 x.x.1.saw.d, .int .i64 x.x.1.saw.e, .map (some x.x.2)], undef, undef, undef, undef, undef, undef, undef, undef, undef, undef], defers := [] })
    ?hAx ?assign ?body ?done
  case hAx =>
    rintro x a' W X l r o ⟨Bx, h1, h2, h3⟩ hl
    refine ⟨Bx, h1, h2.move (World.putObj_heap_other fun e => ?_), h3⟩
    rw [← e] at hl
    rw [Blk, hl] at h2
    cases h2
  case assign =>
    rintro l X pre ⟨⟨⟨r, sq, ⟨s0, s1, s2, s3, s4⟩, wm⟩, mb⟩, nd⟩ W K hx hlen' hI hK
    gi_wp2
    refine hK _ _ (fun q => X q ∨ q = W.heap.size) (hI.stable (Touch.ofBelow ((Below.refl _ _).alloc (Nat.le_refl _) _)) fun q hq => ?_) (fun q hq => Or.inl hq) ((Touch.refl _ _).alloc _) ⟨W.heap.size, Or.inr rfl, heap_alloc_new W _, rfl⟩
    rcases hq with hq | rfl
    · exact ⟨Or.inl hq, by have := (hI.xb q hq).2; simp; omega⟩
    · exact ⟨Or.inr (Nat.le_refl _), by simp⟩
  case body =>
    rintro l X pre ⟨⟨⟨r, sq, ⟨s0, s1, s2, s3, s4⟩, wm⟩, mb⟩, nd⟩ a' W hx hlen' hI ⟨Bx, hXB, bB, rfl⟩
    obtain ⟨p2, hRI, h2, h3, h4, h5⟩ := hI.ex
    obtain ⟨sb2, st2, sl2, tbs2, mbs2, hv2, kn2, hRP⟩ := hRI
    obtain ⟨-, -, c2⟩ := hRP.cellOf
    have r0 : W.cell? ⟨w.heap.size, 0, none⟩ = some (bptr b) := hI.box.cell 0
    obtain ⟨-, hum, htr⟩ := hzt _ hx
    obtain ⟨u, hu⟩ : ∃ u, txIn us ⟨(⟨r, sq, ⟨s0, s1, s2, s3, s4⟩, wm⟩, mb), nd⟩ = u := ⟨_, rfl⟩
    rw [hu] at hum htr
    have er : u.rep.toNat = r := congrArg Tr.rep htr
    have es : u.seq = sq := congrArg Tr.seq htr
    have ew : vecOf u.saw = ⟨s0, s1, s2, s3, s4⟩ := congrArg Tr.saw htr
    obtain ⟨d2, hd2⟩ : ∃ d2, passD d (pre.map (txIn us)) = d2 := ⟨_, rfl⟩
    have hl2 : d2.hs.length ≤ 1100000 := by
      rw [← hd2]
      exact hR (pre.map (txIn us)) (fun v hv' => by
        obtain ⟨z, hz, rfl⟩ := List.mem_map.1 hv'
        exact (hzt z (hI.mem z hz)).2.1) hRP.ok.hist
    rw [hd2] at hRP
    have hr5 : r < 5 := by rw [← er]; exact (hus u hum).1
    have hv64 := hRP.vis64 hl2 r
    obtain ⟨v, hvv⟩ : ∃ v, vecOf d2.vis = v := ⟨_, rfl⟩
    have hvc := fun W' (hB : Below W.heap.size W W') => (hRP.below hB).visCall
    rw [hvv] at hvc hv64
    have hcb : canD d2 u = canF r sq ⟨s0, s1, s2, s3, s4⟩ v := by unfold canD; rw [er, es, ew, hvv]
    have hlX : Bx < W.heap.size := bB.lt
    have HV : Hid (CallsIn (Fence.wide.inRound l) 3 Tryz.prog 57 #[bptr sb2] W.drew fun e w' => e = .returned v.val ∧ (w'.cell? ⟨Bx, 0, none⟩ = some (.int .i64 r) ∧ w'.cell? ⟨Bx, 1, none⟩ = some (.int .i64 sq) ∧ w'.cell? ⟨Bx, 2, none⟩ = some (.int .i64 s0) ∧ w'.cell? ⟨Bx, 3, none⟩ = some (.int .i64 s1) ∧ w'.cell? ⟨Bx, 4, none⟩ = some (.int .i64 s2) ∧ w'.cell? ⟨Bx, 5, none⟩ = some (.int .i64 s3) ∧ w'.cell? ⟨Bx, 6, none⟩ = some (.int .i64 s4) ∧ w'.cell? ⟨Bx, 7, none⟩ = some (.map (some mb)) ∧ Bx < w'.heap.size) ∧ Hid (Below W.heap.size W w')) :=
      CallsIn.inRound l ((callsIn_wide.2 (hvc W.drew (Below.refl _ _).drew)).mono (by
        rintro e w' ⟨rfl, hB⟩
        have hB' : Below W.heap.size W w' := (Below.refl _ _).drew.trans hB
        have b' := bB.below hB'
        exact ⟨rfl, ⟨b'.cell 0, b'.cell 1, b'.cell 2, b'.cell 3, b'.cell 4, b'.cell 5, b'.cell 6, b'.cell 7, b'.lt⟩, hB'⟩))
    have HC : Hid (∀ W', Below W.heap.size W W' → CallsIn (Fence.wide.inRound l) 3 Tryz.prog 82 #[.agg #[.int .i64 r, .int .i64 sq, .int .i64 s0, .int .i64 s1, .int .i64 s2, .int .i64 s3, .int .i64 s4, .map (some mb)], v.val] W' fun e w' => e = .returned (.bool (canF r sq ⟨s0, s1, s2, s3, s4⟩ v)) ∧ Hid (Below W'.heap.size W' w')) := fun W' _ =>
      CallsIn.inRound l (callsIn_wide.2 (can_follow W' r sq ⟨s0, s1, s2, s3, s4⟩ v (.map (some mb)) hr5 (by omega) (by omega)))
    have x0 : W.cell? ⟨Bx, 0, none⟩ = some (.int .i64 r) := bB.cell 0
    have x1 : W.cell? ⟨Bx, 1, none⟩ = some (.int .i64 sq) := bB.cell 1
    have x2 : W.cell? ⟨Bx, 2, none⟩ = some (.int .i64 s0) := bB.cell 2
    have x3 : W.cell? ⟨Bx, 3, none⟩ = some (.int .i64 s1) := bB.cell 3
    have x4 : W.cell? ⟨Bx, 4, none⟩ = some (.int .i64 s2) := bB.cell 4
    have x5 : W.cell? ⟨Bx, 5, none⟩ = some (.int .i64 s3) := bB.cell 5
    have x6 : W.cell? ⟨Bx, 6, none⟩ = some (.int .i64 s4) := bB.cell 6
    have x7 : W.cell? ⟨Bx, 7, none⟩ = some (.map (some mb)) := bB.cell 7
    have hlb := hRP.blk.blk.lt
    have hlR := hI.box.lt
    have H7 := hide (⟨hI, bB, hRP, h2, h3, h4, h5, hu, hum, htr, er, es, ew, hd2, hl2, hcb, hx⟩ : _ ∧ _ ∧ _ ∧ _ ∧ _ ∧ _ ∧ _ ∧ _ ∧ _ ∧ _ ∧ _ ∧ _ ∧ _ ∧ _ ∧ _ ∧ _ ∧ _)
    obtain ⟨cb, hcbv⟩ : ∃ cb, canF r sq ⟨s0, s1, s2, s3, s4⟩ v = cb := ⟨_, rfl⟩
    rw [hcbv] at HC
    have H8 := hide hcbv
    clear hI bB hRP h2 h3 h4 h5 hu hum htr er es ew hd2 hl2 hcb hcbv hvc hvv hv64 hr5 hlen' hx
    gi_wp2
    gi_region_with_o (first | (gi_at_call 57; refine HV.out.mono ?_; rintro e w6 ⟨rfl, ⟨z0, z1, z2, z3, z4, z5, z6, z7, z8⟩, hB6⟩) | (gi_at_call 82; refine (HC.out _ hB6.out).mono ?_; rintro e w7 ⟨rfl, hB7⟩))
    all_goals
      have hBB : Below W.heap.size W w7 := hB6.out.trans (hB7.out.mono hB6.out.size)
      obtain ⟨hI, bB, hRP, h2, h3, h4, h5, hu, hum, htr, er, es, ew, hd2, hl2, hcb, hx⟩ := H7.out
      rw [H8.out] at hcb
      have r7 := cell_later hBB r0
      have b7 := bB.below hBB
      have y0 : w7.cell? ⟨Bx, 0, none⟩ = some (.int .i64 r) := b7.cell 0
      have y1 : w7.cell? ⟨Bx, 1, none⟩ = some (.int .i64 sq) := b7.cell 1
      have y2 : w7.cell? ⟨Bx, 2, none⟩ = some (.int .i64 s0) := b7.cell 2
      have y3 : w7.cell? ⟨Bx, 3, none⟩ = some (.int .i64 s1) := b7.cell 3
      have y4 : w7.cell? ⟨Bx, 4, none⟩ = some (.int .i64 s2) := b7.cell 4
      have y5 : w7.cell? ⟨Bx, 5, none⟩ = some (.int .i64 s3) := b7.cell 5
      have y6 : w7.cell? ⟨Bx, 6, none⟩ = some (.int .i64 s4) := b7.cell 6
      have y7 : w7.cell? ⟨Bx, 7, none⟩ = some (.map (some mb)) := b7.cell 7
      have hlx7 := b7.lt
      have hlr7 := World.block_lt_of_cell? w7 _ r7
      have HBB := hide hBB
      cases cb with
      | false =>
        have hno : RecI (learnX xq j vis) b n i d w p w.heap.size W5.heap.size (wtsOf ys) (txIn us) X (pre ++ [⟨(⟨r, sq, ⟨s0, s1, s2, s3, s4⟩, wm⟩, mb), nd⟩]) w7 := hI.no hx (by rw [hd2, hu]; exact hcb) hBB
        have HNO := hide (⟨hno, fun q hq => hBB.block q (hI.xb q hq).2⟩ : _ ∧ ∀ q, X q → w7.heap[q]? = W.heap[q]?)
        clear hI bB hRP h2 h3 h4 h5 hu hum htr er es ew hd2 hl2 hcb hx hno hBB b7 hB6 hB7 z0 z1 z2 z3 z4 z5 z6 z7 z8 x0 x1 x2 x3 x4 x5 x6 x7 r0 c2
        gi_wp2
        exact ⟨HNO.out.1, HBB.out.size, HNO.out.2⟩
      | true =>
        have hTr := (hI.tr _ hx).1
        have hnk : NewOk n d2.hs u := by
          have a := hnew (pre.map (txIn us)) u (fun v hv' => by
            obtain ⟨z, hz, rfl⟩ := List.mem_map.1 hv'
            exact (hzt z (hI.mem z hz)).2.1) hum
          rw [hd2] at a
          exact a hRP.ok.hist hRP.ok.vis hcb
        have hsh := show_any (u := u) (mb := mb) (hRP.below hBB) hl2 hnk (by rw [htr]; exact MapIn.move hTr (hBB.block _ hTr.lt)) (h5 _ hx)
        rw [er, es, ew] at hsh
        have HSH : Hid (CallsIn (Fence.wide.inRound l) 3 Tryz.prog 66 _ w7 _) := CallsIn.inRound l (callsIn_wide.2 hsh)
        clear hsh hnk hTr bB hRP b7 hB6 hB7 z0 z1 z2 z3 z4 z5 z6 z7 z8 x0 x1 x2 x3 x4 x5 x6 x7 r0 c2
        have H9 := hide (⟨hI, h2, h3, h4, h5, hu, er, hd2, hcb, hx⟩ : _ ∧ _ ∧ _ ∧ _ ∧ _ ∧ _ ∧ _ ∧ _ ∧ _ ∧ _)
        clear hI h2 h3 h4 h5 hu er hd2 hcb hx hum htr es ew hl2 hBB
        gi_wp2_with (gi_at_call 66; refine HSH.out.mono ?_; rintro e w8 ⟨rfl, p8, hI8, hq8⟩; have HS8 := hide (⟨hI8, hq8⟩ : _ ∧ _); clear hI8 hq8)
        obtain ⟨hI, h2, h3, h4, h5, hu, er, hd2, hcb, hx⟩ := H9.out
        obtain ⟨hI8, hq8⟩ := HS8.out
        have hBB := HBB.out
        have hI7 := hI.stable (Y := X) (Touch.ofBelow hBB) fun q hq => ⟨Or.inl hq, Nat.lt_of_lt_of_le (hI.xb q hq).2 hBB.size⟩
        have hy := RecI.yes hI7 (W2 := w8) (p := p2) (p' := p8) hx (by rw [hu]; exact (hus u (hu ▸ (hzt _ hx).2.1)).1) (by rw [hd2, hu]; exact hcb) ⟨h2.touch.trans (Touch.ofBelow hBB), h2.stay⟩ h3 h4 h5 (by rw [hd2, hu]; exact hI8) (by rw [hu, er]; exact hq8)
        exact ⟨hy.1, Nat.le_trans hBB.size hq8.size, fun q hq => (hy.2 q hq).trans (hBB.block q (hI.xb q hq).2)⟩
  case done =>
    rintro D xs W hD ⟨hperm, hsrt⟩ hI hK
    have H9 := hide (⟨hperm, hsrt, hI⟩ : _ ∧ _ ∧ _)
    clear hperm hsrt hI
    go_wp2_with fail
    refine ⟨by simp, .inl ⟨_, _, rfl, run_takeDeferred hK, ?_⟩⟩
    obtain ⟨hperm, hsrt, hI⟩ := H9.out
    obtain ⟨p9, g1, g2, -⟩ := (hI.stable (Y := fun _ => False) (touch_put (X := fun q => q = D) W (.deferred none) rfl) fun q hq => hq.elim).ex
    exact ⟨_, results_tmp rfl _ _ _, rfl, p9, ys, xs, hys, hperm, hsrt, g1, g2⟩
end Go.Proofs.YtiplgdkpnhamaaaGreatDoor.Tv
