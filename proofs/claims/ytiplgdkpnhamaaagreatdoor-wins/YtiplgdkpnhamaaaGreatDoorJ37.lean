/- The texts U33, U34, U35, U36, U37, U38, U39, U40, U41, U42, U43, U44, joined. -/
import Derived.Test.YtiplgdkpnhamaaaGreatDoorJ36
import Derived.Test.YtiplgdkpnhamaaaGreatDoorJ33
import Derived.RegionDies
import Derived.Deep.RegionHeld3
import Derived.Recover
import Derived.Defers
import Derived.Tactics2
import Derived.Laws.Pointers

namespace Go.Proofs.YtiplgdkpnhamaaaGreatDoor
open Go.RowKit Go.Sort
abbrev put8 (w : World) (b : Nat) (rep seq : Int) (v : Vec) (mv : Value) : World := (((((((w.setCell ⟨b, 0, none⟩ (.int .i64 rep)).setCell ⟨b, 1, none⟩ (.int .i64 seq)).setCell ⟨b, 2, none⟩ (.int .i64 v.a)).setCell ⟨b, 3, none⟩ (.int .i64 v.b)).setCell ⟨b, 4, none⟩ (.int .i64 v.c)).setCell ⟨b, 5, none⟩ (.int .i64 v.d)).setCell ⟨b, 6, none⟩ (.int .i64 v.e)).setCell ⟨b, 7, none⟩ mv
theorem put8_blk {w : World} {b : Nat} {x0 x1 x2 x3 x4 x5 x6 x7 : Value} {t : TypeId} (rep seq : Int) (v : Vec) (mv : Value) (h : Blk w b [x0, x1, x2, x3, x4, x5, x6, x7] t) : Blk (put8 w b rep seq v mv) b [.int .i64 rep, .int .i64 seq, .int .i64 v.a, .int .i64 v.b, .int .i64 v.c, .int .i64 v.d, .int .i64 v.e, mv] t := by
  have a0 := h.set 0 (.int .i64 rep)
  have a1 := a0.set 1 (.int .i64 seq)
  have a2 := a1.set 2 (.int .i64 v.a)
  have a3 := a2.set 3 (.int .i64 v.b)
  have a4 := a3.set 4 (.int .i64 v.c)
  have a5 := a4.set 5 (.int .i64 v.d)
  have a6 := a5.set 6 (.int .i64 v.e)
  have a7 := a6.set 7 mv
  exact a7
theorem put8_touch (w : World) (b : Nat) (rep seq : Int) (v : Vec) (mv : Value) : Touch (fun q => q = b) w (put8 w b rep seq v mv) :=
  (((((((((Touch.refl (fun q => q = b) w).setCell (p := ⟨b, 0, none⟩) (Or.inl rfl) _).setCell (p := ⟨b, 1, none⟩) (Or.inl rfl) _).setCell (p := ⟨b, 2, none⟩) (Or.inl rfl) _).setCell (p := ⟨b, 3, none⟩) (Or.inl rfl) _).setCell (p := ⟨b, 4, none⟩) (Or.inl rfl) _).setCell (p := ⟨b, 5, none⟩) (Or.inl rfl) _).setCell (p := ⟨b, 6, none⟩) (Or.inl rfl) _).setCell (p := ⟨b, 7, none⟩) (Or.inl rfl) _)
abbrev zeroTx : List Value := [.int .i64 0, .int .i64 0, .int .i64 0, .int .i64 0, .int .i64 0, .int .i64 0, .int .i64 0, .map none]
structure TRead (w : World) (rb n : Nat) (t : ByteArray) (m : Bool) (a' : Nat) (u : List UInt8) (rep : Nat) (seq : Int) (wr : World) : Prop where
  rd : RdIn wr rb n t a'
  rem : Rem m (t.data.toList.drop a') u
  tch : Touch (fun q => q = rb) w wr
  dot : Blk wr w.heap.size [.int .i64 rep, .int .i64 seq] 62
  res : Blk wr (w.heap.size + 1 + 1) zeroTx 139
theorem TRead.step {w : World} {rb n : Nat} {t : ByteArray} {m : Bool} {a' a2 : Nat} {u u2 : List UInt8} {rep : Nat} {seq : Int} {wr w2 : World} (h : TRead w rb n t m a' u rep seq wr) (hrb : rb < w.heap.size) (T : Touch (fun q => q = rb) wr w2) (r : RdIn w2 rb n t a2) (q : Rem m (t.data.toList.drop a2) u2) : TRead w rb n t m a2 u2 rep seq w2 :=
  ⟨r, q, h.tch.then T, h.dot.touch T (by omega), h.res.touch T (by omega)⟩
theorem TRead.later {w : World} {rb n : Nat} {t : ByteArray} {m : Bool} {a' : Nat} {u : List UInt8} {rep : Nat} {seq : Int} {wr w2 : World} (h : TRead w rb n t m a' u rep seq wr) (hb : Below wr.heap.size wr w2) : TRead w rb n t m a' u rep seq w2 :=
  ⟨h.rd.later hb, h.rem, h.tch.then (Touch.ofBelow hb), h.dot.below hb, h.res.below hb⟩
theorem TRead.set {w : World} {rb n : Nat} {t : ByteArray} {m : Bool} {a' : Nat} {u : List UInt8} {rep : Nat} {seq : Int} {wr : World} (h : TRead w rb n t m a' u rep seq wr) (hrb : rb < w.heap.size) (p : Addr) (hp : w.heap.size + 1 + 1 < p.block) (v : Value) : TRead w rb n t m a' u rep seq (wr.setCell p v) :=
  ⟨⟨h.rd.blk.other (by omega) _, h.rd.le, h.rd.sm, h.rd.gl⟩, h.rem, h.tch.setCell (Or.inr (by omega)) _, h.dot.other (by omega) _, h.res.other (by omega) _⟩
theorem rem_true {l v r : List UInt8} (h : l = v ++ r) : Rem true l v := by simp only [Rem]; exact ⟨r, h⟩
theorem rem_false {l v s : List UInt8} (hs : s ≠ []) (h : l ++ s = v) : Rem false l v := by simp only [Rem]; exact ⟨s, hs, h⟩
theorem rem_nil {l : List UInt8} (h : Rem false l []) : False := by
  simp only [Rem] at h
  obtain ⟨s, hs, e⟩ := h
  exact hs (List.append_eq_nil_iff.1 e).2
theorem writes_ok (w : World) (rb n : Nat) (t : ByteArray) (a : Nat) (mm : Place → Option Wr) (ks : List Place) (r : List UInt8) (h : RdIn w rb n t a) (hk : KeysOf mm ks) (hpw : ks.Pairwise placeLt) (h1 : 1 ≤ ks.length) (h16 : ks.length ≤ 16) (hr : ∀ p x, mm p = some x → WrRd p x) (hx : t.data.toList.drop a = numT ks.length ++ wrsT mm ks ++ r) (ht : Tabs w) :
    Calls Tryz.prog 205 #[bptr rb] w fun e w' => Touch (fun q => q = rb) w w' ∧ ∃ b, e = .returned (.map (some b)) ∧ w.heap.size ≤ b ∧ MapIn w' 129 b 16 Place.val Wr.val mm ∧ RdIn w' rb n t (a + (numT ks.length).length + (wrsT mm ks).length) := by
  refine (writes_at w rb n t a mm ks true [] h hk hpw h1 h16 hr (rem_true (r := r) (by simpa using hx)) ht).mono ?_
  rintro e w' ⟨T, ⟨b, e1, e2, e3, e4, -⟩ | ⟨hm, -⟩⟩
  · exact ⟨T, b, e1, e2, e3, e4⟩
  · cases hm
theorem writes_no (w : World) (rb n : Nat) (t : ByteArray) (a : Nat) (mm : Place → Option Wr) (ks : List Place) (s : List UInt8) (h : RdIn w rb n t a) (hk : KeysOf mm ks) (hpw : ks.Pairwise placeLt) (h1 : 1 ≤ ks.length) (h16 : ks.length ≤ 16) (hr : ∀ p x, mm p = some x → WrRd p x) (hs : s ≠ []) (hx : t.data.toList.drop a ++ s = numT ks.length ++ wrsT mm ks) (ht : Tabs w) :
    Calls Tryz.prog 205 #[bptr rb] w fun e w' => e = fault ∧ Touch (fun q => q = rb) w w' := by
  refine (writes_at w rb n t a mm ks false [] h hk hpw h1 h16 hr (rem_false hs (by simpa using hx)) ht).mono ?_
  rintro e w' ⟨T, ⟨b, -, -, -, -, hr⟩ | ⟨-, rfl⟩⟩
  · exact (rem_nil hr).elim
  · exact ⟨rfl, T⟩
def EndsT (w : World) (rb n : Nat) (t : ByteArray) (m : Bool) (a' : Nat) (u : List UInt8) (tr : Tr) (e : Ending) (w' : World) : Prop :=
  Touch (fun q => q = rb) w w' ∧ ((∃ b, e = .returned (txVal tr.rep tr.seq tr.saw (.map (some b))) ∧ w.heap.size ≤ b ∧ TrIn w' (tr, b) ∧ RdIn w' rb n t a' ∧ Rem m (t.data.toList.drop a') u) ∨ (m = false ∧ e = fault))
set_option maxRecDepth 100000 in
set_option maxHeartbeats 8000000 in
theorem transaction_at (w : World) (rb n : Nat) (t : ByteArray) (a : Nat) (rep : Nat) (seq : Int) (l : List Int) (mm : Place → Option Wr) (vis : Vec) (ks : List Place) (m : Bool) (u : List UInt8) (h : RdIn w rb n t a) (hn : n ≤ 5) (hrep : rep < 5) (hs0 : 0 ≤ seq) (hs1 : seq ≤ 9223372036854775807) (hl : l.length = n) (hmo : ∀ k (hk : k < l.length), 0 ≤ l[k] ∧ l[k] ≤ (vis.put rep (seq - 1)).list.getD k 0 ∧ l[k] ≤ 9223372036854775807) (hk : KeysOf mm ks) (hpw : ks.Pairwise placeLt) (h1 : 1 ≤ ks.length) (h16 : ks.length ≤ 16) (hr : ∀ p x, mm p = some x → WrRd p x) (hx : Rem m (t.data.toList.drop a) (vecT l ++ (numT ks.length ++ (wrsT mm ks ++ u)))) (ht : Tabs w) :
    Calls Tryz.prog 170 #[bptr rb, .agg #[.int .i64 rep, .int .i64 seq], vis.val] w (EndsT w rb n t m (a + (vecT l).length + (numT ks.length).length + (wrsT mm ks).length) u ⟨rep, seq, vecOf l, mm⟩) := by
  have hrb := h.blk.lt
  generalize hW0 : (((w.alloc (.cells #[.int .i64 rep, .int .i64 seq] 62)).alloc (.cells #[.int .i64 vis.a, .int .i64 vis.b, .int .i64 vis.c, .int .i64 vis.d, .int .i64 vis.e] 104)).alloc (.cells #[.int .i64 0, .int .i64 0, .int .i64 0, .int .i64 0, .int .i64 0, .int .i64 0, .int .i64 0, .map none] 139)).alloc (.cells #[.int .i64 vis.a, .int .i64 vis.b, .int .i64 vis.c, .int .i64 vis.d, .int .i64 vis.e] 104) = W0
  have hB0 : Below w.heap.size w W0 := by rw [← hW0]; exact ((((Below.refl _ _).alloc (Nat.le_refl _) _).alloc (by simp) _).alloc (by simp; omega) _).alloc (by simp; omega) _
  have H0 : Hid (TRead w rb n t m a (vecT l ++ (numT ks.length ++ (wrsT mm ks ++ u))) rep seq W0) := by
    refine ⟨h.later hB0, hx, Touch.ofBelow hB0, ?_, ?_⟩
    · rw [← hW0]; exact Blk.alloc (Blk.alloc (Blk.alloc (heap_alloc_new w _) _) _) _
    · rw [← hW0, show w.heap.size + 1 + 1 = ((w.alloc (.cells #[.int .i64 rep, .int .i64 seq] 62)).alloc (.cells #[.int .i64 vis.a, .int .i64 vis.b, .int .i64 vis.c, .int .i64 vis.d, .int .i64 vis.e] 104)).heap.size by simp]
      exact Blk.alloc (heap_alloc_new _ _) _
  have m0 : Blk W0 (w.heap.size + 1 + 1 + 1) vis.cells 104 := by
    rw [← hW0, show w.heap.size + 1 + 1 + 1 = (((w.alloc (.cells #[.int .i64 rep, .int .i64 seq] 62)).alloc (.cells #[.int .i64 vis.a, .int .i64 vis.b, .int .i64 vis.c, .int .i64 vis.d, .int .i64 vis.e] 104)).alloc (.cells #[.int .i64 0, .int .i64 0, .int .i64 0, .int .i64 0, .int .i64 0, .int .i64 0, .int .i64 0, .map none] 139)).heap.size by simp]
    exact heap_alloc_new _ _
  have HH := hide h
  have HW0 := hide hW0
  have HT := hide ht
  have HK := hide (⟨hk, hpw, hr⟩ : _ ∧ _ ∧ _)
  have HM := hide hmo
  have HM0 := hide m0
  clear h hx hW0 hB0 ht hk hpw hr hmo m0
  go_enter Tryz.func170, Tryz.ntmps170
  go_upto_region 2 with (fail)
  rw [HW0.out]
  clear HW0
  have c0 : W0.cell? ⟨w.heap.size, 0, none⟩ = some (.int .i64 rep) := H0.out.dot.cell 0
  have c1 : W0.cell? ⟨w.heap.size, 1, none⟩ = some (.int .i64 seq) := H0.out.dot.cell 1
  have c2 : W0.cell? ⟨w.heap.size + 1 + 1 + 1, rep, none⟩ = some (.int .i64 (vis.get rep)) := by rw [HM0.out.cell rep]; exact vec_cell _ hrep
  have f2 : W0.frozen? ⟨w.heap.size + 1 + 1 + 1, rep, none⟩ = false := HM0.out.frozen rep
  have g1 : (rep : Int) < 5 := by omega
  go_upto_region 3 with (fail)
  have b1 : Blk (W0.setCell ⟨w.heap.size + 1 + 1 + 1, rep, none⟩ (.int .i64 (seq - 1))) (w.heap.size + 1 + 1 + 1) (vis.put rep (seq - 1)).cells 104 := by
    rw [← put_cells _ hrep]; exact HM0.out.set rep _
  have H1 := hide (H0.out.set hrb ⟨w.heap.size + 1 + 1 + 1, rep, none⟩ (by show w.heap.size + 1 + 1 < w.heap.size + 1 + 1 + 1; omega) (.int .i64 (seq - 1)))
  clear c0 c1 c2 f2 H0 HM0
  generalize World.setCell _ _ _ = W1 at *
  generalize vis.put rep (seq - 1) = most at *
  have d0 : W1.cell? ⟨w.heap.size + 1 + 1 + 1, 0, none⟩ = some (.int .i64 most.a) := b1.cell 0
  have d1 : W1.cell? ⟨w.heap.size + 1 + 1 + 1, 1, none⟩ = some (.int .i64 most.b) := b1.cell 1
  have d2 : W1.cell? ⟨w.heap.size + 1 + 1 + 1, 2, none⟩ = some (.int .i64 most.c) := b1.cell 2
  have d3 : W1.cell? ⟨w.heap.size + 1 + 1 + 1, 3, none⟩ = some (.int .i64 most.d) := b1.cell 3
  have d4 : W1.cell? ⟨w.heap.size + 1 + 1 + 1, 4, none⟩ = some (.int .i64 most.e) := b1.cell 4
  have hz1 : w.heap.size + 1 + 1 + 1 < W1.heap.size := b1.lt
  have HV := hide (vector_at W1 rb n t a l most m _ H1.out.rd hn hl H1.out.rem HM.out (HH.out.tabs HT.out H1.out.tch))
  clear b1
  go_wp2_with (go_at_call 162; refine HV.out.mono ?_; rintro e w2 ⟨T2, ⟨rfl, h2, r2⟩ | ⟨hm, rfl⟩⟩ <;> refine Hid.out ?_)
  all_goals refine Lib.hid ?_
  rotate_left
  · exact ⟨rfl, H1.out.tch.then T2, Or.inr ⟨by first | exact hm | rfl, rfl⟩⟩
  have H2 := hide (H1.out.step hrb T2 h2 r2)
  have hz2 : w.heap.size + 1 + 1 < w2.heap.size := H2.out.res.lt
  clear T2 h2 r2 HV H1 d0 d1 d2 d3 d4 HM hz1
  generalize vecOf l = sw at *
  go_upto_region 4 with (fail)
  generalize hW3 : w2.alloc (.cells #[.int .i64 sw.a, .int .i64 sw.b, .int .i64 sw.c, .int .i64 sw.d, .int .i64 sw.e] 104) = W3
  have hB3 : Below w2.heap.size w2 W3 := by rw [← hW3]; exact (Below.refl _ _).alloc (Nat.le_refl _) _
  have s3 : Blk W3 w2.heap.size sw.cells 104 := by rw [← hW3]; exact heap_alloc_new w2 _
  have H3 := hide (H2.out.later hB3)
  have hz3 : w2.heap.size < W3.heap.size := s3.lt
  have h3d := H3.out.dot
  have c0 : W3.cell? ⟨w.heap.size, 0, none⟩ = some (.int .i64 rep) := h3d.cell 0
  have c1 : W3.cell? ⟨w.heap.size, 1, none⟩ = some (.int .i64 seq) := h3d.cell 1
  have d0 : W3.cell? ⟨w2.heap.size, 0, none⟩ = some (.int .i64 sw.a) := s3.cell 0
  have d1 : W3.cell? ⟨w2.heap.size, 1, none⟩ = some (.int .i64 sw.b) := s3.cell 1
  have d2 : W3.cell? ⟨w2.heap.size, 2, none⟩ = some (.int .i64 sw.c) := s3.cell 2
  have d3 : W3.cell? ⟨w2.heap.size, 3, none⟩ = some (.int .i64 sw.d) := s3.cell 3
  have d4 : W3.cell? ⟨w2.heap.size, 4, none⟩ = some (.int .i64 sw.e) := s3.cell 4
  have hrm := H3.out.rem
  rw [← List.append_assoc] at hrm
  have hrd3 : RdIn W3.drew rb n t (a + (vecT l).length) := ⟨H3.out.rd.blk, H3.out.rd.le, H3.out.rd.sm, H3.out.rd.gl⟩
  rcases rem_split hrm with ⟨rem', e5, hr5⟩ | ⟨hm, s, hs, e5⟩
  · have HWd : Hid (Calls Tryz.prog 205 #[bptr rb] W3.drew fun e w' => ∃ b, e = .returned (.map (some b)) ∧ w'.cell? ⟨w.heap.size, 0, none⟩ = some (.int .i64 rep) ∧ w'.cell? ⟨w.heap.size, 1, none⟩ = some (.int .i64 seq) ∧ w'.cell? ⟨w2.heap.size, 0, none⟩ = some (.int .i64 sw.a) ∧ w'.cell? ⟨w2.heap.size, 1, none⟩ = some (.int .i64 sw.b) ∧ w'.cell? ⟨w2.heap.size, 2, none⟩ = some (.int .i64 sw.c) ∧ w'.cell? ⟨w2.heap.size, 3, none⟩ = some (.int .i64 sw.d) ∧ w'.cell? ⟨w2.heap.size, 4, none⟩ = some (.int .i64 sw.e) ∧ Hid (w.heap.size ≤ b ∧ MapIn w' 129 b 16 Place.val Wr.val mm ∧ TRead w rb n t m (a + (vecT l).length + (numT ks.length).length + (wrsT mm ks).length) u rep seq w')) := (writes_ok W3.drew rb n t _ mm ks rem' hrd3 HK.out.1 HK.out.2.1 h1 h16 HK.out.2.2 e5 (HH.out.tabs HT.out H3.out.tch.drew)).mono (by
      rintro e w' ⟨T, b, rfl, hb, hmp, hrd⟩
      have T' : Touch (fun q => q = rb) W3 w' := (Touch.refl _ _).drew.then T
      have dd := h3d.touch T' (by omega)
      have ss := s3.touch T' (by omega)
      have hsz : W3.drew.heap.size = W3.heap.size := rfl
      refine ⟨b, rfl, dd.cell 0, dd.cell 1, ss.cell 0, ss.cell 1, ss.cell 2, ss.cell 3, ss.cell 4, by omega, hmp, H3.out.step hrb T' hrd ?_⟩
      have := drop_on e5
      rw [List.length_append, ← Nat.add_assoc] at this
      rw [this]; exact hr5)
    clear hW3 hB3 s3 h3d H2 H3 hrm hrd3 e5 hr5
    go_region_with (go_at_call 205; refine HWd.out.mono ?_; rintro e w5 ⟨b, rfl, k0, k1, k2, k3, k4, k5, k6, HQ⟩; have r0 : w5.cell? ⟨w.heap.size + 1 + 1, 0, none⟩ = some (.int .i64 0) := (HQ.out.2.2.res.cell 0); have q0 : w5.frozen? ⟨w.heap.size + 1 + 1, 0, none⟩ = false := (HQ.out.2.2.res.frozen 0); have r1 : w5.cell? ⟨w.heap.size + 1 + 1, 1, none⟩ = some (.int .i64 0) := (HQ.out.2.2.res.cell 1); have q1 : w5.frozen? ⟨w.heap.size + 1 + 1, 1, none⟩ = false := (HQ.out.2.2.res.frozen 1); have r2 : w5.cell? ⟨w.heap.size + 1 + 1, 2, none⟩ = some (.int .i64 0) := (HQ.out.2.2.res.cell 2); have q2 : w5.frozen? ⟨w.heap.size + 1 + 1, 2, none⟩ = false := (HQ.out.2.2.res.frozen 2); have r3 : w5.cell? ⟨w.heap.size + 1 + 1, 3, none⟩ = some (.int .i64 0) := (HQ.out.2.2.res.cell 3); have q3 : w5.frozen? ⟨w.heap.size + 1 + 1, 3, none⟩ = false := (HQ.out.2.2.res.frozen 3); have r4 : w5.cell? ⟨w.heap.size + 1 + 1, 4, none⟩ = some (.int .i64 0) := (HQ.out.2.2.res.cell 4); have q4 : w5.frozen? ⟨w.heap.size + 1 + 1, 4, none⟩ = false := (HQ.out.2.2.res.frozen 4); have r5 : w5.cell? ⟨w.heap.size + 1 + 1, 5, none⟩ = some (.int .i64 0) := (HQ.out.2.2.res.cell 5); have q5 : w5.frozen? ⟨w.heap.size + 1 + 1, 5, none⟩ = false := (HQ.out.2.2.res.frozen 5); have r6 : w5.cell? ⟨w.heap.size + 1 + 1, 6, none⟩ = some (.int .i64 0) := (HQ.out.2.2.res.cell 6); have q6 : w5.frozen? ⟨w.heap.size + 1 + 1, 6, none⟩ = false := (HQ.out.2.2.res.frozen 6); have r7 : w5.cell? ⟨w.heap.size + 1 + 1, 7, none⟩ = some (.map none) := (HQ.out.2.2.res.cell 7); have q7 : w5.frozen? ⟨w.heap.size + 1 + 1, 7, none⟩ = false := (HQ.out.2.2.res.frozen 7); skip)
    all_goals (
      have hb5 := put8_blk rep seq sw (.map (some b)) HQ.out.2.2.res
      have hT5 := put8_touch w5 (w.heap.size + 1 + 1) rep seq sw (.map (some b))
      unfold put8 at hb5 hT5
      have HF := hide (⟨hb5, hT5⟩ : _ ∧ _)
      clear hb5 hT5 r0 r1 r2 r3 r4 r5 r6 r7 q0 q1 q2 q3 q4 q5 q6 q7 k0 k1 k2 k3 k4 k5 k6 c0 c1 d0 d1 d2 d3 d4 HWd
      go_wp2_with fail
      obtain ⟨hb5, hT5⟩ := HF.out
      generalize World.setCell _ _ _ = W7 at *
      have s0 : W7.cell? ⟨w.heap.size + 1 + 1, 0, none⟩ = some (.int .i64 rep) := hb5.cell 0
      have s1 : W7.cell? ⟨w.heap.size + 1 + 1, 1, none⟩ = some (.int .i64 seq) := hb5.cell 1
      have s2 : W7.cell? ⟨w.heap.size + 1 + 1, 2, none⟩ = some (.int .i64 sw.a) := hb5.cell 2
      have s3 : W7.cell? ⟨w.heap.size + 1 + 1, 3, none⟩ = some (.int .i64 sw.b) := hb5.cell 3
      have s4 : W7.cell? ⟨w.heap.size + 1 + 1, 4, none⟩ = some (.int .i64 sw.c) := hb5.cell 4
      have s5 : W7.cell? ⟨w.heap.size + 1 + 1, 5, none⟩ = some (.int .i64 sw.d) := hb5.cell 5
      have s6 : W7.cell? ⟨w.heap.size + 1 + 1, 6, none⟩ = some (.int .i64 sw.e) := hb5.cell 6
      have s7 : W7.cell? ⟨w.heap.size + 1 + 1, 7, none⟩ = some (.map (some b)) := hb5.cell 7
      have hbl := HQ.out.2.1.lt
      have hne : b ≠ w.heap.size + 1 + 1 := fun e => by
        obtain ⟨D, ⟨es, clock, g1, g2⟩, -⟩ := HQ.out.2.1.ex
        have g3 : w5.heap[w.heap.size + 1 + 1]? = _ := HQ.out.2.2.res
        rw [e] at g1
        rw [g1] at g3
        cases g3
      refine bodyPost_ret (v := txVal rep seq sw (.map (some b))) (by simp [results, Tryz.results170, go_sem, s0, s1, s2, s3, s4, s5, s6, s7]) rfl ⟨HQ.out.2.2.tch.trans (hT5.mono fun q _ e => Or.inr (by omega)), Or.inl ⟨b, rfl, HQ.out.1, HQ.out.2.1.move (hT5.block b hbl hne), ?_, HQ.out.2.2.rem⟩⟩
      exact ⟨HQ.out.2.2.rd.blk.touch hT5 (by omega), HQ.out.2.2.rd.le, HQ.out.2.2.rd.sm, HQ.out.2.2.rd.gl⟩)
  · have HWd : Hid (Calls Tryz.prog 205 #[bptr rb] W3.drew fun e w' => e = fault ∧ Hid (m = false ∧ Touch (fun q => q = rb) w w')) := (writes_no W3.drew rb n t _ mm ks s hrd3 HK.out.1 HK.out.2.1 h1 h16 HK.out.2.2 hs e5 (HH.out.tabs HT.out H3.out.tch.drew)).mono (by
      rintro e w' ⟨rfl, T⟩
      exact ⟨rfl, hm, H3.out.tch.then ((Touch.refl _ _).drew.then T)⟩)
    clear hW3 hB3 s3 h3d H2 H3 hrm hrd3 e5 hm hs
    go_region_dies
    all_goals (
      refine HWd.out.mono ?_
      rintro e w5 ⟨rfl, HQ⟩
      exact ⟨rfl, HQ.out.2, Or.inr ⟨HQ.out.1, rfl⟩⟩)
end Go.Proofs.YtiplgdkpnhamaaaGreatDoor

namespace Go.Proofs.YtiplgdkpnhamaaaGreatDoor
open Go.RowKit Go.Sort
def needOf (lat : Nat → Vec) (t : Tr) : Vec := ((lat t.rep).join t.saw).put t.rep (t.seq - 1)
def latUpd (lat : Nat → Vec) (r : Nat) (v : Vec) : Nat → Vec := fun q => if q = r then v else lat q
def latFold : (Nat → Vec) → List Tr → (Nat → Vec)
  | lat, [] => lat
  | lat, t :: l => latFold (latUpd lat t.rep (needOf lat t)) l
def needsFrom : (Nat → Vec) → List Tr → List Vec
  | _, [] => []
  | lat, t :: l => needOf lat t :: needsFrom (latUpd lat t.rep (needOf lat t)) l
def noLat : Nat → Vec := fun _ => noVec
def needsOf (l : List Tr) : List Vec := needsFrom noLat l
theorem latFold_snoc : ∀ (l : List Tr) (lat : Nat → Vec) (t : Tr), latFold lat (l ++ [t]) = latUpd (latFold lat l) t.rep (needOf (latFold lat l) t)
  | [], _, _ => rfl
  | a :: l, lat, t => latFold_snoc l (latUpd lat a.rep (needOf lat a)) t
theorem needsFrom_snoc : ∀ (l : List Tr) (lat : Nat → Vec) (t : Tr), needsFrom lat (l ++ [t]) = needsFrom lat l ++ [needOf (latFold lat l) t]
  | [], _, _ => rfl
  | a :: l, lat, t => congrArg (needOf lat a :: ·) (needsFrom_snoc l (latUpd lat a.rep (needOf lat a)) t)
theorem needs_length : ∀ (l : List Tr) (lat : Nat → Vec), (needsFrom lat l).length = l.length
  | [], _ => rfl
  | _ :: l, _ => congrArg (· + 1) (needs_length l _)
abbrev latCells (lat : Nat → Vec) : List Value := (lat 0).cells ++ ((lat 1).cells ++ ((lat 2).cells ++ ((lat 3).cells ++ (lat 4).cells)))
theorem lat_cell (lat : Nat → Vec) {r j : Nat} (hr : r < 5) (hj : j < 5) : (latCells lat)[r * 5 + j]? = some (.int .i64 ((lat r).get j)) := by
  have h1 : r = 0 ∨ r = 1 ∨ r = 2 ∨ r = 3 ∨ r = 4 := by omega
  have h2 : j = 0 ∨ j = 1 ∨ j = 2 ∨ j = 3 ∨ j = 4 := by omega
  rcases h1 with rfl | rfl | rfl | rfl | rfl <;> rcases h2 with rfl | rfl | rfl | rfl | rfl <;> rfl
theorem lat_set (lat : Nat → Vec) {r : Nat} (hr : r < 5) (v : Vec) : (((((latCells lat).set (r * 5) (.int .i64 v.a)).set (r * 5 + 1) (.int .i64 v.b)).set (r * 5 + 2) (.int .i64 v.c)).set (r * 5 + 3) (.int .i64 v.d)).set (r * 5 + 4) (.int .i64 v.e) = latCells (latUpd lat r v) := by
  have h1 : r = 0 ∨ r = 1 ∨ r = 2 ∨ r = 3 ∨ r = 4 := by omega
  rcases h1 with rfl | rfl | rfl | rfl | rfl <;> rfl
theorem info_vec : (Tryz.prog.info? 104).map (fun i => (i.zero, i.size, i.bytes)) = some (some noVec.val, 5, 40) := by kernel_rfl
theorem cells_new (w : World) (cs : List Value) (t : TypeId) : ∀ j u, cs[j]? = some u → (w.alloc (.cells cs.toArray t)).cell? ((⟨w.heap.size, 0, none⟩ : Addr).add j) = some u := by
  intro j u hj
  have h : Blk (w.alloc (.cells cs.toArray t)) w.heap.size cs t := heap_alloc_new w _
  have := h.cell j
  rw [hj] at this
  have e : (⟨w.heap.size, 0, none⟩ : Addr).add j = ⟨w.heap.size, j, none⟩ := by cases j <;> simp [Addr.add]
  rw [e]; exact this
theorem own_other {B : Nat} {w : World} {b : Nat} {cs : List Value} {t e : TypeId} {size : Nat} {v : Value} {n : Nat} {xs : List Value} (hb : Blk w b cs t) (h : w.ownsRow B e size v n xs) (hne : t ≠ e) : v.ownBlock ≠ some b := by
  rcases h.2 with ⟨e', -⟩ | ⟨g, cap, cur, rfl, -, hg, -⟩
  · rw [e']; simp [Value.ownBlock]
  · intro e'
    have : g = b := by simpa [Value.ownBlock] using e'
    subst this
    rw [Blk, hg] at hb
    injection hb with hb
    injection hb with _ hb
    exact hne hb.symm
structure NeedAt (w : World) (l : List Tr) (k : Nat) (nv : Value) (wr : World) : Prop where
  bel : Below w.heap.size w wr
  lat : Blk wr w.heap.size (latCells (latFold noLat (l.take k))) 110
  row : wr.ownsRow w.heap.size 104 5 nv k ((needsFrom noLat (l.take k)).flatMap Vec.cells)
theorem NeedAt.later {w : World} {l : List Tr} {k : Nat} {nv : Value} {wr w' : World} (h : NeedAt w l k nv wr) (hb : Below wr.heap.size wr w') : NeedAt w l k nv w' :=
  ⟨h.bel.trans (hb.mono h.bel.size), h.lat.below hb, own_move h.row fun g hg => hb.block g (h.row.lt g hg).2⟩
set_option maxRecDepth 100000 in
set_option maxHeartbeats 8000000 in
theorem needs_any (w : World) (base : Nat) (l : List (Tr × Nat)) (lv : Value) (hrow : w.ownsRow base 139 8 lv l.length (l.flatMap trCells)) (hl : l.length ≤ 50000000) (hf : ∀ x, x ∈ l → x.1.rep < 5 ∧ 0 ≤ x.1.seq ∧ x.1.seq ≤ 9223372036854775807) :
    Calls Tryz.prog 125 #[lv] w fun e w' => ∃ nv, e = .returned nv ∧ w'.ownsRow w.heap.size 104 5 nv l.length ((needsOf (l.map Prod.fst)).flatMap Vec.cells) ∧ Below w.heap.size w w' := by
  obtain ⟨ao, cap, rfl, hao⟩ := Row.shape (ownsRow_low hrow (Nat.zero_le _))
  obtain ⟨i0, hi, hz0, hz1, hz2⟩ := info_parts info_vec
  generalize hW0 : w.alloc (.cells #[.int .i64 0, .int .i64 0, .int .i64 0, .int .i64 0, .int .i64 0, .int .i64 0, .int .i64 0, .int .i64 0, .int .i64 0, .int .i64 0, .int .i64 0, .int .i64 0, .int .i64 0, .int .i64 0, .int .i64 0, .int .i64 0, .int .i64 0, .int .i64 0, .int .i64 0, .int .i64 0, .int .i64 0, .int .i64 0, .int .i64 0, .int .i64 0, .int .i64 0] 110) = W0
  have H0 : Hid (NeedAt w (l.map Prod.fst) 0 (.slice none 0 0) W0) := by
    refine ⟨?_, ?_, World.ownsRow_nil _ _ _ _⟩
    · rw [← hW0]; exact (Below.refl _ _).alloc (Nat.le_refl _) _
    · rw [← hW0]; exact heap_alloc_new w _
  have HW0 := hide hW0
  have HR := hide hrow
  have HF := hide hf
  clear hW0 hrow hf
  go_enter Tryz.func125, Tryz.ntmps125
  go_upto_region 4 with (fail)
  rw [HW0.out]
  clear HW0
  go_loopw [3, 6, 7, 10] (fun nv _ _ ii wr => ∃ (k : Nat) (a0 : Option Addr) (n0 c0 : Nat), k ≤ l.length ∧ ii = .int .i64 k ∧ nv = .slice a0 n0 c0 ∧ Hid (NeedAt w (l.map Prod.fst) k (.slice a0 n0 c0) wr)) (fun _ _ _ ii _ => l.length - (intOf ii).toNat)
  case atStart => exact ⟨0, _, _, _, Nat.zero_le _, rfl, rfl, H0.out⟩
  case round =>
    clear H0
    obtain ⟨k, a0, n0, c0, hk, rfl, rfl, HS⟩ := hrel
    by_cases hlt : k < l.length
    · have hx := HF.out l[k] (List.getElem_mem hlt)
      obtain ⟨g, hg, -⟩ := hao.2.2 0 (by omega)
      subst hg
      have hc := fun (j : Nat) (hj : j < 8) => tr_cell HR.out HS.out.bel hlt hj
      have hlk : k < (l.map Prod.fst).length := by simpa using hlt
      have hstep : (l.map Prod.fst).take (k + 1) = (l.map Prod.fst).take k ++ [l[k].1] := by rw [List.take_succ_eq_append_getElem hlk]; simp
      generalize hp : l[k] = p at *
      obtain ⟨⟨rep, seq, saw, m⟩, mb⟩ := p
      have q0 : wr.cell? ⟨g, k * 8, none⟩ = some (.int .i64 rep) := hc 0 (by omega)
      have q1 : wr.cell? ⟨g, k * 8 + 1, none⟩ = some (.int .i64 seq) := hc 1 (by omega)
      have q2 : wr.cell? ⟨g, k * 8 + 2, none⟩ = some (.int .i64 saw.a) := hc 2 (by omega)
      have q3 : wr.cell? ⟨g, k * 8 + 3, none⟩ = some (.int .i64 saw.b) := hc 3 (by omega)
      have q4 : wr.cell? ⟨g, k * 8 + 4, none⟩ = some (.int .i64 saw.c) := hc 4 (by omega)
      have q5 : wr.cell? ⟨g, k * 8 + 5, none⟩ = some (.int .i64 saw.d) := hc 5 (by omega)
      have q6 : wr.cell? ⟨g, k * 8 + 6, none⟩ = some (.int .i64 saw.e) := hc 6 (by omega)
      have q7 : wr.cell? ⟨g, k * 8 + 7, none⟩ = some (.map (some mb)) := hc 7 (by omega)
      have hrep : rep < 5 := hx.1
      have hs0 : 0 ≤ seq := hx.2.1
      have hs1 : seq ≤ 9223372036854775807 := hx.2.2
      have HX := hide (⟨hp, hstep⟩ : _ ∧ _)
      clear hx hp hstep hc
      go_upto_region 6 with (fail)
      generalize hW6 : wr.alloc (.cells #[.int .i64 rep, .int .i64 seq, .int .i64 saw.a, .int .i64 saw.b, .int .i64 saw.c, .int .i64 saw.d, .int .i64 saw.e, .map (some mb)] 139) = W6
      have hB6 : Below wr.heap.size wr W6 := by rw [← hW6]; exact (Below.refl _ _).alloc (Nat.le_refl _) _
      have b6 : Blk W6 wr.heap.size [.int .i64 rep, .int .i64 seq, .int .i64 saw.a, .int .i64 saw.b, .int .i64 saw.c, .int .i64 saw.d, .int .i64 saw.e, .map (some mb)] 139 := by rw [← hW6]; exact heap_alloc_new wr _
      have H6 := hide (HS.out.later hB6)
      have z6 : wr.heap.size < W6.heap.size := b6.lt
      have zl : w.heap.size < W6.heap.size := H6.out.lat.lt
      have zw : w.heap.size < wr.heap.size := HS.out.lat.lt
      have s0 : W6.cell? ⟨wr.heap.size, 0, none⟩ = some (.int .i64 rep) := b6.cell 0
      have s2 : W6.cell? ⟨wr.heap.size, 2, none⟩ = some (.int .i64 saw.a) := b6.cell 2
      have s3 : W6.cell? ⟨wr.heap.size, 3, none⟩ = some (.int .i64 saw.b) := b6.cell 3
      have s4 : W6.cell? ⟨wr.heap.size, 4, none⟩ = some (.int .i64 saw.c) := b6.cell 4
      have s5 : W6.cell? ⟨wr.heap.size, 5, none⟩ = some (.int .i64 saw.d) := b6.cell 5
      have s6 : W6.cell? ⟨wr.heap.size, 6, none⟩ = some (.int .i64 saw.e) := b6.cell 6
      obtain ⟨lat, hlat⟩ : ∃ lat, latFold noLat ((l.map Prod.fst).take k) = lat := ⟨_, rfl⟩
      have hl6 := H6.out.lat
      rw [hlat] at hl6
      obtain ⟨lt, hlt'⟩ : ∃ lt, lat rep = lt := ⟨_, rfl⟩
      have hlc : ∀ j, j < 5 → W6.cell? ⟨w.heap.size, rep * 5 + j, none⟩ = some (.int .i64 (lt.get j)) := fun j hj => by rw [hl6.cell (rep * 5 + j), ← hlt']; exact lat_cell lat hrep hj
      have t0 : W6.cell? ⟨w.heap.size, rep * 5, none⟩ = some (.int .i64 lt.a) := hlc 0 (by omega)
      have t1 : W6.cell? ⟨w.heap.size, rep * 5 + 1, none⟩ = some (.int .i64 lt.b) := hlc 1 (by omega)
      have t2 : W6.cell? ⟨w.heap.size, rep * 5 + 2, none⟩ = some (.int .i64 lt.c) := hlc 2 (by omega)
      have t3 : W6.cell? ⟨w.heap.size, rep * 5 + 3, none⟩ = some (.int .i64 lt.d) := hlc 3 (by omega)
      have t4 : W6.cell? ⟨w.heap.size, rep * 5 + 4, none⟩ = some (.int .i64 lt.e) := hlc 4 (by omega)
      have g1 : (rep : Int) < 5 := by omega
      have HL6 := hide (⟨hl6, hlat, hlt'⟩ : _ ∧ _ ∧ _)
      have HB6 := hide b6
      have HVa : Hid (Calls Tryz.prog 118 #[lt.val, saw.val] W6.drew fun e w' => e = .returned (lt.join saw).val ∧ Hid (Below W6.heap.size W6 w')) := (join_any W6.drew lt saw).mono (by
        rintro e w' ⟨rfl, hB⟩
        exact ⟨rfl, (Below.refl W6.heap.size W6).drew.trans hB⟩)
      have HVb : Hid (Calls Tryz.prog 118 #[lt.val, saw.val] (W6.alloc (.cells #[.int .i64 0, .int .i64 0, .int .i64 0, .int .i64 0, .int .i64 0] 104)).drew fun e w' => e = .returned (lt.join saw).val ∧ w'.cell? ⟨W6.heap.size, 0, none⟩ = some (.int .i64 0) ∧ w'.cell? ⟨W6.heap.size, 1, none⟩ = some (.int .i64 0) ∧ w'.cell? ⟨W6.heap.size, 2, none⟩ = some (.int .i64 0) ∧ w'.cell? ⟨W6.heap.size, 3, none⟩ = some (.int .i64 0) ∧ w'.cell? ⟨W6.heap.size, 4, none⟩ = some (.int .i64 0) ∧ w'.frozen? ⟨W6.heap.size, 0, none⟩ = false ∧ w'.frozen? ⟨W6.heap.size, 1, none⟩ = false ∧ w'.frozen? ⟨W6.heap.size, 2, none⟩ = false ∧ w'.frozen? ⟨W6.heap.size, 3, none⟩ = false ∧ w'.frozen? ⟨W6.heap.size, 4, none⟩ = false ∧ W6.heap.size < w'.heap.size ∧ Hid (Blk w' W6.heap.size [.int .i64 0, .int .i64 0, .int .i64 0, .int .i64 0, .int .i64 0] 104 ∧ Below W6.heap.size W6 w')) := by
        have hBa : Below W6.heap.size W6 (W6.alloc (.cells #[.int .i64 0, .int .i64 0, .int .i64 0, .int .i64 0, .int .i64 0] 104)).drew := ((Below.refl _ _).alloc (Nat.le_refl _) _).drew
        refine (join_any _ lt saw).mono ?_
        rintro e w' ⟨rfl, hB⟩
        have hB' : Below W6.heap.size W6 w' := hBa.trans (hB.mono hBa.size)
        have bz : Blk (W6.alloc (.cells #[.int .i64 0, .int .i64 0, .int .i64 0, .int .i64 0, .int .i64 0] 104)).drew W6.heap.size [.int .i64 0, .int .i64 0, .int .i64 0, .int .i64 0, .int .i64 0] 104 := heap_alloc_new W6 _
        have bz' := bz.below hB
        exact ⟨rfl, bz'.cell 0, bz'.cell 1, bz'.cell 2, bz'.cell 3, bz'.cell 4, bz'.frozen 0, bz'.frozen 1, bz'.frozen 2, bz'.frozen 3, bz'.frozen 4, bz'.lt, bz', hB'⟩
      clear hW6 hB6 b6 q0 q1 q2 q3 q4 q5 q6 q7 hlc hl6 hlat hlt' HS
      generalize hjn : lt.join saw = jn at *
      go_cut [7] (fun pt wc => ∃ db, pt = bptr db ∧ Hid (W6.heap.size ≤ db ∧ Blk wc db jn.cells 104 ∧ Below W6.heap.size W6 wc))
      case first =>
        go_region_with (first | (go_at_call 118; show Calls _ _ _ (World.drew (World.alloc _ _)) _; refine HVb.out.mono ?_; rintro e w5 ⟨rfl, k0, k1, k2, k3, k4, y0, y1, y2, y3, y4, z1, hB5⟩) | (go_at_call 118; refine HVa.out.mono ?_; rintro e w5 ⟨rfl, hB5⟩))
        all_goals go_wp2_with fail
        all_goals go_meet
        all_goals
          first
            | exact ⟨_, rfl, hB5.out.size, heap_alloc_new w5 _, hB5.out.alloc hB5.out.size _⟩
            | exact ⟨_, rfl, Nat.le_refl _, ((((hB5.out.1.set 0 _).set 1 _).set 2 _).set 3 _).set 4 _, ((((hB5.out.2.setCell (Nat.le_refl _) _).setCell (Nat.le_refl _) _).setCell (Nat.le_refl _) _).setCell (Nat.le_refl _) _).setCell (Nat.le_refl _) _⟩
      case rest =>
        obtain ⟨db, rfl, hdb⟩ := hcut
        have hBc := hdb.out.2.2
        have H7 := hide (H6.out.later hBc)
        have hl7 := HL6.out.1.below hBc
        have b7 := HB6.out.below hBc
        have n7 := hdb.out.2.1
        have zdb : W6.heap.size ≤ db := hdb.out.1
        have HR8 := hide H6.out.row
        have zd : db < wc.heap.size := n7.lt
        clear s0 s2 s3 s4 s5 s6 t0 t1 t2 t3 t4
        have s0 : wc.cell? ⟨wr.heap.size, 0, none⟩ = some (.int .i64 rep) := b7.cell 0
        have s1 : wc.cell? ⟨wr.heap.size, 1, none⟩ = some (.int .i64 seq) := b7.cell 1
        have u0 : wc.cell? ⟨db, rep, none⟩ = some (.int .i64 (jn.get rep)) := by rw [n7.cell rep]; exact vec_cell _ hrep
        have u1 : wc.frozen? ⟨db, rep, none⟩ = false := n7.frozen rep
        clear HVa HVb
        go_upto_region 8 with (fail)
        have n8 : Blk (wc.setCell ⟨db, rep, none⟩ (.int .i64 (seq - 1))) db (jn.put rep (seq - 1)).cells 104 := by rw [← put_cells _ hrep]; exact n7.set rep _
        have l8 := hl7.other (p := ⟨db, rep, none⟩) (by show w.heap.size ≠ db; omega) (.int .i64 (seq - 1))
        have b8 := b7.other (p := ⟨db, rep, none⟩) (by show wr.heap.size ≠ db; omega) (.int .i64 (seq - 1))
        have B8 := H7.out.bel.setCell (p := ⟨db, rep, none⟩) (by show w.heap.size ≤ db; omega) (.int .i64 (seq - 1))
        have r8 : (wc.setCell ⟨db, rep, none⟩ (.int .i64 (seq - 1))).ownsRow w.heap.size 104 5 (.slice a0 n0 c0) k ((needsFrom noLat ((l.map Prod.fst).take k)).flatMap Vec.cells) := by
          refine own_move H7.out.row fun q hq => Below.heap_setCell _ _ _ _ fun e => ?_
          have h1 := (HR8.out.lt q hq).2
          have e' : q = db := e
          omega
        clear u0 u1 s0 s1 n7 hl7 b7 H7 hdb hBc H6
        have HN8 := hide (⟨l8, b8, B8, r8⟩ : _ ∧ _ ∧ _ ∧ _)
        have zd8 : db < (wc.setCell ⟨db, rep, none⟩ (.int .i64 (seq - 1))).heap.size := n8.lt
        generalize hnd : jn.put rep (seq - 1) = nd at *
        have HND : Hid (needOf (latFold noLat ((l.map Prod.fst).take k)) ⟨rep, seq, saw, m⟩ = nd) := by
          show needOf _ _ = nd
          rw [← hnd, ← hjn, HL6.out.2.1, ← HL6.out.2.2]; rfl
        clear hnd hjn
        generalize World.setCell _ _ _ = W8 at *
        have s0 : W8.cell? ⟨wr.heap.size, 0, none⟩ = some (.int .i64 rep) := b8.cell 0
        have v0 : W8.cell? ⟨db, 0, none⟩ = some (.int .i64 nd.a) := n8.cell 0
        have v1 : W8.cell? ⟨db, 1, none⟩ = some (.int .i64 nd.b) := n8.cell 1
        have v2 : W8.cell? ⟨db, 2, none⟩ = some (.int .i64 nd.c) := n8.cell 2
        have v3 : W8.cell? ⟨db, 3, none⟩ = some (.int .i64 nd.d) := n8.cell 3
        have v4 : W8.cell? ⟨db, 4, none⟩ = some (.int .i64 nd.e) := n8.cell 4
        have hlc : ∀ j, j < 5 → W8.cell? ⟨w.heap.size, rep * 5 + j, none⟩ = some (.int .i64 ((lat rep).get j)) := fun j hj => by rw [l8.cell (rep * 5 + j)]; exact lat_cell lat hrep hj
        have x0 : W8.cell? ⟨w.heap.size, rep * 5, none⟩ = some (.int .i64 (lat rep).a) := hlc 0 (by omega)
        have x1 : W8.cell? ⟨w.heap.size, rep * 5 + 1, none⟩ = some (.int .i64 (lat rep).b) := hlc 1 (by omega)
        have x2 : W8.cell? ⟨w.heap.size, rep * 5 + 2, none⟩ = some (.int .i64 (lat rep).c) := hlc 2 (by omega)
        have x3 : W8.cell? ⟨w.heap.size, rep * 5 + 3, none⟩ = some (.int .i64 (lat rep).d) := hlc 3 (by omega)
        have x4 : W8.cell? ⟨w.heap.size, rep * 5 + 4, none⟩ = some (.int .i64 (lat rep).e) := hlc 4 (by omega)
        have y0 : W8.frozen? ⟨w.heap.size, rep * 5, none⟩ = false := l8.frozen _
        have y1 : W8.frozen? ⟨w.heap.size, rep * 5 + 1, none⟩ = false := l8.frozen _
        have y2 : W8.frozen? ⟨w.heap.size, rep * 5 + 2, none⟩ = false := l8.frozen _
        have y3 : W8.frozen? ⟨w.heap.size, rep * 5 + 3, none⟩ = false := l8.frozen _
        have y4 : W8.frozen? ⟨w.heap.size, rep * 5 + 4, none⟩ = false := l8.frozen _
        have HND8 := hide n8
        clear l8 b8 B8 r8 n8 hlc
        go_upto_region 9 with (fail)
        have l9 := ((((HN8.out.1.set (rep * 5) (.int .i64 nd.a)).set (rep * 5 + 1) (.int .i64 nd.b)).set (rep * 5 + 2) (.int .i64 nd.c)).set (rep * 5 + 3) (.int .i64 nd.d)).set (rep * 5 + 4) (.int .i64 nd.e)
        rw [lat_set lat hrep nd] at l9
        have hT9 : Touch (fun q => q = w.heap.size) W8 (((((W8.setCell ⟨w.heap.size, rep * 5, none⟩ (.int .i64 nd.a)).setCell ⟨w.heap.size, rep * 5 + 1, none⟩ (.int .i64 nd.b)).setCell ⟨w.heap.size, rep * 5 + 2, none⟩ (.int .i64 nd.c)).setCell ⟨w.heap.size, rep * 5 + 3, none⟩ (.int .i64 nd.d)).setCell ⟨w.heap.size, rep * 5 + 4, none⟩ (.int .i64 nd.e)) :=
          (((((Touch.refl (fun q => q = w.heap.size) W8).setCell (p := ⟨w.heap.size, rep * 5, none⟩) (Or.inl rfl) _).setCell (p := ⟨w.heap.size, rep * 5 + 1, none⟩) (Or.inl rfl) _).setCell (p := ⟨w.heap.size, rep * 5 + 2, none⟩) (Or.inl rfl) _).setCell (p := ⟨w.heap.size, rep * 5 + 3, none⟩) (Or.inl rfl) _).setCell (p := ⟨w.heap.size, rep * 5 + 4, none⟩) (Or.inl rfl) _
        clear s0 v0 v1 v2 v3 v4 x0 x1 x2 x3 x4 y0 y1 y2 y3 y4
        generalize World.setCell _ _ _ = W9 at *
        have n9 := HND8.out.touch hT9 (by omega)
        have B9 : Below w.heap.size w W9 := below_tch HN8.out.2.2.1 hT9 (Nat.le_refl _) HN8.out.2.2.1.size
        have r9 : W9.ownsRow w.heap.size 104 5 (.slice a0 n0 c0) k ((needsFrom noLat ((l.map Prod.fst).take k)).flatMap Vec.cells) := by
          refine own_move HN8.out.2.2.2 fun q hq => hT9.block q (HN8.out.2.2.2.lt q hq).2 fun e => ?_
          exact own_other HN8.out.1 HN8.out.2.2.2 (by decide) (by rw [hq, e])
        have v0 : W9.cell? ⟨db, 0, none⟩ = some (.int .i64 nd.a) := n9.cell 0
        have v1 : W9.cell? ⟨db, 1, none⟩ = some (.int .i64 nd.b) := n9.cell 1
        have v2 : W9.cell? ⟨db, 2, none⟩ = some (.int .i64 nd.c) := n9.cell 2
        have v3 : W9.cell? ⟨db, 3, none⟩ = some (.int .i64 nd.d) := n9.cell 3
        have v4 : W9.cell? ⟨db, 4, none⟩ = some (.int .i64 nd.e) := n9.cell 4
        have H9 := hide (⟨l9, B9, r9⟩ : _ ∧ _ ∧ _)
        clear n9 l9 B9 r9 hT9 HN8 HND8
        go_wp2_with (at_builtin; refine wpList_append_own _ rfl _ _ 209 rfl w.heap.size 104 i0 noVec.val 5 40 Tryz.underlying209 hi hz0 hz1 hz2 rfl (by decide) _ _ _ rfl (H9.out.2.2.alloc _) ⟨W9.heap.size, 0, none⟩ 1 1 nd.cells rfl rfl (cells_new W9 nd.cells _) (by intro u' hu'; simp at hu'; rcases hu' with rfl | rfl | rfl | rfl | rfl <;> rfl) (by unfold maxLen; omega) (by omega) (by have := H9.out.2.1.size; simp; omega) ?_; intro v' w1 hown' hgrow hne; obtain ⟨a1, n1, c1, rfl⟩ := own_shape hown'; have HO := hide (⟨hown', hgrow⟩ : _ ∧ _); clear hown' hgrow hne)
        have HF9 : Hid (NeedAt w (l.map Prod.fst) (k + 1) (.slice a1 n1 c1) w1) := by
          have hg := HO.out.2
          refine ⟨(H9.out.2.1.alloc H9.out.2.1.size _).grown hg (by have := H9.out.2.1.size; simp; omega) (fun q hq => (H9.out.2.2.lt q hq).1), ?_, ?_⟩
          · rw [HX.out.2, latFold_snoc, HND.out, HL6.out.2.1]
            exact (H9.out.1.alloc _).move (hg.block _ (by have := H9.out.1.lt; simp; omega) (fun e => own_other H9.out.1 H9.out.2.2 (by decide) e.symm))
          · rw [HX.out.2, needsFrom_snoc, HND.out, List.flatMap_append, List.flatMap_cons, List.flatMap_nil, List.append_nil]
            exact HO.out.1
        clear HO H9
        exact ⟨⟨k + 1, _, _, _, by omega, by go_num, rfl, HF9.out⟩, by simp [intOf]; omega⟩
    · have hkn : k = l.length := by omega
      subst hkn
      go_wp2_with fail
      go_ret
      refine ⟨_, rfl, ?_, HS.out.bel⟩
      have a := HS.out.row
      rw [List.take_of_length_le (by simp)] at a
      exact a
end Go.Proofs.YtiplgdkpnhamaaaGreatDoor

namespace Go.Proofs.YtiplgdkpnhamaaaGreatDoor
open Go.RowKit Go.Sort
open Go.Maps (Keyed)
theorem dot_keyed : Keyed Tryz.prog 62 := Maps.Keyed.of_law (deep_law_laid (m := 6) (by kernel_rfl) (by omega) (of_decide_eq_true (by kernel_rfl)) (by kernel_rfl) (by kernel_rfl))
theorem dot_inj (p q : Dot) (h : p.val = q.val) : p = q := by
  obtain ⟨a, b⟩ := p
  obtain ⟨c, d⟩ := q
  simp only [Dot.val, Value.agg.injEq, Array.mk.injEq, List.cons.injEq, Value.int.injEq, true_and, and_true] at h
  obtain ⟨rfl, rfl⟩ := h
  rfl
theorem dot_key (x : Dot) (h3 : (Lit.int .i64 x.rep).wf = true) (h4 : (Lit.int .i64 x.seq).wf = true) : ∃ kl, keyOf Tryz.prog 62 x.val = some kl := by
  have hk : Tryz.prog.keyType 62 = true := by kernel_rfl
  have hf : x.val.formed Tryz.prog 62 = true := by simp [Value.formed, Tryz.underlying62, cellsDot]
  have hd : Tryz.prog.types.size + 1 = (Tryz.prog.types.size - 1) + 2 := by have := manyTypes; omega
  have hl : Tryz.prog.keyLits (Tryz.prog.types.size + 1) 62 x.val.cells.toList = some [.int .i64 x.rep, .int .i64 x.seq] := by
    rw [hd]; exact dot_lits _ _ _ h3 h4
  refine ⟨.string (keyBytes [.int .i64 x.rep, .int .i64 x.seq]), ?_⟩
  unfold keyOf
  rw [Tryz.underlying62]
  simp only [hk, hf, hl]
  rfl
theorem zeroVec (w : World) : (zeroValue 104).run Tryz.prog w = .ok noVec.val w := by kernel_rfl
theorem i64_wf {s : Int} (h0 : -9223372036854775808 ≤ s) (h1 : s ≤ 9223372036854775807) : (Lit.int .i64 s).wf = true := by
  have e1 : IntKind.i64.min = -9223372036854775808 := by decide
  have e2 : IntKind.i64.max = 9223372036854775807 := by decide
  simp only [Lit.wf, e1, e2, Bool.and_eq_true, decide_eq_true_eq]
  omega
def needMap : List (Dot × Vec) → Dot → Option Vec
  | [] => fun _ => none
  | x :: l => fun d => (needMap l d).or (if d = x.1 then some x.2 else none)
theorem needMap_snoc : ∀ (l : List (Dot × Vec)) (x : Dot × Vec), needMap (l ++ [x]) = fun d => if d = x.1 then some x.2 else needMap l d
  | [], x => by funext d; simp [needMap]
  | a :: l, x => by
    funext d
    show (needMap (l ++ [x]) d).or _ = _
    rw [needMap_snoc l x]
    by_cases c : d = x.1
    · simp [c]
    · simp [c, needMap]
abbrev Tr.dot (t : Tr) : Dot := ⟨t.rep, t.seq⟩
def dotNeeds (l : List Tr) : List (Dot × Vec) := (l.map Tr.dot).zip (needsOf l)
def SawOk (l : List Tr) : Prop := ∀ t, t ∈ l → ∀ r : Nat, r < 5 → t.saw.incl ((needMap (dotNeeds l) ⟨r, t.saw.get r⟩).getD noVec) = true
end Go.Proofs.YtiplgdkpnhamaaaGreatDoor

namespace Go.Proofs.YtiplgdkpnhamaaaGreatDoor
open Go.RowKit Go.Sort
theorem vrow_cell {w : World} {base g cap : Nat} {l : List Vec} (hr : w.ownsRow base 104 5 (.slice (some ⟨g, 0, none⟩) l.length cap) l.length (l.flatMap Vec.cells)) {k : Nat} (hk : k < l.length) {j : Nat} (hj : j < 5) : w.cell? ⟨g, k * 5 + j, none⟩ = some (.int .i64 (l[k].get j)) := by
  rw [World.ownsRow.cellAt hr (k * 5 + j) (by omega), flat_get Vec.cells 5 (fun _ => rfl) l k j hk hj]
  exact vec_cell _ hj
theorem dots_length (L : List Tr) : (dotNeeds L).length = L.length := by simp [dotNeeds, needsOf, needs_length]
theorem dots_get (L : List Tr) {k : Nat} (hk : k < L.length) (hk' : k < (dotNeeds L).length) : (dotNeeds L)[k] = (L[k].dot, (needsOf L)[k]'(by rw [needsOf, needs_length]; exact hk)) := by
  simp [dotNeeds]
structure ChkAt (w : World) (L : List Tr) (k : Nat) (nv : Value) (wr : World) : Prop where
  bel : Below w.heap.size w wr
  map : MapIn wr 62 w.heap.size k Dot.val Vec.val (needMap ((dotNeeds L).take k))
  row : wr.ownsRow (w.heap.size + 1) 104 5 nv L.length ((needsOf L).flatMap Vec.cells)
theorem ChkAt.later {w : World} {L : List Tr} {k : Nat} {nv : Value} {wr w' : World} (h : ChkAt w L k nv wr) (hb : Below wr.heap.size wr w') : ChkAt w L k nv w' :=
  ⟨h.bel.trans (hb.mono h.bel.size), h.map.move (hb.block _ h.map.lt), own_move h.row fun g hg => hb.block g (h.row.lt g hg).2⟩
set_option maxRecDepth 100000 in
set_option maxHeartbeats 8000000 in
theorem check_saw (w : World) (base : Nat) (l : List (Tr × Nat)) (lv : Value) (hrow : w.ownsRow base 139 8 lv l.length (l.flatMap trCells)) (hl : l.length ≤ 50000000) (hf : ∀ x, x ∈ l → x.1.rep < 5 ∧ 0 ≤ x.1.seq ∧ x.1.seq ≤ 9223372036854775807 ∧ x.1.saw.small) (hs : SawOk (l.map Prod.fst)) :
    Calls Tryz.prog 171 #[lv] w fun e w' => e = .returned (.tuple #[]) ∧ Below w.heap.size w w' := by
  obtain ⟨ao, cap, rfl, hao⟩ := Row.shape (ownsRow_low hrow (Nat.zero_le _))
  have hmm := @run_makeMap Tryz.prog
  generalize hW0 : w.alloc (.map #[] 0) = W0
  have hB0 : Below w.heap.size w W0 := by rw [← hW0]; exact (Below.refl _ _).alloc (Nat.le_refl _) _
  have hz0 : W0.heap.size = w.heap.size + 1 := by rw [← hW0]; simp
  have m0 : MapIn W0 62 w.heap.size 0 Dot.val Vec.val (needMap ((dotNeeds (l.map Prod.fst)).take 0)) := by rw [← hW0]; exact MapIn.made w _ _ _
  have hN := needs_any W0 base l _ (own_move hrow fun g hg => hB0.block g (hrow.lt g hg).2) hl (fun x hx => ⟨(hf x hx).1, (hf x hx).2.1, (hf x hx).2.2.1⟩)
  have HN := hide hN
  have H0 := hide (⟨hB0, m0⟩ : _ ∧ _)
  have HW0 := hide hW0
  have HR := hide hrow
  have HF := hide hf
  have HSO := hide hs
  clear hW0 hB0 m0 hN hrow hf hs
  go_enter Tryz.func171, Tryz.ntmps171
  go_wp2_with (go_at_call 125; rw [HW0.out]; refine HN.out.mono ?_; rintro e w1 ⟨nv, rfl, hrn, hB1⟩; refine Hid.out ?_)
  refine Lib.hid ?_
  have hln : (needsOf (l.map Prod.fst)).length = l.length := by rw [needsOf, needs_length]; simp
  have hrn' : w1.ownsRow (w.heap.size + 1) 104 5 nv l.length ((needsOf (l.map Prod.fst)).flatMap Vec.cells) := by rw [← hz0]; exact hrn
  obtain ⟨an, cn, rfl, han⟩ := Row.shape (ownsRow_low hrn' (Nat.zero_le _))
  have H1 : Hid (ChkAt w (l.map Prod.fst) 0 (.slice an l.length cn) w1) := ⟨H0.out.1.trans (hB1.mono H0.out.1.size), H0.out.2.move (hB1.block _ H0.out.2.lt), by rw [List.length_map]; exact hrn'⟩
  clear hrn hrn' hB1 H0 HN HW0
  go_upto_region 2 with (fail)
  go_loopw [3, 4, 13] (fun _ _ ii wr => ∃ k : Nat, k ≤ l.length ∧ ii = .int .i64 k ∧ Hid (ChkAt w (l.map Prod.fst) k (.slice an l.length cn) wr)) (fun _ _ ii _ => l.length - (intOf ii).toNat)
  case atStart => exact ⟨0, Nat.zero_le _, rfl, H1.out⟩
  case round =>
    clear H1
    obtain ⟨k, hk, rfl, HS⟩ := hrel
    by_cases hlt : k < l.length
    · have hx := HF.out l[k] (List.getElem_mem hlt)
      obtain ⟨g, hg, -⟩ := hao.2.2 0 (by omega)
      subst hg
      obtain ⟨gn, hgn, -⟩ := han.2.2 0 (by omega)
      subst hgn
      have hc := fun (j : Nat) (hj : j < 8) => tr_cell HR.out HS.out.bel hlt hj
      have hrw := HS.out.row
      rw [List.length_map, ← hln] at hrw
      have hkn : k < (needsOf (l.map Prod.fst)).length := by rw [hln]; exact hlt
      have hv := fun (j : Nat) (hj : j < 5) => vrow_cell hrw hkn hj
      have hdg := dots_get (l.map Prod.fst) (k := k) (by simpa using hlt) (by rw [dots_length]; simpa using hlt)
      generalize hnd : (needsOf (l.map Prod.fst))[k] = nd at *
      have v0 : wr.cell? ⟨gn, k * 5, none⟩ = some (.int .i64 nd.a) := hv 0 (by omega)
      have v1 : wr.cell? ⟨gn, k * 5 + 1, none⟩ = some (.int .i64 nd.b) := hv 1 (by omega)
      have v2 : wr.cell? ⟨gn, k * 5 + 2, none⟩ = some (.int .i64 nd.c) := hv 2 (by omega)
      have v3 : wr.cell? ⟨gn, k * 5 + 3, none⟩ = some (.int .i64 nd.d) := hv 3 (by omega)
      have v4 : wr.cell? ⟨gn, k * 5 + 4, none⟩ = some (.int .i64 nd.e) := hv 4 (by omega)
      have hd2 : (dotNeeds (l.map Prod.fst)).take (k + 1) = (dotNeeds (l.map Prod.fst)).take k ++ [(l[k].1.dot, nd)] := by
        rw [List.take_succ_eq_append_getElem (by rw [dots_length]; simpa using hlt), hdg]; simp
      generalize hp : l[k] = p at *
      obtain ⟨⟨rep, seq, saw, m⟩, mb⟩ := p
      have q0 : wr.cell? ⟨g, k * 8, none⟩ = some (.int .i64 rep) := hc 0 (by omega)
      have q1 : wr.cell? ⟨g, k * 8 + 1, none⟩ = some (.int .i64 seq) := hc 1 (by omega)
      have hrep : rep < 5 := hx.1
      have hgl : g < wr.heap.size := Nat.lt_of_lt_of_le (HR.out.lt g rfl).2 HS.out.bel.size
      obtain ⟨kl, hkl⟩ := dot_key ⟨rep, seq⟩ (rep_wf (by show (0 : Int) ≤ rep; omega) (by show (rep : Int) < 5; omega)) (i64_wf (by have h0 : 0 ≤ seq := hx.2.1; show -9223372036854775808 ≤ seq; omega) hx.2.2.1)
      have HX := hide (⟨hd2, hkl⟩ : _ ∧ _)
      clear hx hp hd2 hc hv hrw hdg hnd hkl
      go_upto_region 4 with (fail)
      generalize hW6 : wr.alloc (.cells #[.int .i64 nd.a, .int .i64 nd.b, .int .i64 nd.c, .int .i64 nd.d, .int .i64 nd.e] 104) = W6
      have hB6 : Below wr.heap.size wr W6 := by rw [← hW6]; exact (Below.refl _ _).alloc (Nat.le_refl _) _
      have b6 : Blk W6 wr.heap.size nd.cells 104 := by rw [← hW6]; exact heap_alloc_new wr _
      have H6 := hide (HS.out.later hB6)
      have s0 := Bel.cell (show W6.cell? ⟨wr.heap.size, 0, none⟩ = some (.int .i64 nd.a) from b6.cell 0)
      have s1 := Bel.cell (show W6.cell? ⟨wr.heap.size, 1, none⟩ = some (.int .i64 nd.b) from b6.cell 1)
      have s2 := Bel.cell (show W6.cell? ⟨wr.heap.size, 2, none⟩ = some (.int .i64 nd.c) from b6.cell 2)
      have s3 := Bel.cell (show W6.cell? ⟨wr.heap.size, 3, none⟩ = some (.int .i64 nd.d) from b6.cell 3)
      have s4 := Bel.cell (show W6.cell? ⟨wr.heap.size, 4, none⟩ = some (.int .i64 nd.e) from b6.cell 4)
      have p0 := Bel.cell (cell_later hB6 q0)
      have p1 := Bel.cell (cell_later hB6 q1)
      clear hW6 hB6 b6 q0 q1 v0 v1 v2 v3 v4 HS
      refine region_fam_tail (Bel W6) 7 (by kernel_rfl) (by kernel_rfl) (Below.refl _ _).drew ?_
      simp only [List.take_succ_cons, List.take_zero, List.drop_succ_cons, List.drop_zero]
      repeat (go_big_quiet_step (fail))
      refine wpQuiet_nil ?_
      intro _ hw'
      obtain ⟨fq, rfl⟩ := hw'
      obtain ⟨W7, hB7⟩ := fq
      try dsimp only
      clear s0 s1 s2 s3 s4 p0 p1
      have H7 := hide (H6.out.later hB7)
      obtain ⟨w8, hrun8, hmap8, hg8⟩ := H7.out.map.store dot_keyed Tryz.underlying301 dot_inj (by unfold maxLen; omega) HX.out.2 nd
      have HR8 : Hid (ChkAt w (l.map Prod.fst) (k + 1) (.slice (some ⟨gn, 0, none⟩) l.length cn) w8) := by
        refine ⟨H7.out.bel.grown hg8 H7.out.bel.size (fun q hq => by have := Option.some.inj hq; omega), ?_, own_move H7.out.row fun q hq => hg8.block q (H7.out.row.lt q hq).2 (fun e => by have h1 := (H7.out.row.lt q hq).1; have := Option.some.inj e; omega)⟩
        rw [HX.out.1, needMap_snoc]
        exact hmap8
      clear hmap8 hg8 H7 H6 hB7
      go_wp2_with fail
      exact ⟨⟨k + 1, by omega, by go_num, HR8.out⟩, by simp [intOf]; omega⟩
    · have hkn : k = l.length := by omega
      subst hkn
      go_upto_region 7 with (fail)
      go_loopw [6, 7, 8, 28, 34] (fun _ _ _ ii _ wq => ∃ k : Nat, k ≤ l.length ∧ ii = .int .i64 k ∧ Hid (ChkAt w (l.map Prod.fst) l.length (.slice an l.length cn) wq)) (fun _ _ _ ii _ _ => l.length - (intOf ii).toNat)
      case atStart => exact ⟨0, Nat.zero_le _, rfl, HS.out⟩
      case round =>
        clear HS
        obtain ⟨k, hk2, rfl, HS⟩ := hrel
        by_cases hlt : k < l.length
        · have hx := HF.out l[k] (List.getElem_mem hlt)
          obtain ⟨g, hg, -⟩ := hao.2.2 0 (by omega)
          subst hg
          have hc := fun (j : Nat) (hj : j < 8) => tr_cell HR.out HS.out.bel hlt hj
          have hso := HSO.out l[k].1 (List.mem_map.2 ⟨l[k], List.getElem_mem hlt, rfl⟩)
          generalize hp : l[k] = p at *
          obtain ⟨⟨rep, seq, saw, m⟩, mb⟩ := p
          have q0 : wr.cell? ⟨g, k * 8, none⟩ = some (.int .i64 rep) := hc 0 (by omega)
          have q1 : wr.cell? ⟨g, k * 8 + 1, none⟩ = some (.int .i64 seq) := hc 1 (by omega)
          have q2 : wr.cell? ⟨g, k * 8 + 2, none⟩ = some (.int .i64 saw.a) := hc 2 (by omega)
          have q3 : wr.cell? ⟨g, k * 8 + 3, none⟩ = some (.int .i64 saw.b) := hc 3 (by omega)
          have q4 : wr.cell? ⟨g, k * 8 + 4, none⟩ = some (.int .i64 saw.c) := hc 4 (by omega)
          have q5 : wr.cell? ⟨g, k * 8 + 5, none⟩ = some (.int .i64 saw.d) := hc 5 (by omega)
          have q6 : wr.cell? ⟨g, k * 8 + 6, none⟩ = some (.int .i64 saw.e) := hc 6 (by omega)
          have q7 : wr.cell? ⟨g, k * 8 + 7, none⟩ = some (.map (some mb)) := hc 7 (by omega)
          have HX := hide (⟨hso, hx.2.2.2⟩ : _ ∧ _)
          clear hx hp hso hc
          go_upto_region 10 with (fail)
          generalize hW6 : wr.alloc (.cells #[.int .i64 rep, .int .i64 seq, .int .i64 saw.a, .int .i64 saw.b, .int .i64 saw.c, .int .i64 saw.d, .int .i64 saw.e, .map (some mb)] 139) = W6
          have hB6 : Below wr.heap.size wr W6 := by rw [← hW6]; exact (Below.refl _ _).alloc (Nat.le_refl _) _
          have b6 : Blk W6 wr.heap.size [.int .i64 rep, .int .i64 seq, .int .i64 saw.a, .int .i64 saw.b, .int .i64 saw.c, .int .i64 saw.d, .int .i64 saw.e, .map (some mb)] 139 := by rw [← hW6]; exact heap_alloc_new wr _
          have H6 := hide (⟨HS.out.later hB6, b6⟩ : _ ∧ _)
          clear hW6 hB6 b6 q0 q1 q2 q3 q4 q5 q6 q7 HS
          obtain ⟨tb, htb⟩ : ∃ tb, wr.heap.size = tb := ⟨_, rfl⟩
          rw [htb] at H6
          rw [htb]
          clear htb
          go_loopw [7, 8, 34] (fun _ _ jj wj => ∃ r : Nat, r ≤ 5 ∧ jj = .int .i64 r ∧ Hid (ChkAt w (l.map Prod.fst) l.length (.slice an l.length cn) wj ∧ Blk wj tb [.int .i64 rep, .int .i64 seq, .int .i64 saw.a, .int .i64 saw.b, .int .i64 saw.c, .int .i64 saw.d, .int .i64 saw.e, .map (some mb)] 139)) (fun _ _ jj _ => 5 - (intOf jj).toNat)
          case atStart => exact ⟨0, Nat.zero_le _, rfl, H6.out⟩
          case round =>
            clear H6
            obtain ⟨r, hr5, rfl, HJ⟩ := hrel
            by_cases hlr : r < 5
            · have hix := idx5_at saw r hlr
              have hsm := HX.out.2 r hlr
              have hok := HX.out.1 r hlr
              have g1 : (r : Int) < 5 := by omega
              obtain ⟨sq, hsq⟩ : ∃ sq, saw.get r = sq := ⟨_, rfl⟩
              simp only [hsq] at hix hok hsm
              obtain ⟨kl, hkl⟩ := dot_key ⟨r, sq⟩ (rep_wf (by show (0 : Int) ≤ r; omega) (by show (r : Int) < 5; omega)) (i64_wf (by show -9223372036854775808 ≤ sq; have := hsm.1; omega) (by show sq ≤ 9223372036854775807; have := hsm.2; simp only [maxSeq] at this; omega))
              obtain ⟨nd, hnd⟩ : ∃ nd, (needMap (dotNeeds (l.map Prod.fst)) ⟨r, sq⟩).getD noVec = nd := ⟨_, rfl⟩
              rw [hnd] at hok
              have s3 : ∀ f : Fam (Bel wr), (Instr.lookup 301 (.map (some w.heap.size)) (.agg #[.int .i64 r, .int .i64 sq]) false).run Tryz.prog f.w = .ok nd.val f.w := fun f => by
                have hmp := HJ.out.1.map
                rw [List.take_of_length_le (by rw [dots_length]; simp)] at hmp
                have a := (hmp.move (f.ok.block _ hmp.lt)).lookup dot_keyed Tryz.underlying301 (zeroVec f.w) hkl
                rw [← hnd]
                refine a.trans ?_
                cases needMap (dotNeeds (l.map Prod.fst)) ⟨r, sq⟩ <;> rfl
              have s4 : ∀ f : Fam (Bel wr), Calls Tryz.prog 130 #[saw.val, nd.val] f.w fun e w'' => e = .returned (.bool true) ∧ ∃ g : Fam (Bel wr), w'' = g.w := fun f => Bel.call f (by
                have a := includes_any f.w saw nd
                rw [hok] at a
                exact a)
              have HI := hide s4
              have c2 := Bel.cell (show wr.cell? ⟨tb, 2, none⟩ = some (.int .i64 saw.a) from HJ.out.2.cell 2)
              have c3 := Bel.cell (show wr.cell? ⟨tb, 3, none⟩ = some (.int .i64 saw.b) from HJ.out.2.cell 3)
              have c4 := Bel.cell (show wr.cell? ⟨tb, 4, none⟩ = some (.int .i64 saw.c) from HJ.out.2.cell 4)
              have c5 := Bel.cell (show wr.cell? ⟨tb, 5, none⟩ = some (.int .i64 saw.d) from HJ.out.2.cell 5)
              have c6 := Bel.cell (show wr.cell? ⟨tb, 6, none⟩ = some (.int .i64 saw.e) from HJ.out.2.cell 6)
              clear hok hnd hkl hsq s4 hsm
              go_upto_region 12 with (fail)
              refine region_fam_tail (Bel wr) 8 (by kernel_rfl) (by kernel_rfl) (Below.refl _ _).drew ?_
              simp only [List.take_succ_cons, List.take_zero, List.drop_succ_cons, List.drop_zero]
              repeat (go_big_quiet_step (first | (go_at_call 130; exact HI.out _)))
              refine wpQuiet_nil ?_
              intro _ hw'
              obtain ⟨fq, rfl⟩ := hw'
              obtain ⟨W7, hB7⟩ := fq
              try dsimp only
              have HJ7 := hide (⟨HJ.out.1.later hB7, HJ.out.2.below hB7⟩ : _ ∧ _)
              clear s3 c2 c3 c4 c5 c6 HI HJ hB7 hix
              go_wp2_with (go_at_call 159; refine (demand_ok _).mono ?_; rintro e w8 ⟨rfl, rfl⟩)
              exact ⟨⟨r + 1, by omega, by go_num, HJ7.out⟩, by simp [intOf]; omega⟩
            · have hr : r = 5 := by omega
              subst hr
              go_wp2_with fail
              exact ⟨⟨k + 1, by omega, by go_num, HJ.out.1⟩, by simp [intOf]; omega⟩
        · have hkn : k = l.length := by omega
          subst hkn
          go_wp2_with fail
          go_end0
          exact ⟨rfl, HS.out.bel⟩
end Go.Proofs.YtiplgdkpnhamaaaGreatDoor

namespace Go.Proofs.YtiplgdkpnhamaaaGreatDoor
open Go.RowKit Go.Sort
structure TrRd (n : Nat) (vis : Vec) (t : Tr) : Prop where
  rep : t.rep < n
  s1 : 1 ≤ t.seq
  saw : ∀ k : Nat, k < 5 → 0 ≤ t.saw.get k ∧ t.saw.get k ≤ (vis.put t.rep (t.seq - 1)).get k ∧ t.saw.get k ≤ maxSeq
  out : ∀ k : Nat, n ≤ k → t.saw.get k = 0
  keys : KeysOf t.wr (keysOf t.wr)
  ord : (keysOf t.wr).Pairwise placeLt
  k1 : 1 ≤ (keysOf t.wr).length
  k16 : (keysOf t.wr).length ≤ 16
  wr : ∀ p x, t.wr p = some x → WrRd p x
theorem list_get (v : Vec) {k : Nat} (hk : k < v.list.length) : v.list[k] = v.get k := by
  simp only [Vec.list, List.length_cons, List.length_nil] at hk
  have : k = 0 ∨ k = 1 ∨ k = 2 ∨ k = 3 ∨ k = 4 := by omega
  rcases this with rfl | rfl | rfl | rfl | rfl <;> rfl
theorem list_getD (v : Vec) {k : Nat} (hk : k < 5) : v.list.getD k 0 = v.get k := by
  have : k = 0 ∨ k = 1 ∨ k = 2 ∨ k = 3 ∨ k = 4 := by omega
  rcases this with rfl | rfl | rfl | rfl | rfl <;> rfl
theorem vec_take_back (v : Vec) {n : Nat} (h : ∀ k : Nat, n ≤ k → v.get k = 0) : vecOf (v.list.take n) = v := by
  refine vec_ext fun k hk => ?_
  have h1 : (vecOf (v.list.take n)).get k = (v.list.take n).getD k 0 := by
    have : k = 0 ∨ k = 1 ∨ k = 2 ∨ k = 3 ∨ k = 4 := by omega
    rcases this with rfl | rfl | rfl | rfl | rfl <;> rfl
  rw [h1]
  by_cases c : k < n
  · rw [← list_getD v hk]
    simp [List.getD, c]
  · rw [h k (by omega)]
    exact getD_out (by simp; omega)
def segL (F : Nat → Nat → Tr) (cnt : Nat → Nat) (r : Nat) : List Tr := (List.range (cnt r)).map (F r)
def upToL (F : Nat → Nat → Tr) (cnt : Nat → Nat) (r : Nat) : List Tr := (List.range r).flatMap (segL F cnt)
def restL (F : Nat → Nat → Tr) (cnt : Nat → Nat) (r : Nat) : List Tr := ((List.range 5).drop r).flatMap (segL F cnt)
theorem restL_zero (F : Nat → Nat → Tr) (cnt : Nat → Nat) : restL F cnt 0 = upToL F cnt 5 := rfl
theorem restL_five (F : Nat → Nat → Tr) (cnt : Nat → Nat) : restL F cnt 5 = [] := rfl
theorem restL_step (F : Nat → Nat → Tr) (cnt : Nat → Nat) {r : Nat} (hr : r < 5) : restL F cnt r = segL F cnt r ++ restL F cnt (r + 1) := by
  have : r = 0 ∨ r = 1 ∨ r = 2 ∨ r = 3 ∨ r = 4 := by omega
  rcases this with rfl | rfl | rfl | rfl | rfl <;> rfl
theorem upToL_step (F : Nat → Nat → Tr) (cnt : Nat → Nat) (r : Nat) : upToL F cnt (r + 1) = upToL F cnt r ++ segL F cnt r := by
  unfold upToL
  rw [List.range_succ, List.flatMap_append, List.flatMap_cons, List.flatMap_nil, List.append_nil]
theorem seg_take (F : Nat → Nat → Tr) (cnt : Nat → Nat) (r : Nat) {j : Nat} (hj : j < cnt r) : (segL F cnt r).take (j + 1) = (segL F cnt r).take j ++ [F r j] := by
  rw [List.take_succ_eq_append_getElem (by simpa [segL] using hj)]
  simp [segL]
theorem seg_drop (F : Nat → Nat → Tr) (cnt : Nat → Nat) (r : Nat) {j : Nat} (hj : j < cnt r) : (segL F cnt r).drop j = F r j :: (segL F cnt r).drop (j + 1) := by
  rw [List.drop_eq_getElem_cons (by simpa [segL] using hj)]
  simp [segL]
theorem txs_app (n : Nat) (a b : List Tr) : txsT n (a ++ b) = txsT n a ++ txsT n b := by simp [txsT]
theorem txs_one (n : Nat) (t : Tr) : txsT n [t] = txT n t.saw t.wr := by simp [txsT]
structure GotL (w : World) (L : List Tr) (lv : Value) (wr : World) : Prop where
  ex : ∃ ys : List (Tr × Nat), ys.map Prod.fst = L ∧ wr.ownsRow w.heap.size 139 8 lv ys.length (ys.flatMap trCells) ∧ ∀ y, y ∈ ys → w.heap.size ≤ y.2 ∧ TrIn wr y
theorem GotL.keep {w : World} {L : List Tr} {lv : Value} {wr w' : World} (h : GotL w L lv wr) (hk : ∀ q, w.heap.size ≤ q → q < wr.heap.size → w'.heap[q]? = wr.heap[q]?) : GotL w L lv w' := by
  obtain ⟨ys, h1, h2, h3⟩ := h.ex
  refine ⟨ys, h1, own_move h2 fun g hg => hk g (h2.lt g hg).1 (h2.lt g hg).2, fun y hy => ?_⟩
  obtain ⟨a, b⟩ := h3 y hy
  exact ⟨a, b.move (hk y.2 a b.lt)⟩
structure LRead (w : World) (rb n : Nat) (t : ByteArray) (m : Bool) (a' : Nat) (u : List UInt8) (vis : Vec) (L : List Tr) (lv : Value) (wr : World) : Prop where
  rd : RdIn wr rb n t a'
  rem : Rem m (t.data.toList.drop a') u
  tch : Touch (fun q => q = rb) w wr
  vis : Blk wr w.heap.size vis.cells 104
  got : GotL w L lv wr
theorem LRead.later {w : World} {rb n : Nat} {t : ByteArray} {m : Bool} {a' : Nat} {u : List UInt8} {vis : Vec} {L : List Tr} {lv : Value} {wr w2 : World} (h : LRead w rb n t m a' u vis L lv wr) (hb : Below wr.heap.size wr w2) : LRead w rb n t m a' u vis L lv w2 :=
  ⟨h.rd.later hb, h.rem, h.tch.then (Touch.ofBelow hb), h.vis.below hb, h.got.keep fun q _ hq => hb.block q hq⟩
def EndsL (w : World) (rb n : Nat) (t : ByteArray) (m : Bool) (a' : Nat) (u : List UInt8) (L : List Tr) (e : Ending) (w' : World) : Prop :=
  Touch (fun q => q = rb) w w' ∧ ((∃ lv, e = .returned lv ∧ GotL w L lv w' ∧ RdIn w' rb n t a' ∧ Rem m (t.data.toList.drop a') u) ∨ (m = false ∧ e = fault))
theorem info_tx : (Tryz.prog.info? 139).map (fun i => (i.zero, i.size, i.bytes)) = some (some (.agg #[.int .i64 0, .int .i64 0, .int .i64 0, .int .i64 0, .int .i64 0, .int .i64 0, .int .i64 0, .map none]), 8, 64) := by kernel_rfl
end Go.Proofs.YtiplgdkpnhamaaaGreatDoor

namespace Go.Proofs.YtiplgdkpnhamaaaGreatDoor
open Go.RowKit Go.Sort
set_option maxRecDepth 100000 in
set_option maxHeartbeats 8000000 in
theorem transactions_at (w : World) (rb n : Nat) (t : ByteArray) (a : Nat) (cl : List Int) (vis : Vec) (F : Nat → Nat → Tr) (cnt : Nat → Nat) (m : Bool) (u : List UInt8) (h : RdIn w rb n t a) (hn : n ≤ 5) (hcl : cl.length = n) (hcv : ∀ k : Nat, k < 5 → (vecOf cl).get k = cnt k) (hcb : ∀ k (hk : k < cl.length), 0 ≤ cl[k] ∧ cl[k] ≤ vis.list.getD k 0 ∧ cl[k] ≤ 9223372036854775807) (hvs : vis.small) (hcn : ∀ k : Nat, k < 5 → (cnt k : Int) ≤ vis.get k) (hF : ∀ r j, r < 5 → j < cnt r → TrRd n vis (F r j) ∧ (F r j).rep = r ∧ (F r j).seq = vis.get r - cnt r + 1 + j) (hso : SawOk (upToL F cnt 5)) (htot : (upToL F cnt 5).length ≤ 50000000) (hx : Rem m (t.data.toList.drop a) (vecT cl ++ (txsT n (upToL F cnt 5) ++ u))) (ht : Tabs w) :
    Calls Tryz.prog 123 #[bptr rb, vis.val] w (EndsL w rb n t m (a + (vecT cl).length + (txsT n (upToL F cnt 5)).length) u (upToL F cnt 5)) := by
  have hrb := h.blk.lt
  obtain ⟨i0, hi, hz0, hz1, hz2⟩ := info_parts info_tx
  generalize hW0 : w.alloc (.cells #[.int .i64 vis.a, .int .i64 vis.b, .int .i64 vis.c, .int .i64 vis.d, .int .i64 vis.e] 104) = W0
  have hB0 : Below w.heap.size w W0 := by rw [← hW0]; exact (Below.refl _ _).alloc (Nat.le_refl _) _
  have v0 : Blk W0 w.heap.size vis.cells 104 := by rw [← hW0]; exact heap_alloc_new w _
  have H0 : Hid (LRead w rb n t m a (vecT cl ++ (txsT n (upToL F cnt 5) ++ u)) vis [] (.slice none 0 0) W0) :=
    ⟨h.later hB0, hx, Touch.ofBelow hB0, v0, [], rfl, World.ownsRow_nil _ _ _ _, fun y hy => by simp at hy⟩
  have c0 : W0.cell? ⟨w.heap.size, 0, none⟩ = some (.int .i64 vis.a) := v0.cell 0
  have c1 : W0.cell? ⟨w.heap.size, 1, none⟩ = some (.int .i64 vis.b) := v0.cell 1
  have c2 : W0.cell? ⟨w.heap.size, 2, none⟩ = some (.int .i64 vis.c) := v0.cell 2
  have c3 : W0.cell? ⟨w.heap.size, 3, none⟩ = some (.int .i64 vis.d) := v0.cell 3
  have c4 : W0.cell? ⟨w.heap.size, 4, none⟩ = some (.int .i64 vis.e) := v0.cell 4
  have HV := hide (vector_at W0 rb n t a cl vis m _ H0.out.rd hn hcl H0.out.rem hcb (ht.later hB0))
  have HH := hide h
  have HW0 := hide hW0
  have HT := hide ht
  have HFF := hide (⟨hcv, hvs, hcn, hF, hso, htot⟩ : _ ∧ _ ∧ _ ∧ _ ∧ _ ∧ _)
  clear h hx hW0 hB0 ht v0 hcv hvs hcn hF hso htot hcb
  go_enter Tryz.func123, Tryz.ntmps123
  go_upto_region 1 with (fail)
  rw [HW0.out]
  clear HW0
  go_wp2_with (go_at_call 162; refine HV.out.mono ?_; rintro e w2 ⟨T2, ⟨rfl, h2, r2⟩ | ⟨hm, rfl⟩⟩ <;> refine Hid.out ?_)
  all_goals refine Lib.hid ?_
  rotate_left
  · exact ⟨rfl, H0.out.tch.then T2, Or.inr ⟨by first | exact hm | rfl, rfl⟩⟩
  have hvz : w.heap.size < W0.heap.size := H0.out.vis.lt
  have H2 : Hid (LRead w rb n t m (a + (vecT cl).length) (txsT n (upToL F cnt 5) ++ u) vis [] (.slice none 0 0) w2) :=
    ⟨h2, r2, H0.out.tch.then T2, H0.out.vis.touch T2 (by omega), [], rfl, World.ownsRow_nil _ _ _ _, fun y hy => by simp at hy⟩
  clear T2 h2 r2 HV H0 c0 c1 c2 c3 c4
  have HCV : Hid (∀ k : Nat, k < 5 → (vecOf cl).get k = cnt k) := HFF.out.1
  generalize vecOf cl = cv at *
  have hz2' : w.heap.size < w2.heap.size := H2.out.vis.lt
  go_upto_region 4 with (fail)
  generalize hW3 : w2.alloc (.cells #[.int .i64 cv.a, .int .i64 cv.b, .int .i64 cv.c, .int .i64 cv.d, .int .i64 cv.e] 104) = W3
  have hB3 : Below w2.heap.size w2 W3 := by rw [← hW3]; exact (Below.refl _ _).alloc (Nat.le_refl _) _
  have H3 := hide (H2.out.later hB3)
  clear hW3 hB3 H2
  obtain ⟨ac, hac⟩ : ∃ ac, a + (vecT cl).length = ac := ⟨_, rfl⟩
  rw [hac] at H3
  have HAC := hide hac
  clear hac
  go_loopw [6, 7, 8, 9, 14] (fun lv _ _ _ rr wr => ∃ (r : Nat) (ao : Option Addr) (ln cp : Nat), r ≤ 5 ∧ rr = .int .i64 r ∧ lv = .slice ao ln cp ∧ Hid (LRead w rb n t m (ac + (txsT n (upToL F cnt r)).length) (txsT n (restL F cnt r) ++ u) vis (upToL F cnt r) (.slice ao ln cp) wr)) (fun _ _ _ _ rr _ => 5 - (intOf rr).toNat)
  case atStart => exact ⟨0, _, _, _, Nat.zero_le _, rfl, rfl, by simpa [upToL, restL_zero, txsT] using H3⟩
  case round =>
    clear H3
    obtain ⟨r, ao, ln, cp, hr, rfl, rfl, HS⟩ := hrel
    by_cases hlt : r < 5
    · have hix := idx5_at cv r hlt
      rw [HCV.out r hlt] at hix
      have hcr := HFF.out.2.2.1 r hlt
      have hvr := HFF.out.2.1 r hlt
      have cvs : wr.cell? ⟨w.heap.size, r, none⟩ = some (.int .i64 (vis.get r)) := by rw [HS.out.vis.cell r]; exact vec_cell _ hlt
      have HFr : Hid (∀ j, j < cnt r → TrRd n vis (F r j) ∧ (F r j).rep = r ∧ (F r j).seq = vis.get r - cnt r + 1 + j) := fun j hj => HFF.out.2.2.2.1 r j hlt hj
      have g1 : (r : Int) < 5 := by omega
      obtain ⟨vr, hvr'⟩ : ∃ vr, vis.get r = vr := ⟨_, rfl⟩
      rw [hvr'] at cvs hcr hvr HFr
      have h0 : 0 ≤ vr := hvr.1
      have h1 : vr ≤ 1844674407370955161 := hvr.2
      obtain ⟨c, hc⟩ : ∃ c, cnt r = c := ⟨_, rfl⟩
      rw [hc] at hix hcr HFr
      have HC := hide (⟨hc, hvr'⟩ : _ ∧ _)
      clear hc hvr hvr'
      go_upto_region 7 with (fail)
      have hls : (segL F cnt r).length = c := by rw [← HC.out.1]; simp [segL]
      go_loopw [6, 9] (fun lv ss wj => ∃ (j : Nat) (ao : Option Addr) (ln cp : Nat), j ≤ c ∧ ss = .int .i64 (vr - c + 1 + j) ∧ lv = .slice ao ln cp ∧ Hid (LRead w rb n t m (ac + (txsT n (upToL F cnt r ++ (segL F cnt r).take j)).length) (txsT n ((segL F cnt r).drop j ++ restL F cnt (r + 1)) ++ u) vis (upToL F cnt r ++ (segL F cnt r).take j) (.slice ao ln cp) wj)) (fun _ ss _ => (vr + 1 - intOf ss).toNat)
      case atStart => exact ⟨0, _, _, _, Nat.zero_le _, by simp, rfl, by simpa [restL_step F cnt hlt] using HS⟩
      case round =>
        clear HS cvs
        obtain ⟨j, ao, ln, cp, hj, rfl, rfl, HS⟩ := hrel
        have cvs : wr.cell? ⟨w.heap.size, r, none⟩ = some (.int .i64 vr) := by rw [HS.out.vis.cell r, ← HC.out.2]; exact vec_cell _ hlt
        by_cases hjc : j < c
        · have hTR := HFr.out j hjc
          obtain ⟨sq, hsq⟩ : ∃ sq : Int, vr - c + 1 + j = sq := ⟨_, rfl⟩
          rw [hsq] at hTR ⊢
          have hle : sq ≤ vr := by omega
          have hlo : 1 ≤ sq := by omega
          have hjc' : j < cnt r := by rw [HC.out.1]; exact hjc
          have hrem := HS.out.rem
          have etx : txsT n ((segL F cnt r).drop j ++ restL F cnt (r + 1)) = txT n (F r j).saw (F r j).wr ++ txsT n ((segL F cnt r).drop (j + 1) ++ restL F cnt (r + 1)) := by rw [seg_drop F cnt r hjc']; simp [txsT]
          rw [etx, List.append_assoc] at hrem
          clear etx
          have hst := seg_take F cnt r hjc'
          generalize F r j = tr at *
          obtain ⟨rep, seq, saw, mm⟩ := tr
          obtain ⟨tr1, tr2, tr3⟩ := hTR
          simp only at tr2 tr3
          subst tr2
          subst tr3
          have hsw : vecOf (saw.list.take n) = saw := vec_take_back saw tr1.out
          have hln : (saw.list.take n).length = n := by simp [Vec.list]; omega
          have hTA := transaction_at wr rb n t _ rep seq (saw.list.take n) mm vis (keysOf mm) m _ HS.out.rd hn hlt (by omega) (by omega) hln (fun k hk => by
            have hk5 : k < 5 := by omega
            have e1 : (saw.list.take n)[k] = saw.get k := by rw [List.getElem_take]; exact list_get saw _
            have h2 := tr1.saw k hk5
            rw [e1, list_getD _ hk5]
            exact ⟨h2.1, h2.2.1, Int.le_trans h2.2.2 (by decide)⟩) tr1.keys tr1.ord tr1.k1 tr1.k16 tr1.wr (by simpa [txT] using hrem) (HH.out.tabs HT.out HS.out.tch)
          rw [hsw] at hTA
          have HTA := hide hTA
          have HG := hide (⟨hst, hsq⟩ : _ ∧ _)
          have d0 : wr.cell? ⟨w.heap.size, 0, none⟩ = some (.int .i64 vis.a) := HS.out.vis.cell 0
          have d1 : wr.cell? ⟨w.heap.size, 1, none⟩ = some (.int .i64 vis.b) := HS.out.vis.cell 1
          have d2 : wr.cell? ⟨w.heap.size, 2, none⟩ = some (.int .i64 vis.c) := HS.out.vis.cell 2
          have d3 : wr.cell? ⟨w.heap.size, 3, none⟩ = some (.int .i64 vis.d) := HS.out.vis.cell 3
          have d4 : wr.cell? ⟨w.heap.size, 4, none⟩ = some (.int .i64 vis.e) := HS.out.vis.cell 4
          clear hTA hrem hst hsw tr1 hsq
          go_wp2_with (go_at_call 170; refine HTA.out.mono ?_; rintro e w5 ⟨T5, ⟨b, rfl, hb5, hm5, h5, r5⟩ | ⟨hm, rfl⟩⟩ <;> refine Hid.out ?_)
          all_goals refine Lib.hid ?_
          rotate_left
          · exact ⟨rfl, HS.out.tch.then T5, Or.inr ⟨by first | exact hm | rfl, rfl⟩⟩
          have H5 : Hid (LRead w rb n t m (ac + (txsT n (upToL F cnt rep ++ (segL F cnt rep).take j)).length + (vecT (saw.list.take n)).length + (numT (keysOf mm).length).length + (wrsT mm (keysOf mm)).length) (txsT n ((segL F cnt rep).drop (j + 1) ++ restL F cnt (rep + 1)) ++ u) vis (upToL F cnt rep ++ (segL F cnt rep).take j) (.slice ao ln cp) w5) :=
            ⟨h5, r5, HS.out.tch.then T5, HS.out.vis.touch T5 (by omega), HS.out.got.keep fun q h1 h2 => T5.block q h2 (by omega)⟩
          have hzw : w.heap.size < wr.heap.size := HS.out.vis.lt
          have HM5 := hide (⟨hb5, hm5⟩ : _ ∧ _)
          have HZ5 : Hid (w.heap.size ≤ w5.heap.size) := H5.out.tch.size
          clear T5 h5 r5 hb5 hm5 HTA HS d0 d1 d2 d3 d4
          obtain ⟨ys, hy1, hy2, hy3⟩ := H5.out.got.ex
          have hyl : ys.length ≤ 50000000 := by
            have e : ys.length = (upToL F cnt rep ++ (segL F cnt rep).take j).length := by rw [← hy1]; simp
            have := HFF.out.2.2.2.2.2
            rw [← restL_zero] at this
            have hmono : (upToL F cnt rep ++ (segL F cnt rep).take j).length ≤ (restL F cnt 0).length := by
              rw [restL_zero]
              have h5 : upToL F cnt 5 = upToL F cnt rep ++ restL F cnt rep := by
                have : rep = 0 ∨ rep = 1 ∨ rep = 2 ∨ rep = 3 ∨ rep = 4 := by omega
                rcases this with rfl | rfl | rfl | rfl | rfl <;> simp [upToL, restL, List.range, List.range.loop]
              rw [h5, restL_step F cnt hlt]
              simp only [List.length_append, List.length_take]
              omega
            omega
          have HY := hide (⟨hy1, hy2, hy3⟩ : _ ∧ _ ∧ _)
          clear hy1 hy2 hy3
          go_wp2_with (at_builtin; refine wpList_append_own _ rfl _ _ 106 rfl w.heap.size 139 i0 (.agg #[.int .i64 0, .int .i64 0, .int .i64 0, .int .i64 0, .int .i64 0, .int .i64 0, .int .i64 0, .map none]) 8 64 Tryz.underlying106 hi hz0 hz1 hz2 rfl (by decide) _ _ _ rfl (HY.out.2.1.alloc _) ⟨w5.heap.size, 0, none⟩ 1 1 (trCells (⟨rep, seq, saw, mm⟩, b)) rfl rfl (cells_new w5 (trCells (⟨rep, seq, saw, mm⟩, b)) _) (by intro u' hu'; simp [trCells] at hu'; rcases hu' with rfl | rfl | rfl | rfl | rfl | rfl | rfl | rfl <;> rfl) (by unfold maxLen; omega) (by omega) (by have := HZ5.out; simp; omega) ?_; intro v' w6 hown' hgrow hne; obtain ⟨a1, n1, c1, rfl⟩ := own_shape hown'; have HO := hide (⟨hown', hgrow⟩ : _ ∧ _); clear hown' hgrow hne)
          have HF6 : Hid (LRead w rb n t m (ac + (txsT n (upToL F cnt rep ++ (segL F cnt rep).take (j + 1))).length) (txsT n ((segL F cnt rep).drop (j + 1) ++ restL F cnt (rep + 1)) ++ u) vis (upToL F cnt rep ++ (segL F cnt rep).take (j + 1)) (.slice a1 n1 c1) w6) := by
            have hg : (w5.alloc (.cells (trCells (⟨rep, seq, saw, mm⟩, b)).toArray 139)).grownBy w6 (Value.slice ao ln cp).ownBlock := HO.out.2
            have hzr := HY.out.2.1
            have eL : upToL F cnt rep ++ (segL F cnt rep).take (j + 1) = (upToL F cnt rep ++ (segL F cnt rep).take j) ++ [⟨rep, seq, saw, mm⟩] := by rw [HG.out.1, List.append_assoc]
            have ea : ac + (txsT n (upToL F cnt rep ++ (segL F cnt rep).take (j + 1))).length = ac + (txsT n (upToL F cnt rep ++ (segL F cnt rep).take j)).length + (vecT (saw.list.take n)).length + (numT (keysOf mm).length).length + (wrsT mm (keysOf mm)).length := by
              rw [eL, txs_app, txs_one]; simp only [txT, List.length_append]; omega
            rw [ea]
            have hkeep : ∀ q o, w5.heap[q]? = some o → (∀ cs f, o ≠ Obj.cells cs 139 f) → w6.heap[q]? = w5.heap[q]? := fun q o hq hno => by
              have hql := (Array.getElem?_eq_some_iff.1 hq).1
              refine (hg.block q (by simp; omega) (fun e => ?_)).trans (Below.heap_alloc _ _ _ hql)
              rcases hzr.2 with ⟨e', -⟩ | ⟨gg, cap, cur, e', -, hgg, -⟩
              · rw [e'] at e; simp [Value.ownBlock] at e
              · rw [e'] at e
                have : gg = q := by simpa [Value.ownBlock] using e.symm
                subst this
                rw [hgg] at hq
                exact hno _ _ (Option.some.inj hq).symm
            have hmk : ∀ y : Tr × Nat, TrIn w5 y → TrIn w6 y := fun y hy => by
              obtain ⟨D, ⟨es, clock, g1, -⟩, -⟩ := hy.ex
              exact hy.move (hkeep y.2 _ g1 (fun cs f e => by cases e))
            refine ⟨⟨H5.out.rd.blk.move (hkeep rb _ H5.out.rd.blk (fun cs f e => by injection e with _ e; exact absurd e (by decide))), H5.out.rd.le, H5.out.rd.sm, H5.out.rd.gl⟩, H5.out.rem, ?_, H5.out.vis.move (hkeep _ _ H5.out.vis (fun cs f e => by injection e with _ e; exact absurd e (by decide))), ?_⟩
            · have hB : Touch (fun q => q = rb) w (w5.alloc (.cells (trCells (⟨rep, seq, saw, mm⟩, b)).toArray 139)) := H5.out.tch.alloc _
              refine ⟨hg.os.trans hB.os, hg.tape.trans hB.tape, hg.output.trans hB.output, Nat.le_trans hB.size hg.size, fun q hq hne => (hg.block q (Nat.lt_of_lt_of_le hq hB.size) (fun e => ?_)).trans (hB.block q hq hne)⟩
              have := (hzr.lt q e.symm).1
              omega
            · refine ⟨ys ++ [(⟨rep, seq, saw, mm⟩, b)], ?_, ?_, fun y hy => ?_⟩
              · rw [List.map_append, HY.out.1, eL]; rfl
              · rw [List.length_append, List.length_singleton, List.flatMap_append, List.flatMap_cons, List.flatMap_nil, List.append_nil]
                exact HO.out.1
              · rw [List.mem_append, List.mem_singleton] at hy
                rcases hy with hy | rfl
                · exact ⟨(HY.out.2.2 y hy).1, hmk y (HY.out.2.2 y hy).2⟩
                · exact ⟨by have := HM5.out.1; show w.heap.size ≤ b; omega, hmk _ HM5.out.2⟩
          clear HO HY H5 HM5
          have hsq := HG.out.2
          exact ⟨⟨j + 1, _, _, _, by omega, by rw [← hsq]; congr 1; omega, rfl, HF6.out⟩, by simp [intOf]; omega⟩
        · have hjn : j = c := by omega
          subst hjn
          have hgt : vr < vr - (j : Int) + 1 + j := by omega
          have hst2 : (segL F cnt r).take j = segL F cnt r := List.take_of_length_le (by omega)
          have hsd2 : (segL F cnt r).drop j = [] := List.drop_of_length_le (by omega)
          rw [hst2, hsd2, List.nil_append, ← upToL_step] at HS
          go_wp2_with fail
          exact ⟨⟨r + 1, _, _, _, by omega, by go_num, rfl, HS.out⟩, by simp [intOf]; omega⟩
    · have hr5 : r = 5 := by omega
      subst hr5
      rw [restL_five] at HS
      obtain ⟨ys, hy1, hy2, hy3⟩ := HS.out.got.ex
      have hyl : ys.length = (upToL F cnt 5).length := by rw [← hy1]; simp
      have HCK := hide (check_saw wr w.heap.size ys _ hy2 (by rw [hyl]; exact HFF.out.2.2.2.2.2) (fun x hx => by
        have hm : x.1 ∈ upToL F cnt 5 := by rw [← hy1]; exact List.mem_map.2 ⟨x, hx, rfl⟩
        obtain ⟨r, hr, hs⟩ := List.mem_flatMap.1 hm
        obtain ⟨j, hj, e⟩ := List.mem_map.1 hs
        have hr5 : r < 5 := by simpa using hr
        have hjc : j < cnt r := by simpa using hj
        obtain ⟨t1, t2, t3⟩ := HFF.out.2.2.2.1 r j hr5 hjc
        have hv := HFF.out.2.1 r hr5
        have hc := HFF.out.2.2.1 r hr5
        rw [e] at t1 t2 t3
        refine ⟨by omega, by have := t1.s1; omega, by rw [t3]; have := hv.2; simp only [maxSeq] at this; omega, fun k hk => ⟨(t1.saw k hk).1, (t1.saw k hk).2.2⟩⟩) (by rw [hy1]; exact HFF.out.2.2.2.2.1))
      clear hy1 hy2 hy3 hyl
      go_wp2_with (go_at_call 171; refine HCK.out.mono ?_; rintro e w9 ⟨rfl, hb9⟩; have H9 := hide (HS.out.later hb9); clear hb9)
      go_ret
      refine ⟨H9.out.tch, Or.inl ⟨_, rfl, H9.out.got, ?_, ?_⟩⟩
      · rw [HAC.out]; exact H9.out.rd
      · rw [HAC.out]; simpa [txsT] using H9.out.rem
end Go.Proofs.YtiplgdkpnhamaaaGreatDoor

namespace Go.Proofs.YtiplgdkpnhamaaaGreatDoor
open Go.RowKit Go.Sort
theorem GotL.low {w w0 : World} {L : List Tr} {lv : Value} {wr : World} (h : GotL w L lv wr) (hs : w0.heap.size ≤ w.heap.size) : GotL w0 L lv wr := by
  obtain ⟨ys, h1, h2, h3⟩ := h.ex
  exact ⟨ys, h1, ownsRow_low h2 hs, fun y hy => ⟨Nat.le_trans hs (h3 y hy).1, (h3 y hy).2⟩⟩
theorem GotL.shape {w : World} {L : List Tr} {lv : Value} {wr : World} (h : GotL w L lv wr) : ∃ a l k, lv = .slice a l k := by
  obtain ⟨ys, h1, h2, h3⟩ := h.ex
  exact own_shape h2
structure AnsOk (n i : Nat) (vis : Vec) (F : Nat → Nat → Tr) (cnt : Nat → Nat) : Prop where
  n5 : n ≤ 5
  lt : i < n
  sm : vis.small
  out : ∀ k : Nat, n ≤ k → vis.get k = 0
  cle : ∀ k : Nat, k < 5 → (cnt k : Int) ≤ vis.get k
  tr : ∀ r j, r < 5 → j < cnt r → TrRd n vis (F r j) ∧ (F r j).rep = r ∧ (F r j).seq = vis.get r - cnt r + 1 + j
  so : SawOk (upToL F cnt 5)
  tot : (upToL F cnt 5).length ≤ 50000000
theorem countP_seg {n : Nat} {i : Nat} {vis : Vec} {F : Nat → Nat → Tr} {cnt : Nat → Nat} (h : AnsOk n i vis F cnt) {k r : Nat} (hr : r < 5) : (segL F cnt r).countP (fun t => decide (t.rep = k)) = if r = k then cnt r else 0 := by
  unfold segL
  rw [List.countP_map]
  have hc : ∀ j, j ∈ List.range (cnt r) → ((fun t : Tr => decide (t.rep = k)) ∘ F r) j = decide (r = k) := fun j hj => by
    simp [(h.tr r j hr (by simpa using hj)).2.1]
  rw [List.countP_congr (q := fun _ => decide (r = k)) (fun j hj => by rw [hc j hj])]
  by_cases c : r = k <;> simp [c]
theorem counts_cnt {n : Nat} {i : Nat} {vis : Vec} {F : Nat → Nat → Tr} {cnt : Nat → Nat} (h : AnsOk n i vis F cnt) {k : Nat} (hk : k < 5) : (countsOf (upToL F cnt 5)).get k = cnt k := by
  have hreps : ∀ t, t ∈ upToL F cnt 5 → t.rep < 5 := fun t ht => by
    obtain ⟨r, hr, hs⟩ := List.mem_flatMap.1 ht
    obtain ⟨j, hj, rfl⟩ := List.mem_map.1 hs
    have hr5 : r < 5 := by simpa using hr
    rw [(h.tr r j hr5 (by simpa using hj)).2.1]; exact hr5
  rw [counts_get _ hreps]
  have e : upToL F cnt 5 = segL F cnt 0 ++ (segL F cnt 1 ++ (segL F cnt 2 ++ (segL F cnt 3 ++ segL F cnt 4))) := by
    simp [upToL, List.range, List.range.loop]
  rw [e]
  simp only [List.countP_append]
  rw [countP_seg h (by omega), countP_seg h (by omega), countP_seg h (by omega), countP_seg h (by omega), countP_seg h (by omega)]
  have : k = 0 ∨ k = 1 ∨ k = 2 ∨ k = 3 ∨ k = 4 := by omega
  rcases this with rfl | rfl | rfl | rfl | rfl <;> simp
abbrev put7 (w : World) (b : Nat) (i : Int) (v : Vec) (lv : Value) : World := (put6 w b i v).setCell ⟨b, 6, none⟩ lv
abbrev ansVal (i : Int) (v : Vec) (lv : Value) : Value := .agg #[.int .i64 i, .int .i64 v.a, .int .i64 v.b, .int .i64 v.c, .int .i64 v.d, .int .i64 v.e, lv]
theorem put7_blk {w : World} {b : Nat} {x0 x1 x2 x3 x4 x5 x6 : Value} {t : TypeId} (i : Int) (v : Vec) (lv : Value) (h : Blk w b [x0, x1, x2, x3, x4, x5, x6] t) : Blk (put7 w b i v lv) b [.int .i64 i, .int .i64 v.a, .int .i64 v.b, .int .i64 v.c, .int .i64 v.d, .int .i64 v.e, lv] t := by
  have a0 := h.set 0 (.int .i64 i)
  have a1 := a0.set 1 (.int .i64 v.a)
  have a2 := a1.set 2 (.int .i64 v.b)
  have a3 := a2.set 3 (.int .i64 v.c)
  have a4 := a3.set 4 (.int .i64 v.d)
  have a5 := a4.set 5 (.int .i64 v.e)
  exact a5.set 6 lv
theorem put7_touch (w : World) (b : Nat) (i : Int) (v : Vec) (lv : Value) : Touch (fun q => q = b) w (put7 w b i v lv) :=
  (put6_touch w b i v).setCell (p := ⟨b, 6, none⟩) (Or.inl rfl) _
abbrev zeroAns : List Value := [.int .i64 0, .int .i64 0, .int .i64 0, .int .i64 0, .int .i64 0, .int .i64 0, .slice none 0 0]
noncomputable def ansBody (n i : Nat) (vis : Vec) (L : List Tr) : List UInt8 := headT 97 n i (vis.list.take n) ++ (vecT ((countsOf L).list.take n) ++ txsT n L)
theorem ansT_eq (n i : Nat) (vis : Vec) (L : List Tr) : ansT n i vis L = ansBody n i vis L ++ sealT (ansBody n i vis L) := rfl
set_option maxRecDepth 100000 in
set_option maxHeartbeats 8000000 in
theorem read_answer (w : World) (n i : Nat) (t : ByteArray) (vis : Vec) (F : Nat → Nat → Tr) (cnt : Nat → Nat) (m : Bool) (hA : AnsOk n i vis F cnt) (hs : t.size ≤ 200000000000) (hx : Rem m t.data.toList (ansBody n i vis (upToL F cnt 5))) (ht : Tabs w) :
    Calls Tryz.prog 80 #[.string t, .int .i64 n] w fun e w' => Below w.heap.size w w' ∧ ((t.data.toList = ansT n i vis (upToL F cnt 5) ∧ ∃ lv, e = .returned (ansVal i vis lv) ∧ GotL w (upToL F cnt 5) lv w') ∨ (¬ t.data.toList = ansT n i vis (upToL F cnt 5) ∧ e = fault)) := by
  have hsaw : vecOf (vis.list.take n) = vis := vec_take_back vis hA.out
  have hcnt0 : ∀ k : Nat, n ≤ k → (countsOf (upToL F cnt 5)).get k = 0 := fun k hk => by
    by_cases h5 : k < 5
    · rw [counts_cnt hA h5]
      have h1 := hA.cle k h5
      rw [hA.out k hk] at h1
      omega
    · unfold Vec.get Vec.list
      rw [Int.toNat_natCast, List.getD_eq_getElem?_getD, List.getElem?_eq_none (by simp; omega)]; rfl
  generalize hW1 : (w.alloc (.cells #[.int .i64 0, .int .i64 0, .int .i64 0, .int .i64 0, .int .i64 0, .int .i64 0, .slice none 0 0] 154)).alloc (.cells #[.int .i64 n, .string t, .int .i64 0] 199) = W1
  have hB1 : Below w.heap.size w W1 := by rw [← hW1]; exact ((Below.refl _ _).alloc (Nat.le_refl _) _).alloc (by simp) _
  have b0 : Blk W1 w.heap.size zeroAns 154 := by
    rw [← hW1]; exact Blk.alloc (heap_alloc_new w _) _
  have hr : RdIn W1 (w.heap.size + 1) n t 0 := by
    refine ⟨?_, Nat.zero_le _, hs, by have := ht.room; omega⟩
    rw [← hW1, show w.heap.size + 1 = (w.alloc (.cells #[.int .i64 0, .int .i64 0, .int .i64 0, .int .i64 0, .int .i64 0, .int .i64 0, .slice none 0 0] 154)).heap.size by simp]
    exact heap_alloc_new _ _
  have hln : (vis.list.take n).length = n := by have := hA.n5; simp [Vec.list]; omega
  have hlc : ((countsOf (upToL F cnt 5)).list.take n).length = n := by have := hA.n5; simp [Vec.list]; omega
  have hh := head_at W1 (w.heap.size + 1) n t 0 i 97 (vis.list.take n) m (vecT ((countsOf (upToL F cnt 5)).list.take n) ++ (txsT n (upToL F cnt 5) ++ [])) hr hA.n5 hA.lt hln (by simpa [ansBody] using hx) (fun k hk => by
    have e1 : (vis.list.take n)[k] = vis.get k := by rw [List.getElem_take]; exact list_get vis _
    rw [e1]
    exact hA.sm k (by have := hA.n5; omega)) (ht.later hB1)
  rw [show ((97 : UInt8).toNat : Int) = 97 from rfl, Nat.zero_add, hsaw] at hh
  have HK := hide hh
  have HS := hide (⟨hB1, b0, hr⟩ : _ ∧ _ ∧ _)
  have HW1 := hide hW1
  have HX := hide hx
  have HT := hide ht
  have HA := hide hA
  have HC := hide (⟨hcnt0, hlc, hln⟩ : _ ∧ _ ∧ _)
  have hsz : t.data.toList.length = t.size := by simp
  clear hW1 hB1 b0 hr hh hx ht hA hcnt0 hlc hln hsaw
  go_enter Tryz.func80, Tryz.ntmps80
  go_wp2_with (go_at_call 116; rw [HW1.out]; refine HK.out.mono ?_; rintro e w2 ⟨T2, ⟨rfl, h2, r2⟩ | ⟨hm, rfl⟩⟩ <;> refine Hid.out ?_)
  all_goals refine Lib.hid ?_
  rotate_left
  · refine ⟨rfl, below_tch HS.out.1 T2 (by omega) HS.out.1.size, Or.inr ⟨?_, rfl⟩⟩
    have hx := HX.out
    rw [hm] at hx
    exact rem_cut hx
  have hB2 : Below w.heap.size w w2 := below_tch HS.out.1 T2 (by omega) HS.out.1.size
  have b2 : Blk w2 w.heap.size zeroAns 154 := HS.out.2.1.touch T2 (by omega)
  have hl2 : w.heap.size + 1 < w2.heap.size := h2.blk.lt
  have HS2 := hide (⟨hB2, b2, h2, r2⟩ : _ ∧ _ ∧ _ ∧ _)
  clear h2 r2 T2 HK HW1 hB2 b2 HS
  go_upto_region 3 with (fail)
  generalize hW2 : w2.alloc (.cells #[.int .i64 i, .int .i64 vis.a, .int .i64 vis.b, .int .i64 vis.c, .int .i64 vis.d, .int .i64 vis.e] 144) = W2
  have hBa : Below w2.heap.size w2 W2 := by rw [← hW2]; exact (Below.refl _ _).alloc (Nat.le_refl _) _
  have bh : Blk W2 w2.heap.size [.int .i64 i, .int .i64 vis.a, .int .i64 vis.b, .int .i64 vis.c, .int .i64 vis.d, .int .i64 vis.e] 144 := by rw [← hW2]; exact heap_alloc_new w2 _
  have hB3 : Below w.heap.size w W2 := HS2.out.1.trans (hBa.mono HS2.out.1.size)
  have hz2 : w2.heap.size < W2.heap.size := bh.lt
  have hTA := transactions_at W2 (w.heap.size + 1) n t _ ((countsOf (upToL F cnt 5)).list.take n) vis F cnt m [] (HS2.out.2.2.1.later hBa) HA.out.n5 HC.out.2.1 (fun k hk => by rw [vec_take_back _ HC.out.1]; exact counts_cnt HA.out hk) (fun k hk => by
    have hk5 : k < 5 := by have := HA.out.n5; have := HC.out.2.1; omega
    have e1 : ((countsOf (upToL F cnt 5)).list.take n)[k] = (countsOf (upToL F cnt 5)).get k := by rw [List.getElem_take]; exact list_get _ _
    have h1 := HA.out.cle k hk5
    have h2 := HA.out.sm k hk5
    rw [e1, counts_cnt HA.out hk5, list_getD _ hk5]
    exact ⟨by omega, h1, by have := h2.2; simp only [maxSeq] at this; omega⟩) HA.out.sm HA.out.cle HA.out.tr HA.out.so HA.out.tot HS2.out.2.2.2 (HT.out.later hB3)
  have c0 : W2.cell? ⟨w2.heap.size, 0, none⟩ = some (.int .i64 i) := bh.cell 0
  have c1 : W2.cell? ⟨w2.heap.size, 1, none⟩ = some (.int .i64 vis.a) := bh.cell 1
  have c2 : W2.cell? ⟨w2.heap.size, 2, none⟩ = some (.int .i64 vis.b) := bh.cell 2
  have c3 : W2.cell? ⟨w2.heap.size, 3, none⟩ = some (.int .i64 vis.c) := bh.cell 3
  have c4 : W2.cell? ⟨w2.heap.size, 4, none⟩ = some (.int .i64 vis.d) := bh.cell 4
  have c5 : W2.cell? ⟨w2.heap.size, 5, none⟩ = some (.int .i64 vis.e) := bh.cell 5
  have HS3 := hide (⟨hB3, HS2.out.2.1.below hBa, bh⟩ : Below w.heap.size w W2 ∧ Blk W2 w.heap.size zeroAns 154 ∧ Blk W2 w2.heap.size _ _)
  have HTA := hide hTA
  clear hTA hW2 hBa bh hB3 HS2
  go_wp2_with (go_at_call 123; refine HTA.out.mono ?_; rintro e w3 ⟨T3, ⟨lv, rfl, hg3, h3, r3⟩ | ⟨hm, rfl⟩⟩ <;> refine Hid.out ?_)
  all_goals refine Lib.hid ?_
  rotate_left
  · refine ⟨rfl, below_tch HS3.out.1 T3 (by omega) HS3.out.1.size, Or.inr ⟨?_, rfl⟩⟩
    have hx := HX.out
    rw [hm] at hx
    exact rem_cut hx
  obtain ⟨la, ll, lc, rfl⟩ := hg3.shape
  have hB3 : Below w.heap.size w w3 := below_tch HS3.out.1 T3 (by omega) HS3.out.1.size
  have hbl : (headT 97 n i (vis.list.take n)).length + (vecT ((countsOf (upToL F cnt 5)).list.take n)).length + (txsT n (upToL F cnt 5)).length = (ansBody n i vis (upToL F cnt 5)).length := by simp only [ansBody, List.length_append]; omega
  rw [hbl] at h3
  obtain ⟨r, hr⟩ := rem_whole HX.out (by rw [hsz]; exact h3.le)
  have htk : t.data.toList.take (ansBody n i vis (upToL F cnt 5)).length = ansBody n i vis (upToL F cnt 5) := by rw [hr, List.take_left]
  have hdr : t.data.toList.drop (ansBody n i vis (upToL F cnt 5)).length = r := by rw [hr, List.drop_left]
  have he := rd_end w3 (w.heap.size + 1) n t _ h3 (HT.out.later hB3)
  rw [htk, hdr] at he
  have HE := hide he
  have HR := hide hr
  have HS4 := hide (⟨hB3, HS3.out.2.1.touch T3 (by omega), HS3.out.2.2.touch T3 (by omega), hg3⟩ : _ ∧ _ ∧ _ ∧ _)
  clear h3 r3 T3 HTA HS3 htk hdr he hr hB3 hg3 hbl c0 c1 c2 c3 c4 c5
  go_wp2_with (go_at_call 117; refine HE.out.mono ?_; rintro e w4 ⟨b4, ⟨hd, rfl⟩ | ⟨hd, rfl⟩⟩ <;> refine Hid.out ?_)
  all_goals refine Lib.hid ?_
  rotate_left
  · refine ⟨rfl, HS4.out.1.trans (b4.mono HS4.out.1.size), Or.inr ⟨fun e => hd ?_, rfl⟩⟩
    have e2 := HR.out
    rw [e, ansT_eq] at e2
    exact (List.append_cancel_left e2).symm
  have HD := hide hd
  have hb0 := HS4.out.2.1.below b4
  have hbh := HS4.out.2.2.1.below b4
  have r0 : w4.cell? ⟨w.heap.size, 0, none⟩ = some (.int .i64 0) := hb0.cell 0
  have r1 : w4.cell? ⟨w.heap.size, 1, none⟩ = some (.int .i64 0) := hb0.cell 1
  have r2 : w4.cell? ⟨w.heap.size, 2, none⟩ = some (.int .i64 0) := hb0.cell 2
  have r3 : w4.cell? ⟨w.heap.size, 3, none⟩ = some (.int .i64 0) := hb0.cell 3
  have r4 : w4.cell? ⟨w.heap.size, 4, none⟩ = some (.int .i64 0) := hb0.cell 4
  have r5 : w4.cell? ⟨w.heap.size, 5, none⟩ = some (.int .i64 0) := hb0.cell 5
  have r6 : w4.cell? ⟨w.heap.size, 6, none⟩ = some (.slice none 0 0) := hb0.cell 6
  have q0 : w4.frozen? ⟨w.heap.size, 0, none⟩ = false := hb0.frozen 0
  have q1 : w4.frozen? ⟨w.heap.size, 1, none⟩ = false := hb0.frozen 1
  have q2 : w4.frozen? ⟨w.heap.size, 2, none⟩ = false := hb0.frozen 2
  have q3 : w4.frozen? ⟨w.heap.size, 3, none⟩ = false := hb0.frozen 3
  have q4 : w4.frozen? ⟨w.heap.size, 4, none⟩ = false := hb0.frozen 4
  have q5 : w4.frozen? ⟨w.heap.size, 5, none⟩ = false := hb0.frozen 5
  have q6 : w4.frozen? ⟨w.heap.size, 6, none⟩ = false := hb0.frozen 6
  have d0 : w4.cell? ⟨w2.heap.size, 0, none⟩ = some (.int .i64 i) := hbh.cell 0
  have d1 : w4.cell? ⟨w2.heap.size, 1, none⟩ = some (.int .i64 vis.a) := hbh.cell 1
  have d2 : w4.cell? ⟨w2.heap.size, 2, none⟩ = some (.int .i64 vis.b) := hbh.cell 2
  have d3 : w4.cell? ⟨w2.heap.size, 3, none⟩ = some (.int .i64 vis.c) := hbh.cell 3
  have d4 : w4.cell? ⟨w2.heap.size, 4, none⟩ = some (.int .i64 vis.d) := hbh.cell 4
  have d5 : w4.cell? ⟨w2.heap.size, 5, none⟩ = some (.int .i64 vis.e) := hbh.cell 5
  have HS5 := hide (⟨HS4.out.1.trans (b4.mono HS4.out.1.size), hb0, HS4.out.2.2.2.keep fun q _ hq => b4.block q hq⟩ : Below w.heap.size w w4 ∧ Blk w4 w.heap.size zeroAns 154 ∧ GotL W2 (upToL F cnt 5) (.slice la ll lc) w4)
  clear hd b4 hb0 hbh HE HS4
  go_wp2_with fail
  have hb5 := put7_blk i vis (.slice la ll lc) HS5.out.2.1
  have hT5 := put7_touch w4 w.heap.size i vis (.slice la ll lc)
  unfold put7 put6 at hb5 hT5
  generalize World.setCell _ _ _ = W7 at *
  have s0 : W7.cell? ⟨w.heap.size, 0, none⟩ = some (.int .i64 i) := hb5.cell 0
  have s1 : W7.cell? ⟨w.heap.size, 1, none⟩ = some (.int .i64 vis.a) := hb5.cell 1
  have s2 : W7.cell? ⟨w.heap.size, 2, none⟩ = some (.int .i64 vis.b) := hb5.cell 2
  have s3 : W7.cell? ⟨w.heap.size, 3, none⟩ = some (.int .i64 vis.c) := hb5.cell 3
  have s4 : W7.cell? ⟨w.heap.size, 4, none⟩ = some (.int .i64 vis.d) := hb5.cell 4
  have s5 : W7.cell? ⟨w.heap.size, 5, none⟩ = some (.int .i64 vis.e) := hb5.cell 5
  have s6 : W7.cell? ⟨w.heap.size, 6, none⟩ = some (.slice la ll lc) := hb5.cell 6
  refine bodyPost_ret (v := ansVal i vis (.slice la ll lc)) (by simp [results, Tryz.results80, go_sem, s0, s1, s2, s3, s4, s5, s6]) rfl ⟨below_tch HS5.out.1 hT5 (Nat.le_refl _) HS5.out.1.size, Or.inl ⟨?_, _, rfl, ?_⟩⟩
  · rw [HR.out, HD.out]; rfl
  · exact (HS5.out.2.2.keep fun q h1 h2 => hT5.block q h2 (by omega)).low (by omega)
end Go.Proofs.YtiplgdkpnhamaaaGreatDoor

namespace Go.Proofs.YtiplgdkpnhamaaaGreatDoor
open Go.RowKit Go.Sort
set_option maxRecDepth 100000 in
theorem catch_fault_a (eb : Nat) (x : Int) (w : World) (hc : w.cell? ⟨eb, 0, none⟩ = some (.int .i64 x)) (hz : w.frozen? ⟨eb, 0, none⟩ = false) :
    CallsD Tryz.prog 122 #[bptr eb] (.panicking ({ v := .iface 196 (.agg #[]), recovered := false } :: [])) w fun e u' w' =>
      e = .returned (.tuple #[]) ∧ u' = .panicking ({ v := .iface 196 (.agg #[]), recovered := true } :: []) ∧ w' = (w.alloc (.cells #[] 196)).setCell ⟨eb, 0, none⟩ (.int .i64 6) := by
  refine callsD_of_wpS Tryz.func122 rfl fun c₀ cs hu => ?_
  apply wpS_seq
  apply wpS_region
  simp [wpOpsS, go_sem, recoverD, hu, Tryz.ntmps122, Exit.thenS]
  refine wpS_of_wp ?_
  change Code.wp _ _ _ { tmps := #[bptr eb, undef, undef, undef, .iface 196 (.agg #[]), undef, undef, undef, undef, undef], defers := [] } _
  have ha := as_fault
  have hlt := World.block_lt_of_cell? w _ hc
  go_wp2_with fail
  cases c₀
  simp_all [bodyPostS, results, Tryz.results122]
set_option maxRecDepth 100000 in
theorem catch_idle_a (eb : Nat) (w : World) :
    CallsD Tryz.prog 122 #[bptr eb] .returning w fun e u' w' => e = .returned (.tuple #[]) ∧ u' = .returning ∧ w' = w := by
  refine callsD_of_wpS Tryz.func122 rfl fun c₀ cs hu => ?_
  apply wpS_seq
  apply wpS_region
  simp [wpOpsS, go_sem, recoverD, hu, Tryz.ntmps122, Exit.thenS]
  refine wpS_of_wp ?_
  change Code.wp _ _ _ { tmps := #[bptr eb, undef, undef, undef, .nilIface, undef, undef, undef, undef, undef], defers := [] } _
  go_wp2_with fail
  cases c₀
  simp_all [bodyPostS, results, Tryz.results122]
set_option maxRecDepth 100000 in
set_option maxHeartbeats 8000000 in
theorem read_text_ans (w : World) (n i : Nat) (t : ByteArray) (vis : Vec) (L : List Tr) (P : Prop) (hC : ∀ W, Below w.heap.size w W → Calls Tryz.prog 80 #[.string t, .int .i64 n] W fun e w' => Below W.heap.size W w' ∧ ((P ∧ ∃ lv, e = .returned (ansVal i vis lv) ∧ GotL W L lv w') ∨ (¬ P ∧ e = fault))) :
    Calls Tryz.prog 79 #[.func (.func 80) #[] #[], .string t, .int .i64 n] w fun e w' => Below w.heap.size w w' ∧ ((P ∧ ∃ lv, e = .returned (.tuple #[ansVal i vis lv, .int .i64 0]) ∧ GotL w L lv w') ∨ (¬ P ∧ e = .returned (.tuple #[ansVal 0 noVec (.slice none 0 0), .int .i64 6]))) := by
  have hmf : ∀ (fn : Fn) (first cap : Array Value) (w : World), (Instr.makeFunc fn first cap).run Tryz.prog w = .ok (.func fn first cap) w := fun _ _ _ _ => rfl
  generalize hW1 : (w.alloc (.cells #[.int .i64 0, .int .i64 0, .int .i64 0, .int .i64 0, .int .i64 0, .int .i64 0, .slice none 0 0] 154)).alloc (.cells #[.int .i64 0] 54) = W1
  have hB1 : Below w.heap.size w W1 := by rw [← hW1]; exact ((Below.refl _ _).alloc (Nat.le_refl _) _).alloc (by simp) _
  have b0 : Blk W1 w.heap.size zeroAns 154 := by
    rw [← hW1]; exact Blk.alloc (heap_alloc_new w _) _
  have b1 : Blk W1 (w.heap.size + 1) [.int .i64 0] 54 := by
    rw [← hW1, show w.heap.size + 1 = (w.alloc (.cells #[.int .i64 0, .int .i64 0, .int .i64 0, .int .i64 0, .int .i64 0, .int .i64 0, .slice none 0 0] 154)).heap.size by simp]
    exact heap_alloc_new _ _
  have HC := hide (hC W1 hB1)
  have HS := hide (⟨hB1, b0, b1⟩ : _ ∧ _ ∧ _)
  have HW1 := hide hW1
  clear hC hW1 hB1 b0 b1
  go_enter_defers Tryz.func79, Tryz.ntmps79
  go_wp2_with (go_at_call 80; rw [HW1.out]; refine HC.out.mono ?_; rintro e w2 ⟨hb2, ⟨hd, lv, rfl, hg2⟩ | ⟨hd, rfl⟩⟩ <;> refine Hid.out ?_)
  all_goals refine Lib.hid ?_
  · have HD := hide hd
    obtain ⟨la, ll, lc, rfl⟩ := hg2.shape
    have HG2 : Hid (GotL W1 L (.slice la ll lc) w2) := hg2
    have hW1s : w.heap.size + 1 < W1.heap.size := HS.out.2.2.lt
    clear hg2
    have HB2 : Hid (Below w.heap.size w w2 ∧ Blk w2 w.heap.size zeroAns 154 ∧ Blk w2 (w.heap.size + 1) [.int .i64 0] 54) := ⟨HS.out.1.trans (hb2.mono HS.out.1.size), HS.out.2.1.below hb2, HS.out.2.2.below hb2⟩
    clear hd hb2 HC HW1 HS
    have r0 : w2.cell? ⟨w.heap.size, 0, none⟩ = some (.int .i64 0) := HB2.out.2.1.cell 0
    have r1 : w2.cell? ⟨w.heap.size, 1, none⟩ = some (.int .i64 0) := HB2.out.2.1.cell 1
    have r2 : w2.cell? ⟨w.heap.size, 2, none⟩ = some (.int .i64 0) := HB2.out.2.1.cell 2
    have r3 : w2.cell? ⟨w.heap.size, 3, none⟩ = some (.int .i64 0) := HB2.out.2.1.cell 3
    have r4 : w2.cell? ⟨w.heap.size, 4, none⟩ = some (.int .i64 0) := HB2.out.2.1.cell 4
    have r5 : w2.cell? ⟨w.heap.size, 5, none⟩ = some (.int .i64 0) := HB2.out.2.1.cell 5
    have q0 : w2.frozen? ⟨w.heap.size, 0, none⟩ = false := HB2.out.2.1.frozen 0
    have q1 : w2.frozen? ⟨w.heap.size, 1, none⟩ = false := HB2.out.2.1.frozen 1
    have q2 : w2.frozen? ⟨w.heap.size, 2, none⟩ = false := HB2.out.2.1.frozen 2
    have q3 : w2.frozen? ⟨w.heap.size, 3, none⟩ = false := HB2.out.2.1.frozen 3
    have q4 : w2.frozen? ⟨w.heap.size, 4, none⟩ = false := HB2.out.2.1.frozen 4
    have q5 : w2.frozen? ⟨w.heap.size, 5, none⟩ = false := HB2.out.2.1.frozen 5
    have r6 : w2.cell? ⟨w.heap.size, 6, none⟩ = some (.slice none 0 0) := HB2.out.2.1.cell 6
    have q6 : w2.frozen? ⟨w.heap.size, 6, none⟩ = false := HB2.out.2.1.frozen 6
    have s0 : w2.cell? ⟨w.heap.size + 1, 0, none⟩ = some (.int .i64 0) := HB2.out.2.2.cell 0
    have p0 : w2.frozen? ⟨w.heap.size + 1, 0, none⟩ = false := HB2.out.2.2.frozen 0
    go_wp2_with fail
    have hT5 := put7_touch w2 w.heap.size i vis (.slice la ll lc)
    have hb5 := (put7_blk i vis (.slice la ll lc) HB2.out.2.1).other (p := ⟨w.heap.size + 1, 0, none⟩) (by show w.heap.size ≠ w.heap.size + 1; omega) (.int .i64 0)
    have he5 := (HB2.out.2.2.touch hT5 (by omega)).set 0 (.int .i64 0)
    have hB5 := (below_tch HB2.out.1 hT5 (Nat.le_refl _) HB2.out.1.size).setCell (p := ⟨w.heap.size + 1, 0, none⟩) (Nat.le_succ _) (.int .i64 0)
    have hg5 : GotL w L (.slice la ll lc) ((put7 w2 w.heap.size i vis (.slice la ll lc)).setCell ⟨w.heap.size + 1, 0, none⟩ (.int .i64 0)) := (HG2.out.keep fun q h1 h2 => (Below.heap_setCell _ ⟨w.heap.size + 1, 0, none⟩ _ q (by show q ≠ w.heap.size + 1; omega)).trans (hT5.block q h2 (by omega))).low (by omega)
    unfold put7 put6 at hb5 he5 hB5 hg5
    generalize World.setCell _ _ _ = W7 at *
    have t0 : W7.cell? ⟨w.heap.size, 0, none⟩ = some (.int .i64 i) := hb5.cell 0
    have t1 : W7.cell? ⟨w.heap.size, 1, none⟩ = some (.int .i64 vis.a) := hb5.cell 1
    have t2 : W7.cell? ⟨w.heap.size, 2, none⟩ = some (.int .i64 vis.b) := hb5.cell 2
    have t3 : W7.cell? ⟨w.heap.size, 3, none⟩ = some (.int .i64 vis.c) := hb5.cell 3
    have t4 : W7.cell? ⟨w.heap.size, 4, none⟩ = some (.int .i64 vis.d) := hb5.cell 4
    have t5 : W7.cell? ⟨w.heap.size, 5, none⟩ = some (.int .i64 vis.e) := hb5.cell 5
    have t6 : W7.cell? ⟨w.heap.size + 1, 0, none⟩ = some (.int .i64 0) := he5.cell 0
    have t7 : W7.cell? ⟨w.heap.size, 6, none⟩ = some (.slice la ll lc) := hb5.cell 6
    refine leaves_cons (f := 122) (args := #[bptr (w.heap.size + 1)]) (by simp) (by simp [go_sem]) ?_
    refine (catch_idle_a (w.heap.size + 1) W7).mono ?_
    rintro e u' w'' ⟨rfl, rfl, rfl⟩
    have hpost : Below w.heap.size w w'' ∧ ((P ∧ ∃ lv, (Ending.returned (.tuple #[ansVal i vis (.slice la ll lc), .int .i64 0]) : Ending) = .returned (.tuple #[ansVal i vis lv, .int .i64 0]) ∧ GotL w L lv w'') ∨ (¬ P ∧ (Ending.returned (.tuple #[ansVal i vis (.slice la ll lc), .int .i64 0]) : Ending) = .returned (.tuple #[ansVal 0 noVec (.slice none 0 0), .int .i64 6]))) := ⟨hB5, Or.inl ⟨HD.out, _, rfl, hg5⟩⟩
    clear hg5 HG2
    clear hB5 hb5 he5 hT5 HB2 HD
    simp only [Leaves, settle]
    refine ⟨_, ?_, hpost⟩
    simp [results, Tryz.results79, go_sem, t0, t1, t2, t3, t4, t5, t6, t7]
  · have HD := hide hd
    have HB2 : Hid (Below w.heap.size w w2 ∧ Blk w2 w.heap.size zeroAns 154 ∧ Blk w2 (w.heap.size + 1) [.int .i64 0] 54) := ⟨HS.out.1.trans (hb2.mono HS.out.1.size), HS.out.2.1.below hb2, HS.out.2.2.below hb2⟩
    clear hd hb2 HC HW1 HS
    refine leaves_cons (f := 122) (args := #[bptr (w.heap.size + 1)]) (by simp) (by simp [go_sem]) ?_
    refine (catch_fault_a (w.heap.size + 1) 0 w2 (HB2.out.2.2.cell 0) (HB2.out.2.2.frozen 0)).mono ?_
    rintro e u' w'' ⟨rfl, rfl, hw⟩
    have hlt : w.heap.size + 1 < w2.heap.size := HB2.out.2.2.lt
    have hb5 := (HB2.out.2.1.alloc (.cells #[] 196)).other (p := ⟨w.heap.size + 1, 0, none⟩) (by show w.heap.size ≠ w.heap.size + 1; omega) (.int .i64 6)
    have he5 := (HB2.out.2.2.alloc (.cells #[] 196)).set 0 (.int .i64 6)
    have hB5 := (HB2.out.1.alloc HB2.out.1.size (.cells #[] 196)).setCell (p := ⟨w.heap.size + 1, 0, none⟩) (Nat.le_succ _) (.int .i64 6)
    rw [← hw] at hb5 he5 hB5
    have t0 : w''.cell? ⟨w.heap.size, 0, none⟩ = some (.int .i64 0) := hb5.cell 0
    have t1 : w''.cell? ⟨w.heap.size, 1, none⟩ = some (.int .i64 0) := hb5.cell 1
    have t2 : w''.cell? ⟨w.heap.size, 2, none⟩ = some (.int .i64 0) := hb5.cell 2
    have t3 : w''.cell? ⟨w.heap.size, 3, none⟩ = some (.int .i64 0) := hb5.cell 3
    have t4 : w''.cell? ⟨w.heap.size, 4, none⟩ = some (.int .i64 0) := hb5.cell 4
    have t5 : w''.cell? ⟨w.heap.size, 5, none⟩ = some (.int .i64 0) := hb5.cell 5
    have t6 : w''.cell? ⟨w.heap.size + 1, 0, none⟩ = some (.int .i64 6) := he5.cell 0
    have t7 : w''.cell? ⟨w.heap.size, 6, none⟩ = some (.slice none 0 0) := hb5.cell 6
    have hpost : Below w.heap.size w w'' ∧ ((P ∧ ∃ lv, (Ending.returned (.tuple #[ansVal 0 noVec (.slice none 0 0), .int .i64 6]) : Ending) = .returned (.tuple #[ansVal i vis lv, .int .i64 0]) ∧ GotL w L lv w'') ∨ (¬ P ∧ (Ending.returned (.tuple #[ansVal 0 noVec (.slice none 0 0), .int .i64 6]) : Ending) = .returned (.tuple #[ansVal 0 noVec (.slice none 0 0), .int .i64 6]))) := ⟨hB5, Or.inr ⟨HD.out, rfl⟩⟩
    clear hB5 hb5 he5 HB2 HD hw hlt
    simp only [settle]
    refine ⟨_, ?_, hpost⟩
    simp [results, Tryz.results79, go_sem, t0, t1, t2, t3, t4, t5, t6, t7, noVec]
end Go.Proofs.YtiplgdkpnhamaaaGreatDoor

namespace Go.Proofs.YtiplgdkpnhamaaaGreatDoor
open Go.RowKit Go.Sort
end Go.Proofs.YtiplgdkpnhamaaaGreatDoor

namespace Go.Proofs.YtiplgdkpnhamaaaGreatDoor
open Go.RowKit Go.Sort
structure Wt where
  x : Tr × Nat
  nd : Int
def wtCells (y : Wt) : List Value := [.int .i64 y.x.1.rep, .int .i64 y.x.1.seq, .int .i64 y.x.1.saw.a, .int .i64 y.x.1.saw.b, .int .i64 y.x.1.saw.c, .int .i64 y.x.1.saw.d, .int .i64 y.x.1.saw.e, .map (some y.x.2), .int .i64 y.nd]
abbrev qIface (qb : Nat) : Value := .iface 206 (bptr qb)
theorem wrap_chk (ts : Array TypeId) (ty : TypeId) (a : Addr) (s m : String) (w : World) : (Builtin.ssaWrapNilChk_ ts ty #[.pointer (some a), strVal s, strVal m]).run Tryz.prog w = .ok (.pointer (some a)) w := rfl
theorem m_less : ((Tryz.prog.info? 206).bind (fun i => i.methods.find? (·.name == "Less"))).map (fun m => (m.path, m.func)) = some (#[], some (292, false)) := by kernel_rfl
theorem meth_less (qb : Nat) (w : World) {sv : Value} (hc : w.cell? ⟨qb, 0, none⟩ = some sv) : (method 476 206 (bptr qb) "Less").run Tryz.prog w = .ok (292, sv) w := by
  have hi := m_less
  cases hj : Tryz.prog.info? 206 with
  | none => rw [hj] at hi; cases hi
  | some i =>
    rw [hj] at hi
    simp only [Option.bind_some] at hi
    cases hk : i.methods.find? (·.name == "Less") with
    | none => rw [hk] at hi; cases hi
    | some m =>
      rw [hk] at hi
      simp only [Option.map_some, Option.some.injEq, Prod.mk.injEq] at hi
      unfold method
      simp [typeInfo, hj, hk, hi.1, hi.2, follow, receiverAt, go_sem, Go.Place.get, wrap_chk, hc]
theorem m_len : ((Tryz.prog.info? 206).bind (fun i => i.methods.find? (·.name == "Len"))).map (fun m => (m.path, m.func)) = some (#[], some (128, false)) := by kernel_rfl
theorem meth_len (qb : Nat) (w : World) {sv : Value} (hc : w.cell? ⟨qb, 0, none⟩ = some sv) : (method 476 206 (bptr qb) "Len").run Tryz.prog w = .ok (128, sv) w := by
  have hi := m_len
  cases hj : Tryz.prog.info? 206 with
  | none => rw [hj] at hi; cases hi
  | some i =>
    rw [hj] at hi
    simp only [Option.bind_some] at hi
    cases hk : i.methods.find? (·.name == "Len") with
    | none => rw [hk] at hi; cases hi
    | some m =>
      rw [hk] at hi
      simp only [Option.map_some, Option.some.injEq, Prod.mk.injEq] at hi
      unfold method
      simp [typeInfo, hj, hk, hi.1, hi.2, follow, receiverAt, go_sem, Go.Place.get, wrap_chk, hc]
theorem m_swap : ((Tryz.prog.info? 206).bind (fun i => i.methods.find? (·.name == "Swap"))).map (fun m => (m.path, m.func)) = some (#[], some (295, false)) := by kernel_rfl
theorem meth_swap (qb : Nat) (w : World) {sv : Value} (hc : w.cell? ⟨qb, 0, none⟩ = some sv) : (method 476 206 (bptr qb) "Swap").run Tryz.prog w = .ok (295, sv) w := by
  have hi := m_swap
  cases hj : Tryz.prog.info? 206 with
  | none => rw [hj] at hi; cases hi
  | some i =>
    rw [hj] at hi
    simp only [Option.bind_some] at hi
    cases hk : i.methods.find? (·.name == "Swap") with
    | none => rw [hk] at hi; cases hi
    | some m =>
      rw [hk] at hi
      simp only [Option.map_some, Option.some.injEq, Prod.mk.injEq] at hi
      unfold method
      simp [typeInfo, hj, hk, hi.1, hi.2, follow, receiverAt, go_sem, Go.Place.get, wrap_chk, hc]
theorem meth_push (qb : Nat) (w : World) : (method 476 206 (bptr qb) "Push").run Tryz.prog w = .ok (294, bptr qb) w := by kernel_rfl
theorem meth_pop (qb : Nat) (w : World) : (method 476 206 (bptr qb) "Pop").run Tryz.prog w = .ok (293, bptr qb) w := by kernel_rfl
end Go.Proofs.YtiplgdkpnhamaaaGreatDoor

namespace Go.Proofs.YtiplgdkpnhamaaaGreatDoor
open Go.RowKit Go.Sort
abbrev Wt.dot (y : Wt) : Dot := y.x.1.dot
def wLt (a b : Wt) : Bool := if a.nd = b.nd then decide (dotLt a.dot b.dot) else decide (a.nd < b.nd)
abbrev QRow (B : Nat) (w : World) (sv : Value) (l : List Wt) : Prop := w.ownsRow B 213 9 sv l.length (l.flatMap wtCells)
theorem wt_cell {B : Nat} {w : World} {g cap : Nat} {l : List Wt} (hr : QRow B w (.slice (some ⟨g, 0, none⟩) l.length cap) l) {k : Nat} (hk : k < l.length) {j : Nat} (hj : j < 9) : w.cell? ⟨g, k * 9 + j, none⟩ = (wtCells l[k])[j]? := by
  have h1 := World.ownsRow.cellAt hr (k * 9 + j) (by omega)
  rw [flat_get wtCells 9 (fun _ => rfl) l k j hk hj] at h1
  exact h1
theorem wt_frozen {B : Nat} {w : World} {g cap : Nat} {l : List Wt} (hr : QRow B w (.slice (some ⟨g, 0, none⟩) l.length cap) l) (j : Nat) : w.frozen? ⟨g, j, none⟩ = false := World.ownsRow.frozenAt hr j
set_option maxRecDepth 100000 in
theorem q_len (w : World) (a : Option Addr) (n c : Nat) : Calls Tryz.prog 128 #[.slice a n c] w fun e w' => e = .returned (.int .i64 n) ∧ w' = w := by
  go_enter Tryz.func128, Tryz.ntmps128
  go_wp2_with fail
  go_ret
  exact ⟨rfl, rfl⟩
set_option maxRecDepth 100000 in
set_option maxHeartbeats 8000000 in
theorem q_less (B : Nat) (w : World) (g cap : Nat) (l : List Wt) (hr : QRow B w (.slice (some ⟨g, 0, none⟩) l.length cap) l) (hl : l.length ≤ 100000000) {i j : Nat} (hi : i < l.length) (hj : j < l.length) :
    Calls Tryz.prog 292 #[.slice (some ⟨g, 0, none⟩) l.length cap, .int .i64 i, .int .i64 j] w fun e w' => e = .returned (.bool (wLt l[i] l[j])) ∧ Below w.heap.size w w' := by
  have a0 := Bel.cell (show w.cell? ⟨g, i * 9, none⟩ = some (.int .i64 l[i].x.1.rep) from wt_cell hr hi (j := 0) (by omega))
  have a1 := Bel.cell (show w.cell? ⟨g, i * 9 + 1, none⟩ = some (.int .i64 l[i].x.1.seq) from wt_cell hr hi (j := 1) (by omega))
  have a8 := Bel.cell (show w.cell? ⟨g, i * 9 + 8, none⟩ = some (.int .i64 l[i].nd) from wt_cell hr hi (j := 8) (by omega))
  have b0 := Bel.cell (show w.cell? ⟨g, j * 9, none⟩ = some (.int .i64 l[j].x.1.rep) from wt_cell hr hj (j := 0) (by omega))
  have b1 := Bel.cell (show w.cell? ⟨g, j * 9 + 1, none⟩ = some (.int .i64 l[j].x.1.seq) from wt_cell hr hj (j := 1) (by omega))
  have b8 := Bel.cell (show w.cell? ⟨g, j * 9 + 8, none⟩ = some (.int .i64 l[j].nd) from wt_cell hr hj (j := 8) (by omega))
  have hlt : wLt l[i] l[j] = if l[i].nd = l[j].nd then decide (cmpDot l[i].dot l[j].dot < 0) else decide (l[i].nd < l[j].nd) := by
    unfold wLt
    have := cmpDot_lt l[i].dot l[j].dot
    unfold ltOf at this
    rw [this]
  have hio : ∀ f : Fam (Bel w), Calls Tryz.prog 182 #[.agg #[.int .i64 l[i].x.1.rep, .int .i64 l[i].x.1.seq], .agg #[.int .i64 l[j].x.1.rep, .int .i64 l[j].x.1.seq]] f.w fun e w'' => e = .returned (.int .i64 (cmpDot l[i].dot l[j].dot)) ∧ ∃ g : Fam (Bel w), w'' = g.w := fun f => Bel.call f ((inorder_any l[i].dot l[j].dot f.w).mono fun e w'' ⟨h1, h2⟩ => ⟨h1, h2.below⟩)
  rw [hlt]
  generalize cmpDot l[i].dot l[j].dot = cc at *
  generalize l[i].nd = x at *
  generalize l[j].nd = y at *
  generalize l[i].x.1.rep = ri at *
  generalize l[i].x.1.seq = si at *
  generalize l[j].x.1.rep = rj at *
  generalize l[j].x.1.seq = sj at *
  have HIO := hide hio
  obtain ⟨n, hn⟩ : ∃ n, l.length = n := ⟨_, rfl⟩
  rw [hn]
  have hi' : i < n := by omega
  have hj' : j < n := by omega
  have hl' : n ≤ 100000000 := by omega
  clear hr hlt hio hi hj hl hn
  by_cases hxy : x = y
  · subst hxy
    rw [if_pos rfl]
    go_enter Tryz.func292, Tryz.ntmps292
    go_upto_region 1 with (fail)
    refine region_fam (Bel w) (by kernel_rfl) (by kernel_rfl) (Below.refl _ _).drew ?_
    repeat (go_big_quiet_step (fail))
    refine wpQuiet_nil ?_
    intro _ hw'
    obtain ⟨f1, rfl⟩ := hw'
    go_upto_region 3 with (fail)
    refine region_fam (Bel w) (by kernel_rfl) (by kernel_rfl) (show Below _ _ _ from f1.ok).drew ?_
    repeat (go_big_quiet_step (first | (go_at_call 182; exact HIO.out _)))
    refine wpQuiet_nil ?_
    intro _ hw'
    obtain ⟨f2, rfl⟩ := hw'
    go_wp2_with fail
    go_ret
    exact ⟨rfl, f2.ok⟩
  · rw [if_neg hxy]
    have hq : (x == y) = false := beq_false_of_ne hxy
    go_enter Tryz.func292, Tryz.ntmps292
    go_upto_region 1 with (fail)
    refine region_fam (Bel w) (by kernel_rfl) (by kernel_rfl) (Below.refl _ _).drew ?_
    repeat (go_big_quiet_step (fail))
    refine wpQuiet_nil ?_
    intro _ hw'
    obtain ⟨f1, rfl⟩ := hw'
    go_upto_region 2 with (fail)
    refine region_fam (Bel w) (by kernel_rfl) (by kernel_rfl) (show Below _ _ _ from f1.ok).drew ?_
    repeat (go_big_quiet_step (fail))
    refine wpQuiet_nil ?_
    intro _ hw'
    obtain ⟨f2, rfl⟩ := hw'
    go_wp2_with fail
    go_ret
    exact ⟨rfl, f2.ok⟩
end Go.Proofs.YtiplgdkpnhamaaaGreatDoor

namespace Go.Proofs.YtiplgdkpnhamaaaGreatDoor
open Go.RowKit Go.Sort
def put9L (xs : List Value) (n : Nat) (y : Wt) : List Value := ((((((((xs.set n (.int .i64 y.x.1.rep)).set (n + 1) (.int .i64 y.x.1.seq)).set (n + 2) (.int .i64 y.x.1.saw.a)).set (n + 3) (.int .i64 y.x.1.saw.b)).set (n + 4) (.int .i64 y.x.1.saw.c)).set (n + 5) (.int .i64 y.x.1.saw.d)).set (n + 6) (.int .i64 y.x.1.saw.e)).set (n + 7) (.map (some y.x.2))).set (n + 8) (.int .i64 y.nd)
theorem put9_app (cs bs : List Value) (n : Nat) (y : Wt) (h : cs.length = 9) : put9L (cs ++ bs) (9 + n) y = cs ++ put9L bs n y := by
  unfold put9L
  have e : ∀ (xs : List Value) (j : Nat) (v : Value), (cs ++ xs).set (9 + n + j) v = cs ++ xs.set (n + j) v := fun xs j v => by
    rw [List.set_append_right _ _ (by omega), h]; congr 2; omega
  have e0 : ∀ (xs : List Value) (v : Value), (cs ++ xs).set (9 + n) v = cs ++ xs.set n v := fun xs v => e xs 0 v
  rw [e0, e, e, e, e, e, e, e, e]
theorem wt_put : ∀ (l : List Wt) (k : Nat) (_ : k < l.length) (y : Wt), put9L (l.flatMap wtCells) (k * 9) y = (l.set k y).flatMap wtCells
  | [], _, hk, _ => by simp at hk
  | a :: l, 0, _, y => by
    rw [List.set_cons_zero, List.flatMap_cons, List.flatMap_cons]
    rfl
  | a :: l, k + 1, hk, y => by
    rw [List.set_cons_succ, List.flatMap_cons, List.flatMap_cons, ← wt_put l k (by simpa using hk) y, show (k + 1) * 9 = 9 + k * 9 by omega]
    exact put9_app _ _ _ y rfl
abbrev put9 (w : World) (g n : Nat) (y : Wt) : World := ((((((((w.setCell ⟨g, n, none⟩ (.int .i64 y.x.1.rep)).setCell ⟨g, n + 1, none⟩ (.int .i64 y.x.1.seq)).setCell ⟨g, n + 2, none⟩ (.int .i64 y.x.1.saw.a)).setCell ⟨g, n + 3, none⟩ (.int .i64 y.x.1.saw.b)).setCell ⟨g, n + 4, none⟩ (.int .i64 y.x.1.saw.c)).setCell ⟨g, n + 5, none⟩ (.int .i64 y.x.1.saw.d)).setCell ⟨g, n + 6, none⟩ (.int .i64 y.x.1.saw.e)).setCell ⟨g, n + 7, none⟩ (.map (some y.x.2))).setCell ⟨g, n + 8, none⟩ (.int .i64 y.nd)
theorem put9_row {B : Nat} {w : World} {g cap : Nat} {l : List Wt} (hr : QRow B w (.slice (some ⟨g, 0, none⟩) l.length cap) l) {k : Nat} (hk : k < l.length) (y : Wt) : QRow B (put9 w g (k * 9) y) (.slice (some ⟨g, 0, none⟩) (l.set k y).length cap) (l.set k y) := by
  have a0 := (World.ownsRow.stored hr (k * 9) (.int .i64 y.x.1.rep)).1
  have a1 := (World.ownsRow.stored a0 (k * 9 + 1) (.int .i64 y.x.1.seq)).1
  have a2 := (World.ownsRow.stored a1 (k * 9 + 2) (.int .i64 y.x.1.saw.a)).1
  have a3 := (World.ownsRow.stored a2 (k * 9 + 3) (.int .i64 y.x.1.saw.b)).1
  have a4 := (World.ownsRow.stored a3 (k * 9 + 4) (.int .i64 y.x.1.saw.c)).1
  have a5 := (World.ownsRow.stored a4 (k * 9 + 5) (.int .i64 y.x.1.saw.d)).1
  have a6 := (World.ownsRow.stored a5 (k * 9 + 6) (.int .i64 y.x.1.saw.e)).1
  have a7 := (World.ownsRow.stored a6 (k * 9 + 7) (.map (some y.x.2))).1
  have a8 := (World.ownsRow.stored a7 (k * 9 + 8) (.int .i64 y.nd)).1
  have e := wt_put l k hk y
  unfold put9L at e
  rw [e] at a8
  have hl : (l.set k y).length = l.length := by simp
  show World.ownsRow _ _ _ _ (.slice _ (l.set k y).length _) (l.set k y).length _
  rw [hl]
  exact a8
theorem put9_touch (w : World) (g n : Nat) (y : Wt) : Touch (fun q => q = g) w (put9 w g n y) :=
  (((((((((Touch.refl (fun q => q = g) w).setCell (p := ⟨g, n, none⟩) (Or.inl rfl) _).setCell (p := ⟨g, n + 1, none⟩) (Or.inl rfl) _).setCell (p := ⟨g, n + 2, none⟩) (Or.inl rfl) _).setCell (p := ⟨g, n + 3, none⟩) (Or.inl rfl) _).setCell (p := ⟨g, n + 4, none⟩) (Or.inl rfl) _).setCell (p := ⟨g, n + 5, none⟩) (Or.inl rfl) _).setCell (p := ⟨g, n + 6, none⟩) (Or.inl rfl) _).setCell (p := ⟨g, n + 7, none⟩) (Or.inl rfl) _).setCell (p := ⟨g, n + 8, none⟩) (Or.inl rfl) _
def swapL (l : List Wt) (i j : Nat) (hi : i < l.length) (hj : j < l.length) : List Wt := (l.set i l[j]).set j l[i]
set_option maxRecDepth 100000 in
set_option maxHeartbeats 16000000 in
theorem q_swap (B : Nat) (w : World) (g cap : Nat) (l : List Wt) (hr : QRow B w (.slice (some ⟨g, 0, none⟩) l.length cap) l) (hl : l.length ≤ 100000000) {i j : Nat} (hi : i < l.length) (hj : j < l.length) (hij : i ≠ j) :
    Calls Tryz.prog 295 #[.slice (some ⟨g, 0, none⟩) l.length cap, .int .i64 i, .int .i64 j] w fun e w' => e = .returned (.tuple #[]) ∧ QRow B w' (.slice (some ⟨g, 0, none⟩) (swapL l i j hi hj).length cap) (swapL l i j hi hj) ∧ Touch (fun q => q = g) w w' := by
  have hlt : g < w.heap.size := (hr.lt g rfl).2
  have hp1 := put9_row hr hi l[j]
  have hp2 := put9_row hp1 (k := j) (by simpa using hj) l[i]
  have hT := ((put9_touch w g (i * 9) l[j]).trans ((put9_touch (put9 w g (i * 9) l[j]) g (j * 9) l[i]).mono fun q _ e => Or.inl e)).drew
  have hp3 : QRow B (put9 (put9 w g (i * 9) l[j]) g (j * 9) l[i]).drew (.slice (some ⟨g, 0, none⟩) (swapL l i j hi hj).length cap) (swapL l i j hi hj) := ownsRow_below hp2 (Below.refl _ _).drew
  have ca := fun (m : Nat) (hm : m < 9) => wt_cell hr hi hm
  have cb := fun (m : Nat) (hm : m < 9) => wt_cell hr hj hm
  have fz := fun (m : Nat) => wt_frozen hr m
  generalize hx : l[i] = x at *
  generalize hy : l[j] = y at *
  obtain ⟨⟨⟨xr, xs, xw, xm⟩, xb⟩, xn⟩ := x
  obtain ⟨⟨⟨yr, ys, yw, ym⟩, yb⟩, yn⟩ := y
  have x0 : w.cell? ⟨g, i * 9, none⟩ = some (.int .i64 xr) := ca 0 (by omega)
  have fx0 : w.frozen? ⟨g, i * 9, none⟩ = false := fz _
  have x1 : w.cell? ⟨g, i * 9 + 1, none⟩ = some (.int .i64 xs) := ca 1 (by omega)
  have fx1 : w.frozen? ⟨g, i * 9 + 1, none⟩ = false := fz _
  have x2 : w.cell? ⟨g, i * 9 + 2, none⟩ = some (.int .i64 xw.a) := ca 2 (by omega)
  have fx2 : w.frozen? ⟨g, i * 9 + 2, none⟩ = false := fz _
  have x3 : w.cell? ⟨g, i * 9 + 3, none⟩ = some (.int .i64 xw.b) := ca 3 (by omega)
  have fx3 : w.frozen? ⟨g, i * 9 + 3, none⟩ = false := fz _
  have x4 : w.cell? ⟨g, i * 9 + 4, none⟩ = some (.int .i64 xw.c) := ca 4 (by omega)
  have fx4 : w.frozen? ⟨g, i * 9 + 4, none⟩ = false := fz _
  have x5 : w.cell? ⟨g, i * 9 + 5, none⟩ = some (.int .i64 xw.d) := ca 5 (by omega)
  have fx5 : w.frozen? ⟨g, i * 9 + 5, none⟩ = false := fz _
  have x6 : w.cell? ⟨g, i * 9 + 6, none⟩ = some (.int .i64 xw.e) := ca 6 (by omega)
  have fx6 : w.frozen? ⟨g, i * 9 + 6, none⟩ = false := fz _
  have x7 : w.cell? ⟨g, i * 9 + 7, none⟩ = some (.map (some xb)) := ca 7 (by omega)
  have fx7 : w.frozen? ⟨g, i * 9 + 7, none⟩ = false := fz _
  have x8 : w.cell? ⟨g, i * 9 + 8, none⟩ = some (.int .i64 xn) := ca 8 (by omega)
  have fx8 : w.frozen? ⟨g, i * 9 + 8, none⟩ = false := fz _
  have y0 : w.cell? ⟨g, j * 9, none⟩ = some (.int .i64 yr) := cb 0 (by omega)
  have fy0 : w.frozen? ⟨g, j * 9, none⟩ = false := fz _
  have y1 : w.cell? ⟨g, j * 9 + 1, none⟩ = some (.int .i64 ys) := cb 1 (by omega)
  have fy1 : w.frozen? ⟨g, j * 9 + 1, none⟩ = false := fz _
  have y2 : w.cell? ⟨g, j * 9 + 2, none⟩ = some (.int .i64 yw.a) := cb 2 (by omega)
  have fy2 : w.frozen? ⟨g, j * 9 + 2, none⟩ = false := fz _
  have y3 : w.cell? ⟨g, j * 9 + 3, none⟩ = some (.int .i64 yw.b) := cb 3 (by omega)
  have fy3 : w.frozen? ⟨g, j * 9 + 3, none⟩ = false := fz _
  have y4 : w.cell? ⟨g, j * 9 + 4, none⟩ = some (.int .i64 yw.c) := cb 4 (by omega)
  have fy4 : w.frozen? ⟨g, j * 9 + 4, none⟩ = false := fz _
  have y5 : w.cell? ⟨g, j * 9 + 5, none⟩ = some (.int .i64 yw.d) := cb 5 (by omega)
  have fy5 : w.frozen? ⟨g, j * 9 + 5, none⟩ = false := fz _
  have y6 : w.cell? ⟨g, j * 9 + 6, none⟩ = some (.int .i64 yw.e) := cb 6 (by omega)
  have fy6 : w.frozen? ⟨g, j * 9 + 6, none⟩ = false := fz _
  have y7 : w.cell? ⟨g, j * 9 + 7, none⟩ = some (.map (some yb)) := cb 7 (by omega)
  have fy7 : w.frozen? ⟨g, j * 9 + 7, none⟩ = false := fz _
  have y8 : w.cell? ⟨g, j * 9 + 8, none⟩ = some (.int .i64 yn) := cb 8 (by omega)
  have fy8 : w.frozen? ⟨g, j * 9 + 8, none⟩ = false := fz _
  have HP := hide (⟨hp3, hT⟩ : _ ∧ _)
  obtain ⟨n, hn⟩ : ∃ n, l.length = n := ⟨_, rfl⟩
  rw [hn]
  have hi' : i < n := by omega
  have hj' : j < n := by omega
  have hl' : n ≤ 100000000 := by omega
  clear hp1 hp2 hp3 hT ca cb fz hx hy hr hn
  have ne : ∀ a b : Nat, a < 9 → b < 9 → ¬ i * 9 + a = j * 9 + b := fun a b ha hb e => by omega
  go_enter Tryz.func295, Tryz.ntmps295
  go_upto_region 0 with (fail)
  go_region
  obtain ⟨hp3, hT⟩ := HP.out
  go_end0
  exact ⟨rfl, hp3, hT⟩
end Go.Proofs.YtiplgdkpnhamaaaGreatDoor
