/- The texts QG2, QG3, QC1, QV1, QC2, QC3, QC4, joined. -/
import Derived.Test.YtiplgdkpnhamaaaGreatDoorK44

namespace Go.Proofs.YtiplgdkpnhamaaaGreatDoor.Tv
open Go.RowKit
theorem Tryz.infoPQ : (Tryz.prog.info? 45).map (fun i => (i.zero, i.size, i.bytes)) = some (some (.pointer none), 1, 8) := by kernel_rfl
def tg1 : Nat → Tag := fun i => (1, i, 0)
def tg2 : Nat → Tag := fun i => (2, i, 0)
def nz : Tag → Prop := fun t => t ≠ (0, 0, 0)
def rsL (B : Nat → Nat) (j : Nat) : List Value := (List.range j).map fun i => bptr (B i)
structure GrpIn (w : World) (o : Nat → Tag) (gb : Nat) (rv lv : Value) (B : Nat → Nat) (j : Nat) : Prop where
  blk : Bl w o (3, 0, 0) gb [rv, lv] 43
  row : Pc w o (4, 0, 0) 45 1 rv j (rsL B j)
section
variable {w w' : World} {o o' : Nat → Tag} {gb : Nat} {rv lv : Value} {B : Nat → Nat} {j n : Nat}
theorem GrpIn.touch {A : Tag → Prop} (h : GrpIn w o gb rv lv B j) (k : TouchT A w o w' o') (h1 : ¬ A (3, 0, 0)) (h2 : ¬ A (4, 0, 0)) : GrpIn w' o' gb rv lv B j := ⟨h.blk.touch k h1, h.row.touch k h2⟩
theorem rsL_snoc (B : Nat → Nat) (j b : Nat) : rsL (put B j b) (j + 1) = rsL B j ++ [bptr b] := by
  unfold rsL
  rw [List.range_succ, List.map_append]
  congr 1
  · refine List.map_congr_left fun i hi => ?_
    have := List.mem_range.1 hi
    rw [put_other (by omega)]
  · simp [put_same]
structure MkAt (n j : Nat) (w0 w : World) (o : Nat → Tag) (gb : Nat) (rv : Value) (B : Nat → Nat) : Prop where
  made : MadeAt n j w o tg1 B
  grp : GrpIn w o gb rv (.slice none 0 0) B j
  at0 : TouchT nz w0 (fun _ => (0, 0, 0)) w o
  room : 6 ≤ w0.heap.size
theorem at0_low {w0 : World} (h : TouchT nz w0 (fun _ => (0, 0, 0)) w o) (hr : 6 ≤ w0.heap.size) {q : Nat} (hq : q < 6) : o q = (0, 0, 0) := h.same q (by omega)
theorem at0_below {w0 : World} (h : TouchT nz w0 (fun _ => (0, 0, 0)) w o) : Below w0.heap.size w0 w := (h.touch.mono fun _ _ e => e rfl).below
theorem MkAt.first {w0 : World} (ht : Tabs w0) : MkAt n 0 w0 (w0.alloc (.cells #[.slice none 0 0, .slice none 0 0] 43)) (upd (fun _ => (0, 0, 0)) w0.heap.size (3, 0, 0)) w0.heap.size (.slice none 0 0) (fun _ => 0) := by
  have hr := ht.room
  have hb : Below w0.heap.size w0 (w0.alloc (.cells #[.slice none 0 0, .slice none 0 0] 43)) := (Below.refl _ _).alloc (Nat.le_refl _) _
  refine ⟨⟨fun i k e => by simpa [tg1] using e, fun i hi => absurd hi (Nat.not_lt_zero _), ht.later hb, fun q hq i => ?_⟩, ⟨?_, ⟨World.ownsRow_nil _ _ _ _, fun q hq => by simp [Value.ownBlock] at hq⟩⟩, ⟨Touch.ofBelow hb, fun q hq => upd_other (by omega)⟩, hr⟩
  · rw [upd_other (by omega)]; simp [tg1]
  · exact ⟨heap_alloc_new w0 _, upd_same _ _ _⟩
theorem MkAt.next {w0 wr W6 w7 : World} {b : Nat} {v7 : Value} (h : MkAt n j w0 wr o gb rv B) (hB : Below wr.heap.size wr W6) (hp : PR newX W6 (own2 o wr.heap.size fun _ => tg1 j) (tg1 j) b n j (newD n)) (hrow : w7.ownsRow 0 45 1 v7 (j + 1) (rsL B j ++ [bptr b])) (hg : W6.grownBy w7 rv.ownBlock) (hat : v7.ownBlock = rv.ownBlock ∨ v7.ownBlock = some W6.heap.size) : ∃ o', MkAt n (j + 1) w0 (w7.setCell ⟨gb, 0, none⟩ v7) o' gb v7 (put B j b) := by
  have hr := h.room
  have m6 := h.made.next hB hp
  have b6 : Bl W6 (own2 o wr.heap.size fun _ => tg1 j) (3, 0, 0) gb [rv, .slice none 0 0] 43 := h.grp.blk.move2 fun q hq e => ⟨hB.block q hq, (own2_low hq).trans e⟩
  have r6 : Pc W6 (own2 o wr.heap.size fun _ => tg1 j) (4, 0, 0) 45 1 rv j (rsL B j) := h.grp.row.move2 fun q hq e => ⟨hB.block q hq, (own2_low hq).trans e⟩
  have t6 := h.at0.belowNew hB fun _ => tg1 j
  generalize (own2 o wr.heap.size fun _ => tg1 j) = o6 at *
  have b7 := b6.grew hg r6.tag (by simp)
  have r7 := r6.app hrow hat
  have t7 := t6.grew hg r6.tag (by simp [nz])
  have m7 : MadeAt n (j + 1) w7 (upd o6 W6.heap.size (4, 0, 0)) tg1 (put B j b) := m6.move fun q hq e => ⟨hg.block q hq (fun c => by
    have h1 := r6.tag q c.symm
    rcases e with e | ⟨i, e⟩
    · rw [at0_low t6 hr e] at h1; simp at h1
    · rw [e] at h1; simp [tg1] at h1), upd_other (by omega)⟩
  generalize (upd o6 W6.heap.size (4, 0, 0)) = o7 at *
  have hgb : o7 gb = (3, 0, 0) := b7.tag
  have r8 := r7.set (p := ⟨gb, 0, none⟩) hgb (by simp) v7
  rw [← rsL_snoc] at r8
  refine ⟨o7, m7.move fun q hq e => ⟨Below.heap_setCell _ _ _ _ (fun c => ?_), rfl⟩, ⟨b7.set 0 v7, r8⟩, t7.set (p := ⟨gb, 0, none⟩) (by rw [hgb]; simp [nz]) v7, hr⟩
  have c' : q = gb := c
  subst c'
  rcases e with e | ⟨i, e⟩
  · rw [at0_low t7 hr e] at hgb; simp at hgb
  · rw [e] at hgb; simp [tg1] at hgb
structure Side (n : Nat) (w0 : World) (gb : Nat) (rv : Value) (B : Nat → Nat) (w : World) (o : Nat → Tag) : Prop where
  gn : Gn n w o tg1 B [] (fun _ => []) (fun _ => none)
  grp : GrpIn w o gb rv (.slice none 0 0) B n
  at0 : TouchT nz w0 (fun _ => (0, 0, 0)) w o
  room : 6 ≤ w0.heap.size
  tabs : Tabs w
  net : Net n w o tg1 B [] (fun _ => newD n) (fun _ => newX)
theorem MkAt.side {w0 : World} (h : MkAt n n w0 w o gb rv B) (hn : n ≤ 5) : Side n w0 gb rv B w o := ⟨h.made.gn hn, h.grp, h.at0, h.room, h.made.tabs, h.made.net hn⟩
theorem Side.touch {w0 : World} {A : Tag → Prop} (h : Side n w0 gb rv B w o) (k : TouchT A w o w' o') (hA : ∀ t, A t → ∃ i, t = tg2 i) : Side n w0 gb rv B w' o' := by
  have hr := h.room
  have n1 : ∀ i, ¬ A (tg1 i) := fun i c => by obtain ⟨x, e⟩ := hA _ c; simp [tg1, tg2] at e
  have n2 : ¬ A (3, 0, 0) := fun c => by obtain ⟨x, e⟩ := hA _ c; simp [tg2] at e
  have n3 : ¬ A (4, 0, 0) := fun c => by obtain ⟨x, e⟩ := hA _ c; simp [tg2] at e
  have n4 : ∀ q, q < 6 → ¬ A (o q) := fun q hq c => by rw [at0_low h.at0 hr hq] at c; obtain ⟨x, e⟩ := hA _ c; simp [tg2] at e
  exact ⟨h.gn.beside k (fun i _ => n1 i) n4, h.grp.touch k n2 n3, h.at0.trans (k.mono fun t ht => by obtain ⟨x, e⟩ := hA _ ht; rw [e]; simp [nz, tg2]), hr, h.tabs.kept fun q hq => k.touch.block q (by have := h.tabs.room; omega) (n4 q hq), h.net.beside k (fun i _ => n1 i) n4⟩
theorem Side.new {w0 : World} (h : Side n w0 gb rv B w o) (hB : Below w.heap.size w w') (t : Tag) : Side n w0 gb rv B w' (own2 o w.heap.size fun _ => t) :=
  h.touch (A := fun _ => False) ⟨Touch.ofBelow hB, fun _ hq => own2_low hq⟩ fun _ c => c.elim
theorem Side.two {w0 : World} (h : Side n w0 gb rv B w o) : MadeAt 2 0 w o tg2 (fun _ => 0) :=
  ⟨fun i k e => by simpa [tg2] using e, fun i hi => absurd hi (Nat.not_lt_zero _), h.tabs, fun q hq i => by rw [at0_low h.at0 h.room hq]; simp [tg2]⟩
structure Two (n : Nat) (w0 : World) (gb : Nat) (rv : Value) (B B2 : Nat → Nat) (ts : List RTx) (H : Nat → List RTx) (O : Nat → Option (List ROp)) (w : World) (o : Nat → Tag) : Prop where
  gn : Gn 2 w o tg2 B2 ts H O
  side : Side n w0 gb rv B w o
theorem Two.out {w0 : World} {B2 : Nat → Nat} {ts ts' : List RTx} {H H' : Nat → List RTx} {O O' : Nat → Option (List ROp)} (h : Two n w0 gb rv B B2 ts H O w o) (h1 : Gn 2 w' o' tg2 B2 ts' H' O') (h2 : TouchT (grp 2 tg2) w o w' o') : Two n w0 gb rv B B2 ts' H' O' w' o' :=
  ⟨h1, h.side.touch h2 fun _ ⟨i, _, e⟩ => ⟨i, e⟩⟩
theorem Two.below {w0 : World} {B2 : Nat → Nat} {ts : List RTx} {H : Nat → List RTx} {O : Nat → Option (List ROp)} (h : Two n w0 gb rv B B2 ts H O w o) (hB : Below w.heap.size w w') (t : Tag) : Two n w0 gb rv B B2 ts H O w' (own2 o w.heap.size fun _ => t) :=
  ⟨h.gn.move fun q hq _ => ⟨hB.block q hq, own2_low hq⟩, h.side.new hB t⟩
end
def MadeEnd (n : Nat) (w : World) (e : Ending) (w' : World) : Prop :=
  ∃ gb rv B o, e = .returned (bptr gb) ∧ Gn n w' o tg1 B [] (fun _ => []) (fun _ => none) ∧ GrpIn w' o gb rv (.slice none 0 0) B n ∧ TouchT nz w (fun _ => (0, 0, 0)) w' o ∧ Net n w' o tg1 B [] (fun _ => newD n) (fun _ => newX)
end Go.Proofs.YtiplgdkpnhamaaaGreatDoor.Tv

namespace Go.Proofs.YtiplgdkpnhamaaaGreatDoor.Tv
open Go.RowKit
def wHere : ByteArray := ⟨#[104, 101, 114, 101]⟩
def mU : RTx := mkT 2 0 [] [opIns wHere]
theorem made_does : doesErr (some ⟨0, 0, visOf 2 [], []⟩) (opIns wHere) = 0 := by kernel_rfl
theorem made_goes : wGo 2 [mU] [] mU = true := by kernel_rfl
theorem made_told : readAns (some ⟨0, 0, visOf 2 [mU], []⟩) wS [mU] 2 = (0, [wHere], 0) := of_decide_eq_true (by kernel_rfl)
theorem fits_in {k n : Nat} (h : k < n) (hn : n ≤ 5) : fitsB k n = true := by simp only [fitsB, decide_eq_true_eq]; omega
set_option maxRecDepth 100000 in
set_option maxHeartbeats 4000000 in
theorem made_any {w : World} (ht : Tabs w) (c : Int) (hc : -9223372036854775808 ≤ c) (hc' : c ≤ 9223372036854775807) :
    Calls Tryz.prog 20 #[.int .i64 c] w (MadeEnd (2 + pickOf c 4) w) := by
  obtain ⟨i0, hi, hz0, hz1, hz2⟩ := info_parts Tryz.infoPQ
  have HI := hide (⟨hi, hz0, hz1, hz2⟩ : _ ∧ _ ∧ _ ∧ _)
  clear hi hz0 hz1 hz2
  have hp := kpick_any c 4 w (by omega) (by omega) hc hc'
  have hlt := pickOf_lt c 4 (by omega)
  generalize pickOf c 4 = k at hp hlt ⊢
  have H0 := hide (MkAt.first (n := 2 + k) ht)
  have HP := hide hp
  clear hp ht hc hc'
  go_enter Tryz.func20, Tryz.ntmps20
  go_wp2_with (go_at_call 29; refine HP.out.mono ?_; rintro e w1 ⟨rfl, rfl⟩)
  have e2 : (2 : Int) + (k : Int) = ((2 + k : Nat) : Int) := by omega
  rw [e2]
  clear e2 HP
  generalize hn : 2 + k = n at *
  have hn2 : 2 ≤ n := by omega
  have hn5 : n ≤ 5 := by omega
  clear hn hlt
  generalize (upd (fun _ => ((0, 0, 0) : Tag)) w1.heap.size (3, 0, 0)) = oo at *
  generalize (w1.alloc (.cells #[.slice none 0 0, .slice none 0 0] 43)) = W0 at *
  generalize w1.heap.size = gb at *
  go_loopw [4] (fun i wr => ∃ (j : Nat) (o : Nat → Tag) (rv : Value) (B : Nat → Nat), j ≤ n ∧ i = .int .i64 j ∧ Hid (MkAt n j w1 wr o gb rv B)) (fun i _ => n - (intOf i).toNat)
  case atStart => exact ⟨0, oo, _, _, by omega, rfl, H0.out⟩
  case round =>
    clear H0
    obtain ⟨j, o, rv, B, hj, rfl, HM⟩ := hrel
    by_cases hjn : j < n
    · go_wp2_with fail
      refine (new_ok wr j n (fits_in hjn hn5)).mono ?_
      rintro e w2 ⟨b, rfl, hB1, hnew⟩
      have HPR := hide (hnew o (tg1 j))
      have HB1 := hide hB1
      clear hnew hB1
      go_wp2_with fail
      obtain ⟨p, -, hp⟩ := HPR.out
      refine (visible_call hp).mono ?_
      rintro e w3 ⟨lv, rfl, hrow, hB2⟩
      have hvl : (newD n).vis.length = n := by simp [newD]
      rw [hvl] at hrow
      obtain ⟨g, cap, rfl, -, -, hg, hcell, -⟩ := Row.pos (ownsRow_low hrow (Nat.zero_le _)) (by omega)
      have z1 : w3.cell? ⟨g, j, none⟩ = some (.int .i64 0) := by
        rw [hcell j (by omega), ints_get _ _ (by rw [hvl]; exact hjn)]
        simp [newD]
      have HB2 := hide hB2
      clear hp hrow hcell hvl hB2
      obtain ⟨ro, rcap, er, -⟩ := HM.out.grp.row.row.shape
      subst er
      have hB3 : Hid (Below wr.heap.size wr w3) := HB1.out.trans (HB2.out.mono HB1.out.size)
      have b3 := HM.out.grp.blk.blk.below hB3.out
      have c0 : w3.cell? ⟨gb, 0, none⟩ = some (.slice ro j rcap) := b3.cell 0
      have hgl := b3.lt
      clear b3
      go_wp2_with (at_builtin; refine wpList_append_own_at _ rfl _ _ 40 rfl 0 45 i0 (.pointer none) 1 8 Tryz.underlying40 HI.out.1 HI.out.2.1 HI.out.2.2.1 HI.out.2.2.2 rfl (by decide) _ _ _ rfl (World.ownsRow.alloc (HM.out.grp.row.row.below hB3.out) _) ⟨w3.heap.size, 0, none⟩ 1 1 [bptr b] rfl rfl (cell_one_new _ _ _) (by intro u hu; simp at hu; subst hu; rfl) (by unfold maxLen; omega) (by omega) (Nat.zero_le _) ?_; intro v4 w4 hown hgrow hnil hat; obtain ⟨g1, cap1, rfl, -, -, -, -, -⟩ := Row.pos hown (by omega); have hb4 := ((HM.out.grp.blk.below hB3.out).alloc (.cells #[bptr b] 45)).grew hgrow HM.out.grp.row.tag (by simp); have q3 := hb4.blk.cell 0; have p3 := hb4.blk.frozen 0; have hl1 := hb4.blk.lt; clear hb4)
      have hB4 : Below wr.heap.size wr (w3.alloc (.cells #[bptr b] 45)) := hB3.out.alloc hB3.out.size _
      have hPR4 : PR newX (w3.alloc (.cells #[bptr b] 45)) (own2 o wr.heap.size fun _ => tg1 j) (tg1 j) b n j (newD n) := HPR.out.move fun q hq e => ⟨by rw [Below.heap_alloc _ _ q (Nat.lt_of_lt_of_le hq HB2.out.size), HB2.out.block q hq], e⟩
      obtain ⟨o5, h5⟩ := HM.out.next hB4 hPR4 hown hgrow hat
      exact ⟨⟨j + 1, o5, _, _, by omega, by simp, h5⟩, by simp [intOf]; omega⟩
    · have hjn' : j = n := by omega
      subst hjn'
      have HS := hide (HM.out.side hn5)
      clear HM hjn hj HI
      go_wp2_with fail
      refine (new_ok wr 0 2 (fits_in (by omega) (by omega))).mono ?_
      rintro e w2 ⟨b0, rfl, hB, hnew⟩
      have HM1 := hide (HS.out.two.next hB (hnew o (tg2 0)))
      have HS1 := hide (HS.out.new hB (tg2 0))
      clear HS hB hnew
      generalize own2 o wr.heap.size (fun _ => tg2 0) = o1 at *
      go_wp2_with fail
      refine (new_ok w2 1 2 (fits_in (by omega) (by omega))).mono ?_
      rintro e w3 ⟨b1, rfl, hB, hnew⟩
      have HM2 := hide (HM1.out.next hB (hnew o1 (tg2 1)))
      have HS2 := hide (HS1.out.new hB (tg2 1))
      clear HS1 hB hnew HM1
      generalize own2 o1 w2.heap.size (fun _ => tg2 1) = o2 at *
      have HT : Hid (Two j w1 gb rv B (put (put (fun _ => 0) 0 b0) 1 b1) [] (fun _ => []) (fun _ => none) w3 o2) := ⟨HM2.out.gn (by omega), HS2.out⟩
      clear HM2 HS2
      generalize hB2 : (put (put (fun _ => 0) 0 b0) 1 b1) = B2 at *
      have e0 : b0 = B2 0 := by rw [← hB2]; rfl
      have e1 : b1 = B2 1 := by rw [← hB2]; rfl
      clear hB2
      subst e0 e1
      go_wp2_with fail
      refine (HT.out.gn.begins (i := 0) (by omega) rfl).mono ?_
      rintro e w4 ⟨rfl, o4, h1, h2⟩
      have HT4 := hide (HT.out.out h1 h2)
      clear HT h1 h2
      go_wp2_with fail
      refine (HT4.out.gn.insert (i := 0) (by omega) (put_same _ _ _) (opIns wHere) rfl (by decide) (by decide) made_does).mono ?_
      rintro e w5 ⟨rfl, o5, h1, h2⟩
      have HT5 := hide (HT4.out.out h1 h2)
      clear HT4 h1 h2
      go_wp2_with fail
      refine (HT5.out.gn.commit (i := 0) (by omega) (put_same _ _ _) (by decide) (by decide)).mono ?_
      rintro e w6 ⟨rfl, o6, h1, h2⟩
      have HT6 := hide (HT5.out.out h1 h2)
      clear HT5 h1 h2
      go_wp2_with fail
      have ec : ((cntR ([] : List RTx) 0 : Nat) : Int) + 1 = 1 := by simp [cntR]
      have hB6 : Below w6.heap.size w6 (w6.alloc (.cells #[.int .i64 0, .int .i64 (((cntR ([] : List RTx) 0 : Nat) : Int) + 1)] 62)) := (Below.refl _ _).alloc (Nat.le_refl _) _
      have HT7 := hide (HT6.out.below hB6 (5, 0, 0))
      have hb7 : Bl (w6.alloc (.cells #[.int .i64 0, .int .i64 (((cntR ([] : List RTx) 0 : Nat) : Int) + 1)] 62)) (own2 o6 w6.heap.size fun _ => (5, 0, 0)) (5, 0, 0) w6.heap.size [.int .i64 0, .int .i64 1] 62 := ⟨by rw [ec]; exact heap_alloc_new w6 _, own2_high (Nat.le_refl _)⟩
      have HD7 := hide hb7
      clear hb7 hB6 HT6
      generalize (w6.alloc (.cells #[.int .i64 0, .int .i64 (((cntR ([] : List RTx) 0 : Nat) : Int) + 1)] 62)) = w7 at *
      generalize (own2 o6 w6.heap.size fun _ => (5, 0, 0)) = o7 at *
      generalize w6.heap.size = db at *
      have hng : ¬ grp 2 tg2 (5, 0, 0) := fun ⟨i, _, e⟩ => by simp [tg2] at e
      have hng6 : ¬ grp 2 tg2 (6, 0, 0) := fun ⟨i, _, e⟩ => by simp [tg2] at e
      refine (HT7.out.gn.tells1 (a := 0) (b := 1) (u := mU) (by omega) (by omega) rfl (by rw [put_same]; simp [mU]) (by rw [put_same]; exact made_goes)).mono ?_
      rintro e w8 ⟨rfl, o8, h1, h2⟩
      have HT8 := hide (HT7.out.out h1 h2)
      have HD8 := hide (HD7.out.touch h2 hng)
      clear HT7 h1 h2 HD7
      go_wp2_with fail
      refine (HT8.out.gn.begins (i := 1) (by omega) rfl).mono ?_
      rintro e w9 ⟨rfl, o9, h1, h2⟩
      have HT9 := hide (HT8.out.out h1 h2)
      have HD9 := hide (HD8.out.touch h2 hng)
      clear HT8 h1 h2 HD8
      go_wp2_with fail
      refine (HT9.out.gn.read (i := 1) (by omega) (put_same _ _ _) (6, 0, 0) (by simp [tg2]) wS (by decide) (s := 0) (l := [wHere]) (er := 0) (by rw [put_same]; exact made_told)).mono ?_
      rintro e wa ⟨lv, oa, rfl, h1, h2, h3⟩
      have HTa := hide (HT9.out.out h1 h2)
      have HDa := hide (HD9.out.touch h2 hng)
      obtain ⟨g, cap, rfl, -, -, hg, hcell, -⟩ := Row.pos h3.row (by decide)
      have z0 : wa.cell? ⟨g, 0, none⟩ = some (.string wHere) := hcell 0 (by decide)
      have z1 := HDa.out.blk.cell 1
      have hl1 := HDa.out.blk.lt
      clear HT9 h1 h2 h3 HD9 hcell
      have hstr : (!wHere.toList == [104, 101, 114, 101]) = false := by kernel_rfl
      go_wp2_with fail
      go_ret
      have hBa : Below wa.heap.size wa (wa.alloc (.cells #[.int .i64 0, .slice (some ⟨g, 0, none⟩) 1 cap] 66)) := (Below.refl _ _).alloc (Nat.le_refl _) _
      have hS := HTa.out.side.new hBa (6, 0, 0)
      exact ⟨gb, rv, B, _, rfl, hS.gn, hS.grp, hS.at0, hS.net⟩
end Go.Proofs.YtiplgdkpnhamaaaGreatDoor.Tv

namespace Go.Proofs.YtiplgdkpnhamaaaGreatDoor.Tv
open Go.RowKit
noncomputable def ansX (n a : Nat) (hs : List RTx) (v : Vec) : ByteArray := ⟨(ansT n a (vecOf (visOf n hs)) ((beyondL hs newX v).map trOf)).toArray⟩
def sumX (n b : Nat) (hs : List RTx) : ByteArray := ⟨(sumT n b (visOf n hs)).toArray⟩
section
variable {n : Nat} {w w' : World} {o o' : Nat → Tag} {T : Nat → Tag} {B : Nat → Nat} {ts : List RTx} {H : Nat → List RTx} {O : Nat → Option (List ROp)} {i : Nat}
theorem Gn.summary (h : Gn n w o T B ts H O) {b : Nat} (hb : b < n) : Calls Tryz.prog 37 #[bptr (B b)] w fun e w' => e = .returned (.string (sumX n b (H b))) ∧ Gn n w' o T B ts H O ∧ TouchT (grp n T) w o w' o := by
  obtain ⟨X, a, g⟩ := h.ex
  refine (a.summary hb).mono ?_
  rintro e w' ⟨rfl, h1, h2⟩
  rw [stD_hs]
  exact ⟨rfl, ⟨X, h1, g⟩, h2⟩
theorem Gn.answer (h : Gn n w o T B ts H O) {a : Nat} (ha : a < n) {hs : List RTx} (hH : HistG n hs) (hm : ∀ u, u ∈ hs → u ∈ ts) {b : Nat} (hb : b < n) : Calls Tryz.prog 40 #[bptr (B a), .string (sumX n b hs)] w fun e w' => e = .returned (.tuple #[.string (ansX n a (H a) (vecOf (visOf n hs))), .int .i64 0]) ∧ ∃ o', Gn n w' o' T B ts H O ∧ TouchT (grp n T) w o w' o' := by
  obtain ⟨X, k, g⟩ := h.ex
  refine (k.answer ha hH hm hb).mono ?_
  rintro e w' ⟨rfl, o', h1, h2⟩
  rw [stD_hs, bey_gone (g a)]
  refine ⟨rfl, o', ⟨_, h1, fun j => ?_⟩, h2⟩
  by_cases c : j = a
  · subst c; rw [put_same]; exact g j
  · rw [put_other c]; exact g j
theorem Gn.receive (h : Gn n w o T B ts H O) {b : Nat} (hb : b < n) (hO : O b = none) {hs : List RTx} (hH : HistG n hs) (hm : ∀ u, u ∈ hs → u ∈ ts) (v : Vec) {a : Nat} (ha : a < n) : Calls Tryz.prog 41 #[bptr (B b), .string (ansX n a hs v)] w fun e w' => e = .returned (.int .i64 0) ∧ ∃ o' hs', Gn n w' o' T B ts (put H b hs') O ∧ TouchT (grp n T) w o w' o' ∧ RecD (stD n (H b) none) (beyondL hs newX v) (stD n hs' none) := by
  obtain ⟨X, k, g⟩ := h.ex
  refine (k.receive hb hH hm newX v ha).mono ?_
  rintro e w' ⟨rfl, o', d', h1, h2, h3⟩
  simp only [hO] at h3
  have hp := (h1.pr b hb).hist.2.1
  rw [put_same] at hp
  have hd := h3.st hp
  rw [hd, put_st] at h1
  rw [hd] at h3
  have e : put O b none = O := by rw [← hO, put_self]
  rw [e] at h1
  refine ⟨rfl, o', d'.hs, ⟨_, h1, fun j => ?_⟩, h2, h3⟩
  by_cases c : j = b
  · subst c; rw [put_same]; exact g j
  · rw [put_other c]; exact g j
end
end Go.Proofs.YtiplgdkpnhamaaaGreatDoor.Tv

namespace Go.Proofs.YtiplgdkpnhamaaaGreatDoor.Tv
open Go.RowKit
section
variable {α : Type} {d p q p' q' : α} {x y : Nat}
end
theorem grp_nz {n : Nat} {t : Tag} (h : grp n tg1 t) : nz t := by
  obtain ⟨i, _, e⟩ := h
  rw [e]; simp [nz, tg1]
theorem not_grp {n a b c : Nat} (h : a ≠ 1) : ¬ grp n tg1 (a, b, c) := fun ⟨i, _, e⟩ => h (by simp [tg1] at e; exact e.1)
theorem does_ok {v : List Int} {ops : List ROp} {p : ROp} (h1 : kindOf p.key = kindByte p.kind) (h2 : p.kind ≠ 1) (h3 : p.value.size ≤ 8) (h4 : ops.length < 16) : doesErr (some ⟨0, 0, v, ops⟩) p = 0 := by
  unfold doesErr
  simp only [h1, not_true_eq_false, if_false]
  rw [if_neg (by omega), if_neg (by omega)]
section
variable {n x y : Nat} {w0 w w' : World} {B : Nat → Nat} {ts P Q : List RTx} {a b : Option (List ROp)} {o : Nat → Tag}
end
/- What Wins commits. -/
theorem dig_small {x : Nat} (h : x < 9) : digOf (x : Int) = wE x := by
  unfold digOf wE
  have : pickOf (x : Int) 9 = x := by
    unfold pickOf
    rw [if_neg (by omega)]; omega
  rw [this]
end Go.Proofs.YtiplgdkpnhamaaaGreatDoor.Tv

namespace Go.Proofs.YtiplgdkpnhamaaaGreatDoor.Tv
open Go.RowKit
def kQ : ByteArray := ⟨#[115, 113]⟩
def kA : ByteArray := ⟨#[115, 97]⟩
def insOp (key : ByteArray) (i : Nat) : ROp := ⟨3, key, wE i, 0⟩
structure IsQ (u : RTx) (i : Nat) : Prop where
  rep : u.rep = 0
  seq : u.seq = (i : Int) + 1
  ops : u.ops = [insOp kQ i]
structure IsA (u : RTx) (i : Nat) : Prop where
  rep : u.rep = 1
  seq : u.seq = (i : Int) + 1
  ops : u.ops = [insOp kA i]
  saw : (i : Int) + 1 ≤ u.saw.getD 0 0
def Talk (k : Nat) (ts : List RTx) : Prop := ∀ u, u ∈ ts → ∃ i, i < k ∧ (IsQ u i ∨ IsA u i)
theorem Talk.sub {k : Nat} {ts hs : List RTx} (h : Talk k ts) (hm : ∀ u, u ∈ hs → u ∈ ts) : Talk k hs := fun u hu => h u (hm u hu)
theorem Talk.more {k : Nat} {ts : List RTx} (h : Talk k ts) : Talk (k + 1) ts := fun u hu => by
  obtain ⟨i, h1, h2⟩ := h u hu
  exact ⟨i, by omega, h2⟩
theorem kQA : kQ ≠ kA := by decide
theorem last_one (key el k : ByteArray) (i : Nat) : lastKind (lastOf key el [insOp k i]) ≠ 4 := by
  unfold lastOf
  simp only [List.reverse_cons, List.reverse_nil, List.nil_append, List.find?_cons, List.find?_nil]
  split
  · show (3 : Int) ≠ 4; omega
  · show (0 : Int) ≠ 4; omega
theorem last_self (k : ByteArray) (i : Nat) : lastKind (lastOf k (wE i) [insOp k i]) = 3 := by
  unfold lastOf
  have : hits k (wE i) (insOp k i) = true := by simp [hits, insOp]
  simp only [List.reverse_cons, List.reverse_nil, List.nil_append, List.find?_cons, this]
  rfl
theorem elems_one (key k : ByteArray) (i : Nat) : elemsOf key [insOp k i] = if k = key then [wE i] else [] := by
  unfold elemsOf
  by_cases c : k = key <;> simp [insOp, c]
theorem Talk.stays {k : Nat} {ts : List RTx} (h : Talk k ts) (v : List Int) (key el : ByteArray) (t : RTx) : goneOf v key el t ts = false := by
  rw [goneOf_any, List.any_eq_false]
  intro u hu
  obtain ⟨i, -, hi | hi⟩ := h u hu
  · rw [hi.ops]; simp [last_one]
  · rw [hi.ops]; simp [last_one]
theorem keep_nil (key : ByteArray) (acc : List ByteArray) (s : ByteArray) : keepEl key [] acc s = withOf acc s := by
  unfold keepEl
  exact if_pos (Or.inl rfl)
theorem keep_spec (key : ByteArray) : ∀ (l acc : List ByteArray), Rising acc → Rising (l.foldl (keepEl key []) acc) ∧ ∀ a, a ∈ l.foldl (keepEl key []) acc ↔ a ∈ acc ∨ a ∈ l
  | [], acc, h => ⟨h, fun a => by simp⟩
  | s :: l, acc, h => by
    rw [List.foldl_cons, keep_nil]
    obtain ⟨h1, h2⟩ := withOf_spec h s
    obtain ⟨h3, h4⟩ := keep_spec key l _ h1
    refine ⟨h3, fun a => ?_⟩
    rw [h4, h2, List.mem_cons, or_assoc]
theorem read_nil (key : ByteArray) {l : List ByteArray} (h : Rising l) : readSet key [] l = l := by
  show l.foldl (keepEl key []) [] = l
  obtain ⟨h1, h2⟩ := keep_spec key l [] List.Pairwise.nil
  exact rising_ext h1 h fun a => by rw [h2]; simp
def digs (c : Nat) : List ByteArray := (List.range c).map wE
theorem digs_len (c : Nat) : (digs c).length = c := by simp [digs]
def digsOk : Bool := (List.range 9).all fun i => (List.range 9).all fun j => !(decide (i < j)) || strLt (wE i) (wE j)
theorem digsOk_true : digsOk = true := by kernel_rfl
theorem wE_lt {i j : Nat} (h : i < j) (hj : j < 9) : strLt (wE i) (wE j) = true := by
  have h0 := digsOk_true
  unfold digsOk at h0
  rw [List.all_eq_true] at h0
  have h1 := h0 i (List.mem_range.2 (by omega))
  rw [List.all_eq_true] at h1
  have h2 := h1 j (List.mem_range.2 hj)
  simpa [h] using h2
theorem digs_rising {c : Nat} (hc : c ≤ 9) : Rising (digs c) := by
  unfold Rising digs
  rw [List.pairwise_iff_getElem]
  intro i j hi hj hij
  simp only [List.length_map, List.length_range] at hi hj
  simp only [List.getElem_map, List.getElem_range]
  exact wE_lt hij (by omega)
theorem sees_own {n : Nat} {hs : List RTx} (h : HistG n hs) {u : RTx} (hu : u ∈ hs) : seesV (visOf n hs) u.rep u.seq = true := by
  obtain ⟨j, hj, e⟩ := List.getElem_of_mem hu
  have hn := h.tx j hj
  rw [e] at hn
  unfold seesV
  rw [decide_eq_true_eq, visOf_get hn.rN]
  exact (h.seq_le hu).2
theorem told_ins {k : Nat} (hk : k ≤ 6) {hs : List RTx} (h : HistG 3 hs) (ht : Talk k hs) (key : ByteArray) (r : Nat) (hr : (key = kQ ∧ r = 0) ∨ (key = kA ∧ r = 1)) : setOf (visOf 3 hs) key hs = digs (cntR hs r) ∧ cntR hs r ≤ k := by
  have hc : cntR hs r ≤ k := by
    by_cases c : cntR hs r = 0
    · omega
    · obtain ⟨u, h1, h2, h3⟩ := h.has (r := r) (s := cntR hs r) (by omega) (Int.le_refl _)
      obtain ⟨i, hi, hq | hq⟩ := ht u h1
      · have := hq.seq; omega
      · have := hq.seq; omega
  refine ⟨?_, hc⟩
  obtain ⟨h1, h2⟩ := setTxs_spec (visOf 3 hs) key hs hs [] List.Pairwise.nil
  refine rising_ext h1 (digs_rising (by omega)) fun a => ?_
  show a ∈ hs.foldl (setTx (visOf 3 hs) key hs) [] ↔ _
  rw [h2]
  unfold digs
  constructor
  · rintro (c | ⟨t, ht1, ht2, ht3, ht4, ht5⟩)
    · cases c
    · obtain ⟨i, hi, hq | hq⟩ := ht t ht1
      · rw [hq.ops, elems_one] at ht3
        rcases hr with ⟨rfl, rfl⟩ | ⟨rfl, rfl⟩
        · rw [if_pos rfl] at ht3
          have hs := (h.seq_le ht1).2
          rw [hq.rep, hq.seq] at hs
          exact List.mem_map.2 ⟨i, List.mem_range.2 (by have : ((0 : Int)).toNat = 0 := rfl; rw [this] at hs; omega), (List.mem_singleton.1 ht3).symm⟩
        · rw [if_neg kQA] at ht3; cases ht3
      · rw [hq.ops, elems_one] at ht3
        rcases hr with ⟨rfl, rfl⟩ | ⟨rfl, rfl⟩
        · rw [if_neg (Ne.symm kQA)] at ht3; cases ht3
        · rw [if_pos rfl] at ht3
          have hs := (h.seq_le ht1).2
          rw [hq.rep, hq.seq] at hs
          exact List.mem_map.2 ⟨i, List.mem_range.2 (by have : ((1 : Int)).toNat = 1 := rfl; rw [this] at hs; omega), (List.mem_singleton.1 ht3).symm⟩
  · intro ha
    obtain ⟨i, hi, rfl⟩ := List.mem_map.1 ha
    have hi := List.mem_range.1 hi
    obtain ⟨u, u1, u2, u3⟩ := h.has (r := r) (s := (i : Int) + 1) (by omega) (by omega)
    right
    refine ⟨u, u1, sees_own h u1, ?_⟩
    obtain ⟨j, hj, hq | hq⟩ := ht u u1
    · have e : j = i := by have := hq.seq; omega
      subst e
      rcases hr with ⟨rfl, rfl⟩ | ⟨rfl, rfl⟩
      · rw [hq.ops, elems_one, if_pos rfl]
        exact ⟨by simp, last_self _ _, ht.stays _ _ _ _⟩
      · have := hq.rep; omega
    · have e : j = i := by have := hq.seq; omega
      subst e
      rcases hr with ⟨rfl, rfl⟩ | ⟨rfl, rfl⟩
      · have := hq.rep; omega
      · rw [hq.ops, elems_one, if_pos rfl]
        exact ⟨by simp, last_self _ _, ht.stays _ _ _ _⟩
theorem kind_q : kindOf kQ = 115 := by decide
theorem kind_a : kindOf kA = 115 := by decide
theorem read_q {k : Nat} (hk : k ≤ 6) {hs : List RTx} (h : HistG 3 hs) (ht : Talk k hs) : readAns (some ⟨0, 0, visOf 3 hs, []⟩) kQ hs 3 = (0, digs (cntR hs 0), 0) := by
  obtain ⟨h1, h2⟩ := told_ins hk h ht kQ 0 (Or.inl ⟨rfl, rfl⟩)
  unfold readAns
  simp only [kind_q]
  rw [h1, read_nil _ (digs_rising (by omega))]
  rfl
theorem read_a {k : Nat} (hk : k ≤ 6) {hs : List RTx} (h : HistG 3 hs) (ht : Talk k hs) : readAns (some ⟨0, 0, visOf 3 hs, []⟩) kA hs 3 = (0, digs (cntR hs 1), 0) := by
  obtain ⟨h1, h2⟩ := told_ins hk h ht kA 1 (Or.inr ⟨rfl, rfl⟩)
  unfold readAns
  simp only [kind_a]
  rw [h1, read_nil _ (digs_rising (by omega))]
  rfl
theorem no_ahead {k : Nat} {hs : List RTx} (h : HistG 3 hs) (ht : Talk k hs) : cntR hs 1 ≤ cntR hs 0 := by
  by_cases c : cntR hs 1 = 0
  · omega
  · obtain ⟨u, u1, u2, u3⟩ := h.has (r := 1) (s := cntR hs 1) (by omega) (Int.le_refl _)
    obtain ⟨i, hi, hq | hq⟩ := ht u u1
    · have := hq.rep; omega
    · obtain ⟨j, hj, e⟩ := List.getElem_of_mem u1
      have hn := (h.tx j hj).saw.le 0
      rw [e] at hn
      have h1 := cntR_take_all hs (T := j) 0
      have h2 := hq.saw
      have h3 := hq.seq
      omega
end Go.Proofs.YtiplgdkpnhamaaaGreatDoor.Tv

namespace Go.Proofs.YtiplgdkpnhamaaaGreatDoor.Tv
open Go.RowKit
theorem Gn.own {n : Nat} {w : World} {o : Nat → Tag} {T : Nat → Tag} {B : Nat → Nat} {ts : List RTx} {H : Nat → List RTx} {O : Nat → Option (List ROp)} (h : Gn n w o T B ts H O) {i : Nat} (hi : i < n) : cntR ts i = cntR (H i) i := by
  obtain ⟨X, a, b⟩ := h.ex
  have := a.own i hi
  rwa [stD_hs] at this
abbrev gp3 : Tag → Prop := grp 3 tg1
def GivenX (ts : List RTx) (t : ByteArray) : Prop := ∃ a hs v, a < 3 ∧ HistG 3 hs ∧ (∀ u, u ∈ hs → u ∈ ts) ∧ t = ansX 3 a hs v
structure Cs (w0 : World) (gb g cap : Nat) (B : Nat → Nat) (ts : List RTx) (H : Nat → List RTx) (O : Nat → Option (List ROp)) (lv : Value) (ss : List ByteArray) (w : World) (o : Nat → Tag) : Prop where
  gn : Gn 3 w o tg1 B ts H O
  grp : GrpIn w o gb (.slice (some ⟨g, 0, none⟩) 3 cap) (.slice none 0 0) B 3
  at0 : TouchT nz w0 (fun _ => (0, 0, 0)) w o
  row : Pc w o (7, 0, 0) 9 1 lv ss.length (strs ss)
  ok : ∀ t, t ∈ ss → GivenX ts t
section
variable {w0 w w' : World} {gb g cap : Nat} {B : Nat → Nat} {ts ts' : List RTx} {H H' : Nat → List RTx} {O O' : Nat → Option (List ROp)} {lv : Value} {ss : List ByteArray} {o o' : Nat → Tag}
def CsEnd (w0 : World) (gb g cap : Nat) (B : Nat → Nat) (lv : Value) (ss : List ByteArray) (w : World) (o : Nat → Tag) (v : Value) (ts : List RTx) (H : Nat → List RTx) (O : Nat → Option (List ROp)) (e : Ending) (w' : World) : Prop :=
  e = .returned v ∧ ∃ o', Hid (Cs w0 gb g cap B ts H O lv ss w' o' ∧ TouchT gp3 w o w' o')
theorem Cs.out (h : Cs w0 gb g cap B ts H O lv ss w o) (h1 : Gn 3 w' o' tg1 B ts' H' O') (h2 : TouchT gp3 w o w' o') (hs : ∀ u, u ∈ ts → u ∈ ts') : Hid (Cs w0 gb g cap B ts' H' O' lv ss w' o' ∧ TouchT gp3 w o w' o') :=
  ⟨⟨h1, h.grp.touch h2 (not_grp (by omega)) (not_grp (by omega)), h.at0.trans (h2.mono fun _ => grp_nz), h.row.touch h2 (not_grp (by omega)), fun t ht => by
    obtain ⟨a, hs', v, k1, k2, k3, k4⟩ := h.ok t ht
    exact ⟨a, hs', v, k1, k2, fun u hu => hs u (k3 u hu), k4⟩⟩, h2⟩
theorem Cs.below (h : Cs w0 gb g cap B ts H O lv ss w o) (hB : Below w.heap.size w w') (t : Tag) : Hid (Cs w0 gb g cap B ts H O lv ss w' (own2 o w.heap.size fun _ => t) ∧ TouchT gp3 w o w' (own2 o w.heap.size fun _ => t)) :=
  h.out (h.gn.move fun q hq _ => ⟨hB.block q hq, own2_low hq⟩) ⟨Touch.ofBelow hB, fun _ hq => own2_low hq⟩ fun _ hu => hu
theorem Cs.cells (h : Cs w0 gb g cap B ts H O lv ss w o) : w.cell? ⟨gb, 0, none⟩ = some (.slice (some ⟨g, 0, none⟩) 3 cap) ∧ (w.cell? ⟨g, 0, none⟩ = some (bptr (B 0)) ∧ w.cell? ⟨g, 1, none⟩ = some (bptr (B 1)) ∧ w.cell? ⟨g, 2, none⟩ = some (bptr (B 2))) ∧ gb < w.heap.size ∧ g < w.heap.size := by
  obtain ⟨g', cap', e, -, -, hg, hcell, -⟩ := Row.pos h.grp.row.row (by omega)
  cases e
  exact ⟨h.grp.blk.blk.cell 0, ⟨hcell 0 (by omega), hcell 1 (by omega), hcell 2 (by omega)⟩, h.grp.blk.blk.lt, hg⟩
theorem Cs.begins (h : Cs w0 gb g cap B ts H O lv ss w o) {i : Nat} (hi : i < 3) (hO : O i = none) : Calls Tryz.prog 27 #[bptr (B i)] w (CsEnd w0 gb g cap B lv ss w o (.tuple #[.int .i64 0, .int .i64 0]) ts H (put O i (some []))) := by
  refine (h.gn.begins hi hO).mono ?_
  rintro e w' ⟨rfl, o', h1, h2⟩
  exact ⟨rfl, o', h.out h1 h2 fun _ hu => hu⟩
theorem Cs.ins (h : Cs w0 gb g cap B ts H O lv ss w o) {i : Nat} (hi : i < 3) {ops : List ROp} (hO : O i = some ops) (ho : ops.length < 16) (key : ByteArray) (hk : kindOf key = 115) (hs : key.size ≤ maxLen) (d : Nat) : Calls Tryz.prog 38 #[bptr (B i), .int .i64 0, .string key, .string (wE d)] w (CsEnd w0 gb g cap B lv ss w o (.int .i64 0) ts H (put O i (some (ops ++ [insOp key d])))) := by
  refine (h.gn.insert hi hO (insOp key d) rfl hs (by show 1 ≤ maxLen; unfold maxLen; omega) (does_ok (by show kindOf key = kindByte 3; rw [hk]; rfl) (by show (3 : Int) ≠ 1; omega) (by show 1 ≤ 8; omega) ho)).mono ?_
  rintro e w' ⟨rfl, o', h1, h2⟩
  exact ⟨rfl, o', h.out h1 h2 fun _ hu => hu⟩
theorem Cs.commit (h : Cs w0 gb g cap B ts H O lv ss w o) {i : Nat} (hi : i < 3) {ops : List ROp} (hO : O i = some ops) (ho : 0 < ops.length) (hf : ts.length + 1 ≤ 1100000) : Calls Tryz.prog 32 #[bptr (B i), .int .i64 0] w (CsEnd w0 gb g cap B lv ss w o (.tuple #[.agg #[.int .i64 i, .int .i64 ((cntR (H i) i : Int) + 1)], .int .i64 0]) (ts ++ [mkT 3 i (H i) ops]) (put H i (H i ++ [mkT 3 i (H i) ops])) (put O i none)) := by
  refine (h.gn.commit hi hO ho hf).mono ?_
  rintro e w' ⟨rfl, o', h1, h2⟩
  exact ⟨rfl, o', h.out h1 h2 fun _ hu => List.mem_append_left _ hu⟩
theorem Cs.abort (h : Cs w0 gb g cap B ts H O lv ss w o) {i : Nat} (hi : i < 3) {ops : List ROp} (hO : O i = some ops) : Calls Tryz.prog 34 #[bptr (B i), .int .i64 0] w (CsEnd w0 gb g cap B lv ss w o (.int .i64 0) ts H (put O i none)) := by
  refine (h.gn.abort hi hO).mono ?_
  rintro e w' ⟨rfl, o', h1, h2⟩
  exact ⟨rfl, o', h.out h1 h2 fun _ hu => hu⟩
theorem full_st {T : Nat → Tag} (hg : Gn 3 w o T B ts H O) {a b : Nat} (ha : a < 3) {hs : List RTx} (h : RecD (stD 3 (H b) none) (beyondL (H a) newX (vecOf (visOf 3 (H b)))) (stD 3 hs none)) : ∀ k, k < 3 → cntR (H a) k ≤ cntR hs k := by
  intro k hk
  have hH := hg.histAt ha
  have := RecD.full hg.hist hH.1 hH.2 (d := stD 3 (H b) none) (by rw [stD_vis, stD_hs]) (x := newX) (v := vecOf (visOf 3 (H b))) (fun j hj => ?_) (fun j _ => Nat.zero_le _) h k hk
  · rw [stD_vis, visOf_get hk] at this
    omega
  · rw [stD_hs, vecOf_get (by rw [visOf_len]; omega), Int.toNat_natCast, visOf_get hj]
    exact Int.le_refl _
theorem Cs.tells (h : Cs w0 gb g cap B ts H O lv ss w o) {a b : Nat} (ha : a < 3) (hb : b < 3) (hO : O b = none) : Calls Tryz.prog 39 #[bptr (B a), bptr (B b)] w fun e w' => ∃ hs, Hid (∀ k, k < 3 → cntR (H a) k ≤ cntR hs k) ∧ CsEnd w0 gb g cap B lv ss w o (.bool true) ts (put H b hs) O e w' := by
  refine (h.gn.tells ha hb hO).mono ?_
  rintro e w' ⟨rfl, o', hs, h1, h2, h3⟩
  exact ⟨hs, full_st h.gn ha h3, rfl, o', h.out h1 h2 fun _ hu => hu⟩
theorem Cs.read (h : Cs w0 gb g cap B ts H O lv ss w o) {i : Nat} (hi : i < 3) {ops : List ROp} (hO : O i = some ops) (key : ByteArray) (hs : key.size ≤ maxLen) (tl : Tag) (htl : tl ≠ tg1 i) {l : List ByteArray} (he : readAns (some ⟨0, 0, visOf 3 (H i), ops⟩) key (H i) 3 = (0, l, 0)) : Calls Tryz.prog 33 #[bptr (B i), .int .i64 0, .string key] w fun e w' => ∃ al cl o', e = .returned (valAgg 0 (.slice al l.length cl) 0) ∧ Hid (Cs w0 gb g cap B ts H O lv ss w' o' ∧ TouchT gp3 w o w' o') ∧ Hid (Pc w' o' tl 9 1 (.slice al l.length cl) l.length (strs l)) := by
  refine (h.gn.read hi hO tl htl key hs he).mono ?_
  rintro e w' ⟨lv', o', rfl, h1, h2, h3⟩
  obtain ⟨al, cl, rfl, -⟩ := h3.row.shape
  exact ⟨al, cl, o', rfl, h.out h1 h2 fun _ hu => hu, h3⟩
theorem Cs.summary (h : Cs w0 gb g cap B ts H O lv ss w o) {b : Nat} (hb : b < 3) : Calls Tryz.prog 37 #[bptr (B b)] w (CsEnd w0 gb g cap B lv ss w o (.string (sumX 3 b (H b))) ts H O) := by
  refine (h.gn.summary hb).mono ?_
  rintro e w' ⟨rfl, h1, h2⟩
  exact ⟨rfl, o, h.out h1 h2 fun _ hu => hu⟩
theorem Cs.answer (h : Cs w0 gb g cap B ts H O lv ss w o) {a : Nat} (ha : a < 3) {hs : List RTx} (hH : HistG 3 hs) (hm : ∀ u, u ∈ hs → u ∈ ts) {b : Nat} (hb : b < 3) : Calls Tryz.prog 40 #[bptr (B a), .string (sumX 3 b hs)] w fun e w' => ∃ t, Hid (GivenX ts t) ∧ CsEnd w0 gb g cap B lv ss w o (.tuple #[.string t, .int .i64 0]) ts H O e w' := by
  refine (h.gn.answer ha hH hm hb).mono ?_
  rintro e w' ⟨rfl, o', h1, h2⟩
  have hA := h.gn.histAt ha
  exact ⟨_, ⟨a, H a, _, ha, hA.1, hA.2, rfl⟩, rfl, o', h.out h1 h2 fun _ hu => hu⟩
theorem Cs.receive (h : Cs w0 gb g cap B ts H O lv ss w o) {b : Nat} (hb : b < 3) (hO : O b = none) {t : ByteArray} (ht : GivenX ts t) : Calls Tryz.prog 41 #[bptr (B b), .string t] w fun e w' => ∃ hs, CsEnd w0 gb g cap B lv ss w o (.int .i64 0) ts (put H b hs) O e w' := by
  obtain ⟨a, hs, v, ha, hH, hm, rfl⟩ := ht
  refine (h.gn.receive hb hO hH hm v ha).mono ?_
  rintro e w' ⟨rfl, o', hs', h1, h2, -⟩
  exact ⟨hs', rfl, o', h.out h1 h2 fun _ hu => hu⟩
end
end Go.Proofs.YtiplgdkpnhamaaaGreatDoor.Tv

namespace Go.Proofs.YtiplgdkpnhamaaaGreatDoor.Tv
open Go.RowKit
structure Round (k : Nat) (ts : List RTx) : Prop where
  talk : Talk k ts
  c0 : cntR ts 0 = k
  c1 : cntR ts 1 = k
  len : ts.length = 2 * k
structure Half (k : Nat) (ts : List RTx) : Prop where
  talk : Talk (k + 1) ts
  c0 : cntR ts 0 = k + 1
  c1 : cntR ts 1 = k
  len : ts.length = 2 * k + 1
theorem Round.nil : Round 0 [] := ⟨fun u hu => (by cases hu), rfl, rfl, rfl⟩
theorem is_q {k : Nat} {hs : List RTx} (h : cntR hs 0 = k) : IsQ (mkT 3 0 hs [insOp kQ k]) k := ⟨rfl, by show ((cntR hs 0 : Nat) : Int) + 1 = _; rw [h], rfl⟩
theorem is_a {k : Nat} {hs : List RTx} (h : cntR hs 1 = k) (h0 : cntR hs 0 = k + 1) : IsA (mkT 3 1 hs [insOp kA k]) k := ⟨rfl, by show ((cntR hs 1 : Nat) : Int) + 1 = _; rw [h], rfl, by
  show _ ≤ (visOf 3 hs).getD 0 0
  rw [visOf_get (by omega), h0]
  omega⟩
theorem Round.ask {k : Nat} {ts : List RTx} (h : Round k ts) {u : RTx} (hu : IsQ u k) : Half k (ts ++ [u]) := by
  have h0 := hu.rep
  refine ⟨fun v hv => ?_, ?_, ?_, by simp [h.len]⟩
  · rcases List.mem_append.1 hv with c | c
    · exact h.talk.more v c
    · rw [List.mem_singleton.1 c]; exact ⟨k, by omega, Or.inl hu⟩
  · rw [cntR_snoc, h.c0, if_pos (by rw [h0]; rfl)]
  · rw [cntR_snoc, h.c1, if_neg (by rw [h0]; decide)]; rfl
theorem Half.reply {k : Nat} {ts : List RTx} (h : Half k ts) {u : RTx} (hu : IsA u k) : Round (k + 1) (ts ++ [u]) := by
  have h0 := hu.rep
  refine ⟨fun v hv => ?_, ?_, ?_, by simp [h.len, Nat.mul_add]⟩
  · rcases List.mem_append.1 hv with c | c
    · exact h.talk v c
    · rw [List.mem_singleton.1 c]; exact ⟨k, by omega, Or.inr hu⟩
  · rw [cntR_snoc, h.c0, if_neg (by rw [h0]; decide)]
  · rw [cntR_snoc, h.c1, if_pos (by rw [h0]; rfl)]
theorem Half.heard {k : Nat} {ts : List RTx} (h : Half k ts) (hT : HistG 3 ts) {hs : List RTx} (hH : HistG 3 hs) (hm : ∀ u, u ∈ hs → u ∈ ts) (hown : cntR ts 1 = cntR hs 1) {c : Nat} (hc : c = k + 1) (hge : c ≤ cntR hs 0) : cntR hs 0 = k + 1 ∧ cntR hs 1 = k := by
  have := cnt_sub hT hH hm 0
  have h0 := h.c0
  have h1 := h.c1
  omega
theorem wE_inj {i j : Nat} (hi : i < 9) (hj : j < 9) (h : wE i = wE j) : i = j := by
  rcases Nat.lt_trichotomy i j with c | c | c
  · have := wE_lt c hj
    rw [h, strLt_irr] at this; cases this
  · exact c
  · have := wE_lt c hi
    rw [h, strLt_irr] at this; cases this
structure OrdIn (w : World) (sv : Value) (os : List Int) : Prop where
  ex : ∃ ao cp, sv = .slice ao os.length cp ∧ ∀ k (h : k < os.length), ∃ g off, ao = some ⟨g, off, none⟩ ∧ g < w.heap.size ∧ w.cell? ⟨g, off + k, none⟩ = some (.int .i64 os[k])
  fits : ∀ k (h : k < os.length), -9223372036854775808 ≤ os[k] ∧ os[k] ≤ 9223372036854775807
  most : os.length ≤ maxLen
theorem Cs.app {w0 w w' : World} {gb g cap : Nat} {B : Nat → Nat} {ts : List RTx} {H : Nat → List RTx} {O : Nat → Option (List ROp)} {lv v' : Value} {ss : List ByteArray} {o : Nat → Tag} (h : Cs w0 gb g cap B ts H O lv ss w o) (hr : 6 ≤ w0.heap.size) {t1 t2 : ByteArray} (hrow : w'.ownsRow 0 9 1 v' (ss.length + 2) (strs ss ++ [.string t1, .string t2])) (hg : w.grownBy w' lv.ownBlock) (hat : v'.ownBlock = lv.ownBlock ∨ v'.ownBlock = some w.heap.size) (h1 : GivenX ts t1) (h2 : GivenX ts t2) : ∃ o', Cs w0 gb g cap B ts H O v' (ss ++ [t1, t2]) w' o' := by
  refine ⟨upd o w.heap.size (7, 0, 0), h.gn.move fun q hq e => ⟨hg.block q hq (fun c => ?_), upd_other (by omega)⟩, ⟨h.grp.blk.grew hg h.row.tag (by simp), h.grp.row.grew hg h.row.tag (by simp)⟩, h.at0.grew hg h.row.tag (by simp [nz]), ?_, fun t ht => ?_⟩
  · have k1 := h.row.tag q c.symm
    rcases e with e | ⟨i, -, e⟩
    · rw [at0_low h.at0 hr e] at k1; simp at k1
    · rw [e] at k1; simp [tg1] at k1
  · have e1 : (ss ++ [t1, t2]).length = ss.length + 2 := by simp
    have e2 : strs (ss ++ [t1, t2]) = strs ss ++ [.string t1, .string t2] := by simp [strs]
    rw [e1, e2]
    exact h.row.app hrow hat
  · rcases List.mem_append.1 ht with c | c
    · exact h.ok t c
    · simp only [List.mem_cons, List.not_mem_nil, or_false] at c
      rcases c with rfl | rfl
      · exact h1
      · exact h2
end Go.Proofs.YtiplgdkpnhamaaaGreatDoor.Tv
