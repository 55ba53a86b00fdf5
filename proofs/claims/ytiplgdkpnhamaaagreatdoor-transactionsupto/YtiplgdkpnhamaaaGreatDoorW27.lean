/- The texts D9, E1, E2, joined. -/
import Derived.Test.YtiplgdkpnhamaaaGreatDoorW19
import Derived.Test.YtiplgdkpnhamaaaGreatDoorW25
import Derived.LaidEqlPtr

/- The program's Store.Apply. -/
namespace Go.Proofs.YtiplgdkpnhamaaaGreatDoor
open Go.RowKit

def Vec.put (v : Vec) (r s : Int) : Vec := ⟨if r = 0 then s else v.a, if r = 1 then s else v.b, if r = 2 then s else v.c, if r = 3 then s else v.d, if r = 4 then s else v.e⟩
theorem StP.setVis {w w' : World} {o o' : Nat → Own} {sb vb cb eb n : Nat} {ov : Value} {cv : Place → Option Value} {ev : ByteArray → Option Nat} {kv : Nat → Value} {st : St} (h : StP w o sb vb cb eb ov cv ev kv n st) (k : QT (· = .sto) w o w' o') {v : Vec}
    (hB : Qb w' o' .sto sb [.int .i64 v.a, .int .i64 v.b, .int .i64 v.c, .int .i64 v.d, .int .i64 v.e, .map (some vb), .map (some cb), .map (some eb), ov] 183) : StP w' o' sb vb cb eb ov cv ev kv n { st with vis := v } :=
  ⟨hB, h.vers.movet k (by rw [h.versT]; simp), (k.same _ h.vers.lt).trans h.versT, h.came.movet k (by rw [h.cameT]; simp), (k.same _ h.came.lt).trans h.cameT, h.rowN, fun p v e => (h.row p v e).touch k (by simp), h.els.movet k (by rw [h.elsT]; simp), (k.same _ h.els.lt).trans h.elsT, h.setN,
    fun x b e => (k.same _ (h.set x b e).lt).trans (h.setT x b e), fun x b e => (h.set x b e).movet k (by rw [h.setT x b e]; simp), h.opens.touch k (by simp), fun s hs => (h.snap s hs).touch k (by simp), fun s hs => (h.kept s hs).touch k (by simp), h.elsOk⟩

/-- On the way through the writes. -/
def ApRel (P : (Place → Bool) → St → Prop) (w1 : World) (o1 : Nat → Own) (sb n mb r nW : Nat) (m : Place → Option Wr) (wr : World) : Prop :=
  ∃ (left : Place → Bool) (cnt : Nat) (o' : Nat → Own) (st : St), RngIn wr 129 mb r nW Place.val Wr.val m left cnt ∧ cnt ≤ 16 ∧ StIn wr o' sb (n + 3 * (16 - cnt)) st ∧ Touch (fun q => stoTag (o1 q) ∨ q = r) w1 wr ∧ (∀ q, q < w1.heap.size → o' q = o1 q) ∧ P left st ∧ ∀ p, left p = true → (m p).isSome
theorem ap_next {w1 wr w2 W3 w4 : World} {o1 o' o4 : Nat → Own} {r : Nat} (T : Touch (fun q => stoTag (o1 q) ∨ q = r) w1 wr) (S : ∀ q, q < w1.heap.size → o' q = o1 q) (hgr : wr.grownBy w2 (some r)) (hB3 : Below w2.heap.size w2 W3) (k : QT stoTag W3 (own2q o' w2.heap.size others) w4 o4) :
    Touch (fun q => stoTag (o1 q) ∨ q = r) w1 w4 ∧ ∀ q, q < w1.heap.size → o4 q = o1 q := by
  have z1 : w1.heap.size ≤ w2.heap.size := Nat.le_trans T.size hgr.size
  have z2 : w1.heap.size ≤ W3.heap.size := Nat.le_trans z1 hB3.size
  refine ⟨((T.trans ((Touch.ofGrown hgr).mono fun q _ e => Or.inl (Or.inr (by injection e)))).trans (Touch.ofBelow hB3)).trans (k.touch.mono fun q hq ht => ?_), fun q hq => ?_⟩
  · by_cases c : q < w1.heap.size
    · rw [own2q_low (by omega), S q c] at ht
      exact Or.inl (Or.inl ht)
    · exact Or.inr (by omega)
  · rw [k.same q (by omega), own2q_low (by omega)]
    exact S q hq
/-- What is asked of each write. -/
structure ApStep (P : (Place → Bool) → St → Prop) (m : Place → Option Wr) (saw : Vec) (dot : Dot) : Prop where
  wf : ∀ left st, P left st → st.Wf
  came : ∀ left st p, P left st → (st.came p).length ≤ 10000000
  kept : ∀ left st, P left st → KeptRoom st 10000000
  kind : ∀ p x, m p = some x → (x.kind = 0 ∨ x.kind = 1 ∨ x.kind = 2 ∨ x.kind = 3) ∧ p.Ok
  step : ∀ left st p x, P left st → left p = true → m p = some x → P (fun q => left q && !decide (q = p)) (writeSt saw dot st p x)

set_option maxRecDepth 100000 in
set_option maxHeartbeats 8000000 in
theorem apply_st {P : (Place → Bool) → St → Prop} {w : World} {o : Nat → Own} {sb n mb nW : Nat} {st : St} {m : Place → Option Wr} {saw : Vec} {dot : Dot} (hI : StIn w o sb n st) (hM : MapIn w 129 mb nW Place.val Wr.val m) (hmb : ¬ stoTag (o mb)) (hnW : nW ≤ 16) (hS : ApStep P m saw dot) (hP : P (fun p => (m p).isSome) st)
    (hdo : dot.Ok) (hn : n < 100000000000) :
    Calls Tryz.prog 105 #[bptr sb, .agg #[.int .i64 dot.rep, .int .i64 dot.seq, .int .i64 saw.a, .int .i64 saw.b, .int .i64 saw.c, .int .i64 saw.d, .int .i64 saw.e, .map (some mb)]] w fun e w' => e = .returned (.tuple #[]) ∧
      ∃ o' st', (∃ left, P left st' ∧ ∀ p, left p = false) ∧ StIn w' o' sb (n + 48) { st' with vis := st'.vis.put dot.rep dot.seq } ∧ QT stoTag w o w' o' := by
  obtain ⟨dr, dq⟩ := dot
  have hml := hM.lt
  generalize hW0 : w.alloc (.cells #[.int .i64 dr, .int .i64 dq, .int .i64 saw.a, .int .i64 saw.b, .int .i64 saw.c, .int .i64 saw.d, .int .i64 saw.e, .map (some mb)] 139) = W0
  have hB0 : Below w.heap.size w W0 := by rw [← hW0]; exact (Below.refl _ _).alloc (Nat.le_refl _) _
  have hz0 : W0.heap.size = w.heap.size + 1 := by rw [← hW0]; simp
  have hb1 : Blk W0 w.heap.size [.int .i64 dr, .int .i64 dq, .int .i64 saw.a, .int .i64 saw.b, .int .i64 saw.c, .int .i64 saw.d, .int .i64 saw.e, .map (some mb)] 139 := by rw [← hW0]; exact heap_alloc_new w _
  obtain ⟨o1, ho1⟩ : ∃ o1, o1 = own2q o w.heap.size others := ⟨_, rfl⟩
  have hI1 : StIn W0 o1 sb n st := by rw [ho1]; exact (hI.retag others).below hB0
  have q0 : QT stoTag w o W0 o1 := by rw [ho1]; exact ((QT.refl stoTag w o).retag others).below hB0
  have t1 : ∀ q, w.heap.size ≤ q → o1 q = .other := fun q hq => by rw [ho1]; exact own2q_high hq
  have tm : ¬ stoTag (o1 mb) := by rw [ho1, own2q_low hml]; exact hmb
  obtain ⟨w1, cnt0, hrunR, hrg, hcnt, hg1, hs1⟩ := (hM.move (w' := W0) (hB0.block _ hml)).range (t := 120) place_keyed Tryz.underlying120
  have hB1 : Below W0.heap.size W0 w1 := (Below.refl _ _).grown hg1 (Nat.le_refl _) (fun j hj => by cases hj)
  have c7 : W0.cell? ⟨w.heap.size, 7, none⟩ = some (.map (some mb)) := hb1.cell 7
  have p1 : Qb w1 o1 .other w.heap.size [.int .i64 dr, .int .i64 dq, .int .i64 saw.a, .int .i64 saw.b, .int .i64 saw.c, .int .i64 saw.d, .int .i64 saw.e, .map (some mb)] 139 := ⟨hb1.below hB1, t1 _ (Nat.le_refl _)⟩
  have hrel0 : ApRel P w1 o1 sb n mb W0.heap.size nW m w1 := ⟨_, cnt0, o1, st, hrg, by omega, (hI1.below hB1).mono (by omega), Touch.refl _ _, fun _ _ => rfl, hP, fun p hp => hp⟩
  have HH := hide (⟨hrel0, p1, q0.below hB1, tm, t1 W0.heap.size (by omega), hdo⟩ : _ ∧ _ ∧ _ ∧ _ ∧ _ ∧ _)
  have HS := hide hS
  have HW0 := hide hW0
  have hlt : mb ≠ w.heap.size := by omega
  have hzl : w.heap.size < W0.heap.size := by omega
  have hr1 : W0.heap.size < w1.heap.size := by omega
  clear hI hM hmb hS hP hdo hB0 hz0 hb1 ho1 hI1 q0 t1 tm hrg hcnt hg1 hs1 hB1 p1 hrel0 hW0
  go_enter Tryz.func105, Tryz.ntmps105
  go_upto_region 1 with (fail)
  rw [HW0.out]
  go_wp2_with fail
  go_loopw [] (fun wr => ApRel P w1 o1 sb n mb W0.heap.size nW m wr) (fun wr => wr.rangeLeft mb W0.heap.size)
  case atStart => exact HH.out.1
  case round =>
    obtain ⟨left, cnt, o', stk, hrg, hc16, hIk, hT, hSm, hPk, hlm⟩ := hrel
    have pk : Qb wr o' .other w.heap.size [.int .i64 dr, .int .i64 dq, .int .i64 saw.a, .int .i64 saw.b, .int .i64 saw.c, .int .i64 saw.d, .int .i64 saw.e, .map (some mb)] 139 := ⟨HH.out.2.1.blk.move (hT.block _ HH.out.2.1.blk.lt (fun e => e.elim (fun e => by rw [HH.out.2.1.tag] at e; exact e) (fun e => by omega))), (hSm _ HH.out.2.1.blk.lt).trans HH.out.2.1.tag⟩
    have hrl := hrg.left_eq
    rcases hrg.next place_keyed place_inj 0 with ⟨h0, hl, hrun⟩ | ⟨p, y, w2, cnt', hkl, hlx, hmx, hrun, hrg2, hltc, hgr, hsz, hen⟩
    · obtain ⟨vb, cb, eb, ov, cv, ev, kv, h⟩ := hIk
      have b0 : wr.cell? ⟨w.heap.size, 0, none⟩ = some (.int .i64 dr) := pk.blk.cell 0
      have b1 : wr.cell? ⟨w.heap.size, 1, none⟩ = some (.int .i64 dq) := pk.blk.cell 1
      have hall : ∀ p, left p = false := fun p => by
        cases e : left p with
        | false => rfl
        | true =>
          obtain ⟨x, hx⟩ := Option.isSome_iff_exists.1 (hlm p e)
          obtain ⟨kl, hkl⟩ := (HS.out.kind p x hx).2.lit
          rw [hl p kl hkl] at e; cases e
      have c0 : wr.cell? ⟨sb, 0, none⟩ = some (.int .i64 stk.vis.a) := h.blk.blk.cell 0
      have c1 : wr.cell? ⟨sb, 1, none⟩ = some (.int .i64 stk.vis.b) := h.blk.blk.cell 1
      have c2 : wr.cell? ⟨sb, 2, none⟩ = some (.int .i64 stk.vis.c) := h.blk.blk.cell 2
      have c3 : wr.cell? ⟨sb, 3, none⟩ = some (.int .i64 stk.vis.d) := h.blk.blk.cell 3
      have c4 : wr.cell? ⟨sb, 4, none⟩ = some (.int .i64 stk.vis.e) := h.blk.blk.cell 4
      have f0 : wr.frozen? ⟨sb, 0, none⟩ = false := h.blk.blk.frozen 0
      have f1 : wr.frozen? ⟨sb, 1, none⟩ = false := h.blk.blk.frozen 1
      have f2 : wr.frozen? ⟨sb, 2, none⟩ = false := h.blk.blk.frozen 2
      have f3 : wr.frozen? ⟨sb, 3, none⟩ = false := h.blk.blk.frozen 3
      have f4 : wr.frozen? ⟨sb, 4, none⟩ = false := h.blk.blk.frozen 4
      have hfq : QT stoTag w o wr o' := by
        have q1 := HH.out.2.2.1
        refine ⟨q1.touch.trans (hT.mono fun q hq e => ?_), fun q hq => (hSm q (Nat.lt_of_lt_of_le hq q1.size)).trans (q1.same q hq)⟩
        by_cases c : q < w.heap.size
        · rcases e with e | e
          · rw [q1.same q c] at e; exact Or.inl e
          · omega
        · exact Or.inr (by omega)
      have HFQ := hide hfq
      have hfin : ∀ (j : Nat) (v : Vec), v = stk.vis.put dr dq → [.int .i64 v.a, .int .i64 v.b, .int .i64 v.c, .int .i64 v.d, .int .i64 v.e, .map (some vb), .map (some cb), .map (some eb), ov] = [Value.int .i64 stk.vis.a, .int .i64 stk.vis.b, .int .i64 stk.vis.c, .int .i64 stk.vis.d, .int .i64 stk.vis.e, .map (some vb), .map (some cb), .map (some eb), ov].set j (.int .i64 dq) →
          ∃ o' st', (∃ left, P left st' ∧ ∀ p, left p = false) ∧ StIn (wr.setCell ⟨sb, j, none⟩ (.int .i64 dq)).drew o' sb (n + 48) { st' with vis := st'.vis.put dr dq } ∧ QT stoTag w o (wr.setCell ⟨sb, j, none⟩ (.int .i64 dq)).drew o' := fun j v hv hlist => by
        have k1 : QT (· = .sto) wr o' (wr.setCell ⟨sb, j, none⟩ (.int .i64 dq)).drew o' := ((QT.refl _ _ _).set (p := ⟨sb, j, none⟩) h.blk.tag _).drew
        have B1 := (h.blk.set j (.int .i64 dq)).drew
        rw [← hlist] at B1
        have h1 := h.setVis k1 B1
        rw [hv] at h1
        exact ⟨o', stk, ⟨left, hPk, hall⟩, ⟨vb, cb, eb, ov, cv, ev, kv, h1.mono (by omega)⟩, (HFQ.out.trans (k1.mono fun t ht => by rw [ht]; trivial))⟩
      have HFIN := hide hfin
      have hdr : dr = 0 ∨ dr = 1 ∨ dr = 2 ∨ dr = 3 ∨ dr = 4 := by have := HH.out.2.2.2.2.2.r0; have := HH.out.2.2.2.2.2.r5; simp only at *; omega
      clear hrg hrl hl hT hSm hPk hlm pk h hall hfin hfq h0 hrunR c7
      rcases hdr with rfl | rfl | rfl | rfl | rfl
      all_goals
        go_wp2_with fail
        go_region
        all_goals go_wp2_with fail
        all_goals go_end0
      · exact ⟨rfl, HFIN.out 0 ⟨dq, stk.vis.b, stk.vis.c, stk.vis.d, stk.vis.e⟩ (by simp [Vec.put]) rfl⟩
      · exact ⟨rfl, HFIN.out 1 ⟨stk.vis.a, dq, stk.vis.c, stk.vis.d, stk.vis.e⟩ (by simp [Vec.put]) rfl⟩
      · exact ⟨rfl, HFIN.out 2 ⟨stk.vis.a, stk.vis.b, dq, stk.vis.d, stk.vis.e⟩ (by simp [Vec.put]) rfl⟩
      · exact ⟨rfl, HFIN.out 3 ⟨stk.vis.a, stk.vis.b, stk.vis.c, dq, stk.vis.e⟩ (by simp [Vec.put]) rfl⟩
      · exact ⟨rfl, HFIN.out 4 ⟨stk.vis.a, stk.vis.b, stk.vis.c, stk.vis.d, dq⟩ (by simp [Vec.put]) rfl⟩
    · obtain ⟨hkd, hpo⟩ := HS.out.kind p y hmx
      have hml1 : mb < w1.heap.size := by omega
      have tmk : ¬ stoTag (o' mb) := by rw [hSm mb hml1]; exact HH.out.2.2.2.1
      have trk : o' W0.heap.size = .other := by rw [hSm _ hr1]; exact HH.out.2.2.2.2.1
      have hrk : W0.heap.size < wr.heap.size := Nat.lt_of_lt_of_le hr1 hT.size
      -- the iterator has gone on
      have k2 : QT (· = .other) wr o' w2 o' := QT.ofGrown hgr trk
      have hI2 : StIn w2 (own2q o' w2.heap.size others) sb (n + 3 * (16 - cnt)) stk := by
        obtain ⟨vb, cb, eb, ov, cv, ev, kv, h⟩ := hIk
        exact StIn.retag ⟨vb, cb, eb, ov, cv, ev, kv, h.touch k2 (fun t ht e => by rw [e] at ht; exact ht)⟩ others
      obtain ⟨o2, ho2⟩ : ∃ o2, o2 = own2q o' w2.heap.size others := ⟨_, rfl⟩
      have p2 : Qb w2 o2 .other w.heap.size [.int .i64 dr, .int .i64 dq, .int .i64 saw.a, .int .i64 saw.b, .int .i64 saw.c, .int .i64 saw.d, .int .i64 saw.e, .map (some mb)] 139 := by
        have hb : w2.heap[w.heap.size]? = wr.heap[w.heap.size]? := hgr.block _ pk.blk.lt (fun e => by injection e with e; omega)
        exact ⟨pk.blk.move hb, by rw [ho2, own2q_low (by have := pk.blk.lt; omega)]; exact pk.tag⟩
      have t2 : ∀ q, w2.heap.size ≤ q → o2 q = .other := fun q hq => by rw [ho2]; exact own2q_high hq
      rw [← ho2] at hI2
      have hst0 := HS.out.step left stk p y hPk hlx hmx
      have hwf := HS.out.wf left stk hPk
      have hcm := HS.out.came left stk p hPk
      have hkp := HS.out.kept left stk hPk
      obtain ⟨px, py⟩ := p
      obtain ⟨yk, ya, yv⟩ := y
      simp only [Place.val, Wr.val] at hrun hen
      generalize hW3 : (w2.alloc (.cells #[.string px, .string py] 129)).alloc (.cells #[.int .i64 yk, .int .i64 ya, .string yv] 132) = W3
      have hB3 : Below w2.heap.size w2 W3 := by rw [← hW3]; exact ((Below.refl _ _).alloc (Nat.le_refl _) _).alloc (by simp) _
      have z3 : W3.heap.size = w2.heap.size + 2 := by rw [← hW3]; simp
      have p3 : Qb W3 o2 .other w.heap.size [.int .i64 dr, .int .i64 dq, .int .i64 saw.a, .int .i64 saw.b, .int .i64 saw.c, .int .i64 saw.d, .int .i64 saw.e, .map (some mb)] 139 := p2.below hB3
      have pp : Qb W3 o2 .other w2.heap.size [.string px, .string py] 129 := ⟨by rw [← hW3]; exact Blk.first w2 _ _ _, t2 _ (Nat.le_refl _)⟩
      have pw : Qb W3 o2 .other (w2.heap.size + 1) [.int .i64 yk, .int .i64 ya, .string yv] 132 := ⟨by rw [← hW3]; exact Blk.second w2 _ _ _, t2 _ (by omega)⟩
      have hI3 := hI2.below hB3
      have hfin : ∀ (w4 : World) (o4 : Nat → Own) (st4 : St), StIn w4 o4 sb (n + 3 * (16 - cnt) + 3) st4 → QT stoTag W3 o2 w4 o4 → st4 = writeSt saw ⟨dr, dq⟩ stk ⟨px, py⟩ ⟨yk, ya, yv⟩ → ApRel P w1 o1 sb n mb W0.heap.size nW m w4 ∧ w4.rangeLeft mb W0.heap.size < wr.rangeLeft mb W0.heap.size := fun w4 o4 st4 hI4 hq4 e => by
        rw [ho2] at hq4
        obtain ⟨a1, a2⟩ := ap_next hT hSm hgr hB3 hq4
        have hb1 : w4.heap[mb]? = w2.heap[mb]? := (hq4.touch.block mb (by omega) (by rw [own2q_low (by omega)]; exact tmk)).trans (hB3.block _ (by omega))
        have hb2 : w4.heap[W0.heap.size]? = w2.heap[W0.heap.size]? := (hq4.touch.block _ (by omega) (by rw [own2q_low (by omega), trk]; exact sto_other)).trans (hB3.block _ (by omega))
        have hr4 := hrg2.move hb1 hb2
        refine ⟨⟨_, cnt', o4, st4, hr4, by omega, hI4.mono (by omega), a1, a2, by rw [e]; exact hst0, fun q hq => hlm q (by simp only [Bool.and_eq_true] at hq; exact hq.1)⟩, ?_⟩
        rw [hr4.left_eq, hrl]; exact hltc
      have HFIN := hide hfin
      have H3 := hide (⟨hI3, p3, pp, pw, hwf, hcm, hkp, hpo⟩ : _ ∧ _ ∧ _ ∧ _ ∧ _ ∧ _ ∧ _ ∧ _)
      have HW3 := hide hW3
      have hn3 : n + 3 * (16 - cnt) + 3 < 1000000000000 := by omega
      obtain ⟨nn, hnn⟩ : ∃ nn, n + 3 * (16 - cnt) = nn := ⟨_, rfl⟩
      unfold Hid at HFIN H3
      rw [hnn] at HFIN H3 hn3
      have HFIN' := hide HFIN
      have H3' := hide H3
      have hbl : w.heap.size < w2.heap.size := p2.blk.lt
      have e0 : w2.cell? ⟨w.heap.size, 0, none⟩ = some (.int .i64 dr) := p2.blk.cell 0
      have e1 : w2.cell? ⟨w.heap.size, 1, none⟩ = some (.int .i64 dq) := p2.blk.cell 1
      have e2 : w2.cell? ⟨w.heap.size, 2, none⟩ = some (.int .i64 saw.a) := p2.blk.cell 2
      have e3 : w2.cell? ⟨w.heap.size, 3, none⟩ = some (.int .i64 saw.b) := p2.blk.cell 3
      have e4 : w2.cell? ⟨w.heap.size, 4, none⟩ = some (.int .i64 saw.c) := p2.blk.cell 4
      have e5 : w2.cell? ⟨w.heap.size, 5, none⟩ = some (.int .i64 saw.d) := p2.blk.cell 5
      have e6 : w2.cell? ⟨w.heap.size, 6, none⟩ = some (.int .i64 saw.e) := p2.blk.cell 6
      have HKD := hide hkd
      clear hrg hrl hT hSm hPk hlm pk hkd hpo hml1 tmk trk hrk k2 hI2 ho2 p2 t2 hst0 hwf hcm hkp hB3 z3 p3 pp pw hI3 hfin HFIN H3 hW3 hnn hIk hkl hlx hmx hrg2 hltc hgr hsz hrunR c7 hc16
      have hkd := HKD.out
      simp only at hkd
      clear HKD
      rcases hkd with rfl | rfl | rfl | rfl
      · have hcall := add_st H3'.out.1 H3'.out.2.2.2.2.1 ⟨px, py⟩ H3'.out.2.2.2.2.2.2.2 ya ⟨dr, dq⟩ HH.out.2.2.2.2.2 (H3'.out.2.2.2.2.2.2.1.less H3'.out.2.2.2.2.2.1) (Nat.le_trans H3'.out.2.2.2.2.2.1 (by omega)) (by omega)
        simp only [Place.val] at hcall
        have HCALL := hide hcall
        clear hcall
        go_wp2_with fail
        rw [HW3.out]
        refine HCALL.out.mono ?_
        rintro e w4 ⟨rfl, o4, hI4, hq4⟩
        clear e0 e1 e2 e3 e4 e5 e6 hrun hen
        go_wp2_with fail
        exact HFIN'.out w4 o4 _ (hI4.mono (by omega)) hq4 (by simp [writeSt])
      · have hcall := retire_st H3'.out.1 H3'.out.2.2.2.2.1 ⟨px, py⟩ H3'.out.2.2.2.2.2.2.2 saw ⟨dr, dq⟩ HH.out.2.2.2.2.2 (H3'.out.2.2.2.2.2.2.1.less H3'.out.2.2.2.2.2.1) (Nat.le_trans H3'.out.2.2.2.2.2.1 (by omega)) (by omega)
        simp only [Place.val] at hcall
        have HCALL := hide hcall
        clear hcall
        go_wp2_with fail
        rw [HW3.out]
        refine HCALL.out.mono ?_
        rintro e w4 ⟨rfl, o4, hI4, hq4⟩
        clear e0 e1 e2 e3 e4 e5 e6 hrun hen
        have p4 := H3'.out.2.1.touch hq4 sto_other
        have pp4 := H3'.out.2.2.1.touch hq4 sto_other
        have pw4 := H3'.out.2.2.2.1.touch hq4 sto_other
        have e0 : w4.cell? ⟨w.heap.size, 0, none⟩ = some (.int .i64 dr) := p4.blk.cell 0
        have e1 : w4.cell? ⟨w.heap.size, 1, none⟩ = some (.int .i64 dq) := p4.blk.cell 1
        have u0 : w4.cell? ⟨w2.heap.size, 0, none⟩ = some (.string px) := pp4.blk.cell 0
        have u1 : w4.cell? ⟨w2.heap.size, 1, none⟩ = some (.string py) := pp4.blk.cell 1
        have v2 : w4.cell? ⟨w2.heap.size + 1, 2, none⟩ = some (.string yv) := pw4.blk.cell 2
        have hput := put_in hI4 ⟨⟨px, py⟩, ⟨dr, dq⟩⟩ ⟨H3'.out.2.2.2.2.2.2.2, HH.out.2.2.2.2.2⟩ ⟨⟨0, 0⟩, 0, yv⟩ (Nat.le_trans (retire_came stk _ _ _ _) (Nat.le_trans H3'.out.2.2.2.2.2.1 (by omega))) (by omega)
        simp only [VName.val] at hput
        have HPUT := hide hput
        have HQ4 := hide hq4
        clear hput p4 pp4 pw4 hI4 hq4
        go_wp2_with fail
        refine HPUT.out.mono ?_
        rintro e w5 ⟨rfl, o5, hI5, hq5⟩
        clear e0 e1 u0 u1 v2
        go_wp2_with fail
        exact HFIN'.out w5 o5 _ (hI5.mono (by omega)) (HQ4.out.trans hq5) (by simp [writeSt])
      · have hcall := retire_st H3'.out.1 H3'.out.2.2.2.2.1 ⟨px, py⟩ H3'.out.2.2.2.2.2.2.2 saw ⟨dr, dq⟩ HH.out.2.2.2.2.2 (H3'.out.2.2.2.2.2.2.1.less H3'.out.2.2.2.2.2.1) (Nat.le_trans H3'.out.2.2.2.2.2.1 (by omega)) (by omega)
        simp only [Place.val] at hcall
        have HCALL := hide hcall
        clear hcall
        go_wp2_with fail
        rw [HW3.out]
        refine HCALL.out.mono ?_
        rintro e w4 ⟨rfl, o4, hI4, hq4⟩
        clear e0 e1 e2 e3 e4 e5 e6 hrun hen
        have p4 := H3'.out.2.1.touch hq4 sto_other
        have pp4 := H3'.out.2.2.1.touch hq4 sto_other
        have e0 : w4.cell? ⟨w.heap.size, 0, none⟩ = some (.int .i64 dr) := p4.blk.cell 0
        have e1 : w4.cell? ⟨w.heap.size, 1, none⟩ = some (.int .i64 dq) := p4.blk.cell 1
        have u0 : w4.cell? ⟨w2.heap.size, 0, none⟩ = some (.string px) := pp4.blk.cell 0
        have u1 : w4.cell? ⟨w2.heap.size, 1, none⟩ = some (.string py) := pp4.blk.cell 1
        have hput := put_in hI4 ⟨⟨px, py⟩, ⟨dr, dq⟩⟩ ⟨H3'.out.2.2.2.2.2.2.2, HH.out.2.2.2.2.2⟩ noVer (Nat.le_trans (retire_came stk _ _ _ _) (Nat.le_trans H3'.out.2.2.2.2.2.1 (by omega))) (by omega)
        simp only [VName.val, noVer] at hput
        have HPUT := hide hput
        have HQ4 := hide (⟨hq4, pp4⟩ : _ ∧ _)
        clear hput p4 pp4 hI4 hq4
        go_wp2_with fail
        refine HPUT.out.mono ?_
        rintro e w5 ⟨rfl, o5, hI5, hq5⟩
        clear e0 e1 u0 u1
        have pp5 : Qb w5 o5 .other w2.heap.size [.string px, .string py] 129 := HQ4.out.2.touch hq5 sto_other
        have u0 : w5.cell? ⟨w2.heap.size, 0, none⟩ = some (.string px) := pp5.blk.cell 0
        have u1 : w5.cell? ⟨w2.heap.size, 1, none⟩ = some (.string py) := pp5.blk.cell 1
        have hlist := list_in hI5 ⟨px, py⟩ H3'.out.2.2.2.2.2.2.2 (by omega)
        simp only [Place.val] at hlist
        have HLIST := hide hlist
        have HQ5 := hide (HQ4.out.1.trans hq5)
        clear hlist pp5 hI5 hq5
        go_wp2_with fail
        refine HLIST.out.mono ?_
        rintro e w6 ⟨rfl, o6, hI6, hq6⟩
        clear u0 u1
        go_wp2_with fail
        exact HFIN'.out w6 o6 _ (hI6.mono (by omega)) (HQ5.out.trans hq6) (by simp [writeSt, noVer])
      · have hcall := retire_st H3'.out.1 H3'.out.2.2.2.2.1 ⟨px, py⟩ H3'.out.2.2.2.2.2.2.2 saw ⟨dr, dq⟩ HH.out.2.2.2.2.2 (H3'.out.2.2.2.2.2.2.1.less H3'.out.2.2.2.2.2.1) (Nat.le_trans H3'.out.2.2.2.2.2.1 (by omega)) (by omega)
        simp only [Place.val] at hcall
        have HCALL := hide hcall
        clear hcall
        go_wp2_with fail
        rw [HW3.out]
        refine HCALL.out.mono ?_
        rintro e w4 ⟨rfl, o4, hI4, hq4⟩
        clear e0 e1 e2 e3 e4 e5 e6 hrun hen
        go_wp2_with fail
        exact HFIN'.out w4 o4 _ (hI4.mono (by omega)) hq4 (by simp [writeSt])

end Go.Proofs.YtiplgdkpnhamaaaGreatDoor

/- The program's store.New, Store.Open. -/
namespace Go.Proofs.YtiplgdkpnhamaaaGreatDoor
open Go.RowKit

theorem nilRow {w : World} {o : Nat → Own} {t : Own} {e : TypeId} {size : Nat} : Qc w o t e size nilSlice 0 [] := ⟨⟨by simp, .inl ⟨rfl, rfl⟩⟩, fun q hq => by simp [Value.ownBlock] at hq⟩
set_option maxRecDepth 100000 in
set_option maxHeartbeats 2000000 in
theorem snew_any (w : World) (o : Nat → Own) : Calls Tryz.prog 86 #[] w fun e w' => e = .returned (bptr (w.heap.size + 3)) ∧ (Below w.heap.size w w' ∧ w'.heap.size = w.heap.size + 4 ∧
      StIn w' (fun q => if q = w.heap.size then .mv else if q = w.heap.size + 1 then .mc else if q = w.heap.size + 2 then .me else if q = w.heap.size + 3 then .sto else o q) (w.heap.size + 3) 0 noSt) := by
  have hmm := @run_makeMap Tryz.prog
  generalize hW : (((w.alloc (.map #[] 0)).alloc (.map #[] 0)).alloc (.map #[] 0)).alloc (.cells #[.int .i64 0, .int .i64 0, .int .i64 0, .int .i64 0, .int .i64 0, .map (some w.heap.size), .map (some (w.heap.size + 1)), .map (some (w.heap.size + 2)), .slice none 0 0] 183) = W
  have hz : W.heap.size = w.heap.size + 4 := by rw [← hW]; simp
  have hB : Below w.heap.size w W := by rw [← hW]; exact ((((Below.refl _ _).alloc (Nat.le_refl _) _).alloc (by simp) _).alloc (by simp; try omega) _).alloc (by simp; try omega) _
  have m1 : W.heap[w.heap.size]? = (w.alloc (.map #[] 0)).heap[w.heap.size]? := by rw [← hW, Below.heap_alloc _ _ _ (by simp; try omega), Below.heap_alloc _ _ _ (by simp; try omega), Below.heap_alloc _ _ _ (by simp)]
  have m2 : W.heap[w.heap.size + 1]? = ((w.alloc (.map #[] 0)).alloc (.map #[] 0)).heap[w.heap.size + 1]? := by rw [← hW, Below.heap_alloc _ _ _ (by simp; try omega), Below.heap_alloc _ _ _ (by simp)]
  have m3 : W.heap[w.heap.size + 2]? = (((w.alloc (.map #[] 0)).alloc (.map #[] 0)).alloc (.map #[] 0)).heap[w.heap.size + 2]? := by rw [← hW, Below.heap_alloc _ _ _ (by simp)]
  have b4 : Blk W (w.heap.size + 3) [.int .i64 0, .int .i64 0, .int .i64 0, .int .i64 0, .int .i64 0, .map (some w.heap.size), .map (some (w.heap.size + 1)), .map (some (w.heap.size + 2)), .slice none 0 0] 183 := by
    rw [← hW]
    have a := heap_alloc_new (((w.alloc (.map #[] 0)).alloc (.map #[] 0)).alloc (.map #[] 0)) (.cells #[.int .i64 0, .int .i64 0, .int .i64 0, .int .i64 0, .int .i64 0, .map (some w.heap.size), .map (some (w.heap.size + 1)), .map (some (w.heap.size + 2)), .slice none 0 0] 183)
    rw [show (((w.alloc (.map #[] 0)).alloc (.map #[] 0)).alloc (.map #[] 0)).heap.size = w.heap.size + 3 by simp] at a
    exact a
  have v1 : MapIn W 233 w.heap.size 0 VName.val Ver.val (fun _ => none) := (MapIn.made w _ _ _).move m1
  have v2 : MapIn W 129 (w.heap.size + 1) 0 Place.val idVal (fun _ => none) := by
    have a := MapIn.made (w.alloc (.map #[] 0)) 129 Place.val idVal
    rw [show (w.alloc (.map #[] 0)).heap.size = w.heap.size + 1 by simp] at a
    exact a.move m2
  have v3 : MapIn W 9 (w.heap.size + 2) 0 setVal mapVal (fun _ => none) := by
    have a := MapIn.made ((w.alloc (.map #[] 0)).alloc (.map #[] 0)) 9 setVal mapVal
    rw [show ((w.alloc (.map #[] 0)).alloc (.map #[] 0)).heap.size = w.heap.size + 2 by simp] at a
    exact a.move m3
  have hfin : Below w.heap.size w W ∧ W.heap.size = w.heap.size + 4 ∧ StIn W (fun q => if q = w.heap.size then .mv else if q = w.heap.size + 1 then .mc else if q = w.heap.size + 2 then .me else if q = w.heap.size + 3 then .sto else o q) (w.heap.size + 3) 0 noSt := by
    refine ⟨hB, hz, w.heap.size, w.heap.size + 1, w.heap.size + 2, nilSlice, fun _ => none, fun _ => none, fun _ => nilSlice, ⟨b4, by simp⟩, v1, by simp, v2, by simp, fun _ _ => rfl, fun p v e => by simp at e, v3, by simp, fun _ _ _ => rfl, fun k b e => by simp at e, fun k b e => by simp at e, nilRow, fun s hs => by simp [noSt] at hs, fun s hs => by simp [noSt] at hs, fun k e h => by simp [noSt] at h⟩
  have HW := hide hW
  have HFIN := hide hfin
  clear hz hB m1 m2 m3 b4 v1 v2 v3 hfin hW
  go_enter Tryz.func86, Tryz.ntmps86
  go_wp2_with fail
  go_ret
  rw [HW.out]
  exact ⟨rfl, HFIN.out⟩

theorem Tryz.infoSnap : (Tryz.prog.info? 117).map (fun i => (i.zero, i.size, i.bytes)) = some (some (.pointer none), 1, 8) := by kernel_rfl
/-- One more snapshot is open. -/
theorem StP.openIn {w w' : World} {o o' : Nat → Own} {sb vb cb eb n b : Nat} {ov ov' : Value} {cv : Place → Option Value} {ev : ByteArray → Option Nat} {kv : Nat → Value} {st : St} (h : StP w o sb vb cb eb ov cv ev kv n st) (hb : ∀ s, s ∈ st.snaps → s.blk ≠ b) (k : QT (fun t => t = .sto ∨ t = .opens) w o w' o')
    (hS : Qb w' o' .sto sb [.int .i64 st.vis.a, .int .i64 st.vis.b, .int .i64 st.vis.c, .int .i64 st.vis.d, .int .i64 st.vis.e, .map (some vb), .map (some cb), .map (some eb), ov'] 183)
    (hR : Qc w' o' .opens 117 1 ov' (st.snaps.length + 1) ((st.snaps.map fun s => bptr s.blk) ++ [bptr b])) (hN : Qb w' o' (.snap b) b [bptr sb, .int .i64 st.vis.a, .int .i64 st.vis.b, .int .i64 st.vis.c, .int .i64 st.vis.d, .int .i64 st.vis.e, nilSlice] 186) :
    StP w' o' sb vb cb eb ov' cv ev (fun q => if q = b then nilSlice else kv q) n (openSt st b) := by
  have hmem : ∀ s, s ∈ (openSt st b).snaps → s ∈ st.snaps ∨ s = ⟨b, st.vis, []⟩ := fun s hs => by
    have hs' : s ∈ st.snaps ++ [⟨b, st.vis, []⟩] := hs
    simpa using hs'
  refine ⟨hS, h.vers.movet k (by rw [h.versT]; simp), (k.same _ h.vers.lt).trans h.versT, h.came.movet k (by rw [h.cameT]; simp), (k.same _ h.came.lt).trans h.cameT, h.rowN, fun q u hq => (h.row q u hq).touch k (by simp), h.els.movet k (by rw [h.elsT]; simp), (k.same _ h.els.lt).trans h.elsT, h.setN,
    fun x b e => (k.same _ (h.set x b e).lt).trans (h.setT x b e), fun x b e => (h.set x b e).movet k (by rw [h.setT x b e]; simp), ?_, fun t ht => ?_, fun t ht => ?_, h.elsOk⟩
  · show Qc w' o' .opens _ 1 ov' (st.snaps ++ [(⟨b, st.vis, []⟩ : Snap)]).length ((st.snaps ++ [(⟨b, st.vis, []⟩ : Snap)]).map fun s => bptr s.blk)
    rw [List.length_append, List.map_append]
    exact hR
  · rcases hmem t ht with c | rfl
    · have a1 := (h.snap t c).touch k (by simp)
      simpa [hb t c] using a1
    · simpa using hN
  · rcases hmem t ht with c | rfl
    · have a1 := (h.kept t c).touch k (by simp)
      simpa [hb t c] using a1
    · simpa using (nilRow (w := w') (o := o') (t := .kept b) (e := 233) (size := 4))

set_option maxRecDepth 100000 in
set_option maxHeartbeats 4000000 in
theorem open_st {w : World} {o : Nat → Own} {sb n : Nat} {st : St} (hI : StIn w o sb n st) (hlen : st.snaps.length ≤ 1000) :
    Calls Tryz.prog 59 #[bptr sb] w fun e w' => e = .returned (bptr w.heap.size) ∧ ∃ o', StIn w' o' sb n (openSt st w.heap.size) ∧ QT stoTag w o w' o' := by
  obtain ⟨vb, cb, eb, ov, cv, ev, kv, h⟩ := hI
  obtain ⟨i0, hi, hz0, hz1, hz2⟩ := info_parts Tryz.infoSnap
  have c0 : w.cell? ⟨sb, 0, none⟩ = some (.int .i64 st.vis.a) := h.blk.blk.cell 0
  have c1 : w.cell? ⟨sb, 1, none⟩ = some (.int .i64 st.vis.b) := h.blk.blk.cell 1
  have c2 : w.cell? ⟨sb, 2, none⟩ = some (.int .i64 st.vis.c) := h.blk.blk.cell 2
  have c3 : w.cell? ⟨sb, 3, none⟩ = some (.int .i64 st.vis.d) := h.blk.blk.cell 3
  have c4 : w.cell? ⟨sb, 4, none⟩ = some (.int .i64 st.vis.e) := h.blk.blk.cell 4
  have c8 : w.cell? ⟨sb, 8, none⟩ = some ov := h.blk.blk.cell 8
  have hsl : sb < w.heap.size := h.blk.blk.lt
  obtain ⟨oa, hoa⟩ : ∃ oa, oa = updq o w.heap.size (.snap w.heap.size) := ⟨_, rfl⟩
  generalize hW1 : w.alloc (.cells #[bptr sb, .int .i64 st.vis.a, .int .i64 st.vis.b, .int .i64 st.vis.c, .int .i64 st.vis.d, .int .i64 st.vis.e, .slice none 0 0] 186) = W1
  generalize hW2 : W1.alloc (.cells #[bptr w.heap.size] 117) = W2
  have z1 : W1.heap.size = w.heap.size + 1 := by rw [← hW1]; simp
  have z2 : W2.heap.size = w.heap.size + 2 := by rw [← hW2]; simp [z1]
  have hq : QT (fun t => t = .sto ∨ t = .opens) w o W2 oa := by
    rw [hoa, ← hW2, ← hW1]
    exact ⟨((Touch.refl _ _).alloc _).alloc _, fun q hq => updq_other (by omega)⟩
  have bs2 : Qb W2 oa .sto sb [.int .i64 st.vis.a, .int .i64 st.vis.b, .int .i64 st.vis.c, .int .i64 st.vis.d, .int .i64 st.vis.e, .map (some vb), .map (some cb), .map (some eb), ov] 183 := ⟨by rw [← hW2, ← hW1]; exact (h.blk.blk.alloc _).alloc _, (hq.same _ hsl).trans h.blk.tag⟩
  have bn2 : Qb W2 oa (.snap w.heap.size) w.heap.size [bptr sb, .int .i64 st.vis.a, .int .i64 st.vis.b, .int .i64 st.vis.c, .int .i64 st.vis.d, .int .i64 st.vis.e, nilSlice] 186 := ⟨by rw [← hW2, ← hW1]; exact Blk.first w _ _ _, by rw [hoa]; exact updq_same _ _ _⟩
  have br2 : Qc W2 oa .opens 117 1 ov st.snaps.length (st.snaps.map fun s => bptr s.blk) := by
    refine ⟨?_, fun q hq' => (hq.same _ (h.opens.lt hq')).trans (h.opens.tag q hq')⟩
    rw [← hW2, ← hW1]
    exact World.ownsRow.alloc (World.ownsRow.alloc h.opens.row _) _
  have hnew : ∀ j u, [bptr w.heap.size][j]? = some u → W2.cell? ((⟨W1.heap.size, 0, none⟩ : Addr).add j) = some u := by
    have : Blk W2 W1.heap.size [bptr w.heap.size] 117 := by rw [← hW2]; exact heap_alloc_new W1 _
    exact news_at this
  have hdis : ¬ ov.ownBlock = some sb := fun e => by have := h.opens.tag _ e; rw [h.blk.tag] at this; cases this
  have hbs : ∀ s, s ∈ st.snaps → s.blk ≠ w.heap.size := fun s hs => by have := (h.snap s hs).blk.lt; omega
  have HH := hide (⟨h, hq, bs2, bn2, br2, hnew, hbs⟩ : _ ∧ _ ∧ _ ∧ _ ∧ _ ∧ _ ∧ _)
  have HI := hide (⟨hi, hz0, hz1, hz2⟩ : _ ∧ _ ∧ _ ∧ _)
  have HW1 := hide hW1
  have HW2 := hide hW2
  have HZ := hide (⟨z1, z2⟩ : _ ∧ _)
  clear h hq bs2 bn2 br2 hnew hbs hi hz0 hz1 hz2 hW1 hW2 z1 z2 hoa
  go_enter Tryz.func59, Tryz.ntmps59
  go_upto_region 2 with (fail)
  rw [HW1.out]
  have c8' : W1.cell? ⟨sb, 8, none⟩ = some ov := by rw [← HW1.out, World.cell?_alloc_past _ _ _ hsl]; exact c8
  have hs1 : sb < W1.heap.size := by have := HZ.out.1; omega
  clear c0 c1 c2 c3 c4 c8
  go_wp2_with (at_builtin; rw [HW2.out]; refine wpList_append_own_at _ rfl _ _ 181 rfl 0 117 i0 (.pointer none) 1 8 Tryz.underlying181 HI.out.1 HI.out.2.1 HI.out.2.2.1 HI.out.2.2.2 rfl (by decide) _ _ _ rfl HH.out.2.2.2.2.1.row ⟨W1.heap.size, 0, none⟩ 1 1 [bptr w.heap.size] rfl rfl HH.out.2.2.2.2.2.1 (by intro u hu; simp at hu; subst hu; rfl) (by unfold maxLen; omega) (by omega) (Nat.zero_le _) ?_; intro v1 w3 hown1 hgrow1 hnil1 hat1; obtain ⟨g1, cap1, rfl, -, -, -, -, -⟩ := Row.pos hown1 (by omega); have k5 := HH.out.2.2.1.grew hgrow1 HH.out.2.2.2.2.1.tag (by simp); have q8 := k5.blk.cell 8; have f8 := k5.blk.frozen 8; have l8 := k5.blk.lt; have HK := hide (⟨k5, hown1, hgrow1, hat1⟩ : _ ∧ _ ∧ _ ∧ _); clear k5 hown1 hgrow1 hat1 hnil1)
  go_ret
  obtain ⟨k5, hown, hgrow, hat⟩ := HK.out
  obtain ⟨h, hq, bs2, bn2, br2, hnew, hbs⟩ := HH.out
  have q3 := hq.grew hgrow br2.tag (Or.inr rfl)
  have q4 := q3.set (p := ⟨sb, 8, none⟩) (by show _ ∨ _; rw [k5.tag]; exact Or.inl rfl) (.slice (some ⟨g1, 0, none⟩) (st.snaps.length + 1) cap1)
  have R4 := (br2.app hown hat).set (p := ⟨sb, 8, none⟩) k5.tag (by simp) (.slice (some ⟨g1, 0, none⟩) (st.snaps.length + 1) cap1)
  have N4 := (bn2.grew hgrow br2.tag (by simp)).other (p := ⟨sb, 8, none⟩) k5.tag (by simp) (.slice (some ⟨g1, 0, none⟩) (st.snaps.length + 1) cap1)
  have S4 := k5.set 8 (.slice (some ⟨g1, 0, none⟩) (st.snaps.length + 1) cap1)
  have hfin := h.openIn hbs q4 S4 R4 N4
  exact ⟨rfl, _, ⟨_, _, _, _, _, _, _, hfin⟩, q4.mono fun t ht => by rcases ht with rfl | rfl <;> trivial⟩

end Go.Proofs.YtiplgdkpnhamaaaGreatDoor

/- The program's Snapshot.Close. -/
namespace Go.Proofs.YtiplgdkpnhamaaaGreatDoor
open Go.RowKit

set_option maxHeartbeats 1000000 in
set_option maxRecDepth 100000 in
theorem closefn (W : World) (nb q b : Nat) {cs cs' : List Value} {ty ty' : TypeId} (c0 : W.cell? ⟨nb, 0, none⟩ = some (bptr b)) (hq : Blk W q cs ty) (hb : Blk W b cs' ty') :
    Calls Tryz.prog 146 (#[bptr q] ++ #[bptr nb]) W fun e w' => e = .returned (.bool (decide (q = b))) ∧ Below W.heap.size W w' := by
  simp only [List.append_toArray, List.cons_append, List.nil_append]
  obtain ⟨j, hj, hs⟩ : ∃ j, Tryz.prog.info? 186 = some j ∧ j.size ≠ 0 := by
    have : (Tryz.prog.info? 186).map (·.size) = some 7 := by kernel_rfl
    cases e : Tryz.prog.info? 186 with
    | none => rw [e] at this; cases this
    | some j => rw [e] at this; exact ⟨j, rfl, by simp at this; omega⟩
  have heq : (binOp .eql 117 (bptr q) (bptr b)).run Tryz.prog W = .ok (.bool (decide (q = b))) W := by
    by_cases c : q = b
    · subst c
      rw [run_eql_ptr_same W ⟨q, 0, none⟩ Tryz.underlying117 hj]; simp
    · rw [run_eql_ptr_other W Tryz.underlying117 hj hs (a := ⟨q, 0, none⟩) (b := ⟨b, 0, none⟩) (fun e => c (by injection e)) hq hb]; simp [c]
  obtain ⟨r, hr⟩ : ∃ r, decide (q = b) = r := ⟨_, rfl⟩
  rw [hr] at heq ⊢
  clear hq hb hj hs hr
  go_enter Tryz.func146, Tryz.ntmps146
  go_wp2_with fail
  go_ret
  exact ⟨rfl, Below.refl _ _⟩

theorem enters_closefn (args : Array Value) (w : World) : (callFunc 146 args).run Tryz.prog w = .ok (.enter 146 args) w := enters_of Tryz.func146 (by kernel_rfl) rfl args w
theorem StP.closeIn {w w' : World} {o o1 : Nat → Own} {sb vb cb eb n b : Nat} {ov ov' : Value} {cv : Place → Option Value} {ev : ByteArray → Option Nat} {kv : Nat → Value} {st : St} (h : StP w o sb vb cb eb ov cv ev kv n st) (k : Touch (fun q => o q = .sto ∨ o q = .opens) w w') (ho : ∀ q, q < w.heap.size → o q ≠ .snap b → o q ≠ .kept b → o1 q = o q)
    (hS : Qb w' o1 .sto sb [.int .i64 st.vis.a, .int .i64 st.vis.b, .int .i64 st.vis.c, .int .i64 st.vis.d, .int .i64 st.vis.e, .map (some vb), .map (some cb), .map (some eb), ov'] 183)
    (hR : Qc w' o1 .opens 117 1 ov' (st.snaps.filter fun t => !decide (t.blk = b)).length ((st.snaps.filter fun t => !decide (t.blk = b)).map fun s => bptr s.blk)) :
    StP w' o1 sb vb cb eb ov' cv ev kv n { st with snaps := st.snaps.filter fun t => !decide (t.blk = b) } := by
  have f : ∀ t : Own, t ≠ .sto → t ≠ .opens → t ≠ .snap b → t ≠ .kept b → ∀ q, q < w.heap.size → o q = t → w'.heap[q]? = w.heap[q]? ∧ o1 q = t := fun t h1 h2 h3 h4 q hq e => by
    subst e
    exact ⟨k.block q hq (fun c => c.elim h1 h2), ho q hq h3 h4⟩
  have g : ∀ {α β : Type} {ky : TypeId} {bk nn : Nat} {fk : α → Value} {fe : β → Value} {m : α → Option β} {t : Own}, MapIn w ky bk nn fk fe m → o bk = t → t ≠ .sto → t ≠ .opens → t ≠ .snap b → t ≠ .kept b → MapIn w' ky bk nn fk fe m ∧ o1 bk = t := fun hM e h1 h2 h3 h4 => by
    have a := f _ h1 h2 h3 h4 _ hM.lt e
    exact ⟨hM.move a.1, a.2⟩
  have hmem : ∀ t, t ∈ st.snaps.filter (fun t => !decide (t.blk = b)) → t ∈ st.snaps ∧ t.blk ≠ b := fun t ht => by
    rw [List.mem_filter] at ht; simpa using ht
  obtain ⟨m1, m2⟩ := g h.vers h.versT (by simp) (by simp) (by simp) (by simp)
  obtain ⟨m3, m4⟩ := g h.came h.cameT (by simp) (by simp) (by simp) (by simp)
  obtain ⟨m5, m6⟩ := g h.els h.elsT (by simp) (by simp) (by simp) (by simp)
  exact ⟨hS, m1, m2, m3, m4, h.rowN, fun p v e => (h.row p v e).move2 (f _ (by simp) (by simp) (by simp) (by simp)), m5, m6, h.setN, fun x c e => (g (h.set x c e) (h.setT x c e) (by simp) (by simp) (by simp) (by simp)).2, fun x c e => (g (h.set x c e) (h.setT x c e) (by simp) (by simp) (by simp) (by simp)).1, hR,
    fun t ht => (h.snap t (hmem t ht).1).move2 (f _ (by simp) (by simp) (by simp [(hmem t ht).2]) (by simp)), fun t ht => (h.kept t (hmem t ht).1).move2 (f _ (by simp) (by simp) (by simp) (by simp [(hmem t ht).2])), h.elsOk⟩
theorem St.Wf.entrusts : ∀ (l : List VName) {st : St}, st.Wf → (∀ x, x ∈ l → x.Ok) → (l.foldl entrustSt st).Wf
  | [], _, h, _ => h
  | x :: l, _, h, hl => St.Wf.entrusts l (h.entrust (hl x (by simp))) fun y hy => hl y (by simp [hy])
theorem KeptRoom.entrusts : ∀ (l : List VName) {st : St} {m : Nat}, KeptRoom st (m + l.length) → KeptRoom (l.foldl entrustSt st) m
  | [], _, _, h => h
  | x :: l, st, m, h => KeptRoom.entrusts l (KeptRoom.entrust (m := m + l.length) (by rw [List.length_cons] at h; exact h) x)

set_option maxRecDepth 100000 in
set_option maxHeartbeats 8000000 in
theorem close_st {w : World} {o : Nat → Own} {sb n : Nat} {st : St} {s : Snap} (hI : StIn w o sb n st) (hW : st.Wf) (hs : s ∈ st.snaps) (hk : KeptRoom st s.kept.length) (hn : n < 1000000000000) :
    Calls Tryz.prog 104 #[bptr s.blk] w fun e w' => e = .returned (.tuple #[]) ∧ ∃ o', StIn w' o' sb n (closeSt st s) ∧ QT stoTag w o w' o' ∧ Blk w' s.blk [bptr sb, .int .i64 s.saw.a, .int .i64 s.saw.b, .int .i64 s.saw.c, .int .i64 s.saw.d, .int .i64 s.saw.e, .slice none 0 0] 186 := by
  obtain ⟨vb, cb, eb, ov, cv, ev, kv, h⟩ := hI
  generalize hW0 : w.alloc (.cells #[bptr s.blk] 117) = W0
  have hB0 : Below w.heap.size w W0 := by rw [← hW0]; exact (Below.refl _ _).alloc (Nat.le_refl _) _
  have hz0 : W0.heap.size = w.heap.size + 1 := by rw [← hW0]; simp
  have hbx : Blk W0 w.heap.size [bptr s.blk] 117 := by rw [← hW0]; exact heap_alloc_new w _
  have h0 := h.below hB0
  have hsn := h0.snap s hs
  have hlt := (h.snap s hs).blk.lt
  have x0 : W0.cell? ⟨w.heap.size, 0, none⟩ = some (bptr s.blk) := hbx.cell 0
  have n0 : W0.cell? ⟨s.blk, 0, none⟩ = some (bptr sb) := hsn.blk.cell 0
  have s8 : W0.cell? ⟨sb, 8, none⟩ = some ov := h0.blk.blk.cell 8
  have hsl : sb < W0.heap.size := h0.blk.blk.lt
  have hol : ∀ q, ov.ownBlock = some q → q < w.heap.size ∧ o q = .opens := fun q hq => ⟨h.opens.lt hq, h.opens.tag q hq⟩
  have hrow : Row W0 117 1 ov (st.snaps.map Snap.blk).length ((st.snaps.map Snap.blk).flatMap ptrCells) := by
    have a := h0.opens.row
    rw [show (st.snaps.map Snap.blk).flatMap ptrCells = st.snaps.map fun s => bptr s.blk by rw [List.flatMap_map]; induction st.snaps <;> simp_all, List.length_map]
    exact a
  have hD := delf_snaps W0 ov (st.snaps.map Snap.blk) hrow 146 #[bptr w.heap.size] (fun q => decide (q = s.blk)) enters_closefn (fun W hW d hd => by
    obtain ⟨t, ht, rfl⟩ := List.mem_map.1 hd
    have hn' : ∀ q, q < W0.heap.size → o q ≠ .opens → W.heap[q]? = W0.heap[q]? := fun q hq c => hW.block q hq (fun e => c (hol q e).2)
    have e1 : W.heap[w.heap.size]? = W0.heap[w.heap.size]? := hW.block _ hbx.lt (fun e => by have := (hol _ e).1; omega)
    have t1 := h0.snap t ht
    exact closefn W w.heap.size t.blk s.blk (cell_blk e1 x0) (t1.blk.move (hn' _ t1.blk.lt (by rw [t1.tag]; simp))) (hsn.blk.move (hn' _ hsn.blk.lt (by rw [hsn.tag]; simp))))
  have HH := hide (⟨h, h0, hbx, hB0, hz0⟩ : _ ∧ _ ∧ _ ∧ _ ∧ _)
  have HX := hide (⟨hW, hs, hk, hol⟩ : _ ∧ _ ∧ _ ∧ _)
  have HD := hide hD
  have HW0 := hide hW0
  clear h h0 hbx hB0 hz0 hsn hW hs hk hol hrow hD hW0
  go_enter Tryz.func104, Tryz.ntmps104
  go_upto_region 1 with (fail)
  rw [HW0.out]
  go_wp2_with fail
  refine HD.out.mono ?_
  rintro e w1 ⟨v1, rfl, hR1, hv1, hT1⟩
  obtain ⟨ao, cap, rfl, hcap, hmx, -⟩ := hR1.shape
  clear x0 n0 s8
  obtain ⟨h, h0, hbx, hB0, hz0⟩ := HH.out
  obtain ⟨hW, hs, hk, hol⟩ := HX.out
  classical
  obtain ⟨o1, ho1⟩ : ∃ o1 : Nat → Own, o1 = fun q => if q < w.heap.size then (if o q = .snap s.blk ∨ o q = .kept s.blk then .other else o q) else .other := ⟨_, rfl⟩
  have t1 : ∀ q, q < w.heap.size → o q ≠ .snap s.blk → o q ≠ .kept s.blk → o1 q = o q := fun q hq a b => by rw [ho1]; simp [hq, a, b]
  have t2 : ∀ q, stoTag (o1 q) → q < w.heap.size ∧ o1 q = o q := fun q hq => by
    rw [ho1] at hq ⊢
    by_cases c : q < w.heap.size
    · by_cases d : o q = .snap s.blk ∨ o q = .kept s.blk
      · simp [c, d, stoTag] at hq
      · simp [c, d]
    · simp [c, stoTag] at hq
  have t3 : o1 w.heap.size = .other := by rw [ho1]; simp
  have t4 : ∀ q, q < w.heap.size → o q = .snap s.blk ∨ o q = .kept s.blk → o1 q = .other := fun q hq a => by rw [ho1]; simp [hq, a]
  have hkeep : ∀ q, q < W0.heap.size → o q ≠ .opens ∨ w.heap.size ≤ q → w1.heap[q]? = W0.heap[q]? := fun q hq c => hT1.block q hq (fun e => by have := hol q e; rcases c with c | c; exact c this.2; omega)
  have tsb : o sb = .sto := h.blk.tag
  have hsw : sb < w.heap.size := h.blk.blk.lt
  have bs1 : Blk w1 sb [.int .i64 st.vis.a, .int .i64 st.vis.b, .int .i64 st.vis.c, .int .i64 st.vis.d, .int .i64 st.vis.e, .map (some vb), .map (some cb), .map (some eb), ov] 183 := h0.blk.blk.move (hkeep sb hsl (Or.inl (by rw [tsb]; simp)))
  have c8 : w1.cell? ⟨sb, 8, none⟩ = some ov := bs1.cell 8
  have f8 : w1.frozen? ⟨sb, 8, none⟩ = false := bs1.frozen 8
  have bx1 : Blk w1 w.heap.size [bptr s.blk] 117 := hbx.move (hkeep _ hbx.lt (Or.inr (Nat.le_refl _)))
  have sn0 := h0.snap s hs
  have sn1 : Blk w1 s.blk [bptr sb, .int .i64 s.saw.a, .int .i64 s.saw.b, .int .i64 s.saw.c, .int .i64 s.saw.d, .int .i64 s.saw.e, kv s.blk] 186 := sn0.blk.move (hkeep _ sn0.blk.lt (Or.inl (by rw [sn0.tag]; simp)))
  have kp0 := h0.kept s hs
  have kp1 : Row w1 233 4 (kv s.blk) s.kept.length (s.kept.flatMap VName.cells) := kp0.row.move fun q hq => hkeep q (kp0.lt hq) (Or.inl (by rw [kp0.tag q hq]; simp))
  have hne : s.blk ≠ sb := fun e => by have := sn0.tag; rw [e, tsb] at this; cases this
  have hne2 : w.heap.size ≠ sb := by omega
  have hl1 : sb < w1.heap.size := bs1.lt
  have hl2 : s.blk < w1.heap.size := sn1.lt
  have hl3 : w.heap.size < w1.heap.size := bx1.lt
  generalize hW2 : w1.setCell ⟨sb, 8, none⟩ (.slice ao ((st.snaps.map Snap.blk).filter fun x => !decide (x = s.blk)).length cap) = W2
  have hlen2 : ((st.snaps.map Snap.blk).filter fun x => !decide (x = s.blk)) = (st.snaps.filter fun t => !decide (t.blk = s.blk)).map Snap.blk := by
    rw [List.filter_map]; rfl
  have sv2 : Qb W2 o1 .sto sb [.int .i64 st.vis.a, .int .i64 st.vis.b, .int .i64 st.vis.c, .int .i64 st.vis.d, .int .i64 st.vis.e, .map (some vb), .map (some cb), .map (some eb), .slice ao ((st.snaps.map Snap.blk).filter fun x => !decide (x = s.blk)).length cap] 183 := ⟨by rw [← hW2]; exact bs1.set 8 _, by rw [t1 sb hsw (by rw [tsb]; simp) (by rw [tsb]; simp)]; exact tsb⟩
  have hR2 : Qc W2 o1 .opens 117 1 (.slice ao ((st.snaps.map Snap.blk).filter fun x => !decide (x = s.blk)).length cap) (st.snaps.filter fun t => !decide (t.blk = s.blk)).length ((st.snaps.filter fun t => !decide (t.blk = s.blk)).map fun s => bptr s.blk) := by
    refine ⟨?_, fun q hq => ?_⟩
    · have a : Row W2 117 1 (.slice ao ((st.snaps.map Snap.blk).filter fun x => !decide (x = s.blk)).length cap) ((st.snaps.map Snap.blk).filter fun x => !decide (x = s.blk)).length (((st.snaps.map Snap.blk).filter fun x => !decide (x = s.blk)).flatMap ptrCells) := by
        rw [← hW2]
        exact Row.other hR1 (fun e => by have := hol sb (by rw [← hv1]; exact e); rw [tsb] at this; cases this.2) _
      have e1 : ((st.snaps.map Snap.blk).filter fun x => !decide (x = s.blk)).flatMap ptrCells = (st.snaps.filter fun t => !decide (t.blk = s.blk)).map fun s => bptr s.blk := by
        rw [hlen2, List.flatMap_map]
        induction st.snaps.filter fun t => !decide (t.blk = s.blk) <;> simp_all
      rw [e1] at a
      rw [show (st.snaps.filter fun t => !decide (t.blk = s.blk)).length = ((st.snaps.map Snap.blk).filter fun x => !decide (x = s.blk)).length by rw [hlen2, List.length_map]]
      exact a
    · have := hol q (by rw [← hv1]; exact hq)
      rw [t1 q this.1 (by rw [this.2]; simp) (by rw [this.2]; simp)]; exact this.2
  have hTw : Touch (fun q => o q = .sto ∨ o q = .opens) w W2 := by
    rw [← hW2]
    have T1 : Touch (fun q => o q = .sto ∨ o q = .opens) w w1 := (Touch.ofBelow hB0).trans (hT1.mono fun q _ e => Or.inl (Or.inr (hol q e).2))
    exact T1.setCell (p := ⟨sb, 8, none⟩) (Or.inl (Or.inl tsb)) _
  have h2 := h.closeIn hTw t1 sv2 hR2
  have bx2 : Qb W2 o1 .other w.heap.size [bptr s.blk] 117 := ⟨by rw [← hW2]; exact bx1.other hne2 _, t3⟩
  have sn2 : Qb W2 o1 .other s.blk [bptr sb, .int .i64 s.saw.a, .int .i64 s.saw.b, .int .i64 s.saw.c, .int .i64 s.saw.d, .int .i64 s.saw.e, kv s.blk] 186 := ⟨by rw [← hW2]; exact sn1.other hne _, t4 _ hlt (Or.inl (h.snap s hs).tag)⟩
  have kp2 : Qc W2 o1 .other 233 4 (kv s.blk) s.kept.length (s.kept.flatMap VName.cells) := by
    refine ⟨?_, fun q hq => t4 q ((h.kept s hs).lt hq) (Or.inr ((h.kept s hs).tag q hq))⟩
    rw [← hW2]
    exact Row.other kp1 (fun e => by have := (h.kept s hs).tag sb e; rw [tsb] at this; cases this) _
  obtain ⟨ko, kcap, hks, hkc, hkm, hkcell⟩ := kp2.row.shape
  unfold maxLen at hkm hmx
  have H2 := hide (⟨⟨vb, cb, eb, _, cv, ev, kv, h2⟩, bx2, sn2, kp2, hTw⟩ : StIn W2 o1 sb n { st with snaps := st.snaps.filter fun t => !decide (t.blk = s.blk) } ∧ _ ∧ _ ∧ _ ∧ _)
  have HT := hide (⟨t1, t2, t4⟩ : _ ∧ _ ∧ _)
  have HW2 := hide hW2
  have HKS := hide hks
  have y0 : W2.cell? ⟨w.heap.size, 0, none⟩ = some (bptr s.blk) := bx2.blk.cell 0
  have y6 : W2.cell? ⟨s.blk, 6, none⟩ = some (kv s.blk) := sn2.blk.cell 6
  rw [hks] at y6
  clear h h0 hbx hB0 hz0 hW hs hk hol ho1 t1 t2 t3 t4 hkeep tsb hsw bs1 bx1 sn0 sn1 kp0 kp1 hne hne2 hlen2 sv2 hR2 hTw h2 bx2 sn2 kp2 hkcell hW2 hks hR1 hv1 hT1
  go_upto_region 3 with (fail)
  rw [HW2.out]
  clear c8 f8
  go_wp2_with fail
  clear y0 y6
  go_loopw [23] (fun i wr => ∃ (k : Nat) (o' : Nat → Own), k ≤ s.kept.length ∧ i = .int .i64 k ∧ Hid (StIn wr o' sb n ((s.kept.take k).foldl entrustSt { st with snaps := st.snaps.filter fun t => !decide (t.blk = s.blk) }) ∧ QT stoTag W2 o1 wr o')) (fun i _ => s.kept.length - (intOf i).toNat)
  case atStart => exact ⟨0, o1, Nat.zero_le _, rfl, H2.out.1, QT.refl _ _ _⟩
  case round =>
    obtain ⟨k, o', hkl, rfl, hinv⟩ := hrel
    by_cases hlk : k < s.kept.length
    · have hR := H2.out.2.2.2.1.touch hinv.out.2 sto_other
      rw [HKS.out] at hR
      obtain ⟨g, _, e, -, -, hgl, hcell, -⟩ := Row.pos hR.row (by omega)
      cases e
      have d0 := hcell (k * 4 + 0) (by omega)
      have d1 := hcell (k * 4 + 1) (by omega)
      have d2 := hcell (k * 4 + 2) (by omega)
      have d3 := hcell (k * 4 + 3) (by omega)
      rw [flat_get _ 4 (fun _ => rfl) _ _ _ hlk (by omega)] at d0 d1 d2 d3
      simp only [VName.cells, List.getElem?_cons_zero, List.getElem?_cons_succ, Nat.add_zero] at d0 d1 d2 d3
      obtain ⟨x, hx⟩ : ∃ x, s.kept[k] = x := ⟨_, rfl⟩
      rw [hx] at d0 d1 d2 d3
      have hin : x ∈ s.kept := by rw [← hx]; exact List.getElem_mem hlk
      obtain ⟨hW, hs, hk, -⟩ := HX.out
      have hsub : ∀ t, t ∈ st.snaps.filter (fun t => !decide (t.blk = s.blk)) → t ∈ st.snaps := fun t ht => (List.mem_filter.1 ht).1
      have hW1 : ({ st with snaps := st.snaps.filter fun t => !decide (t.blk = s.blk) } : St).Wf := ⟨hW.here, hW.once, hW.ok, hW.went, fun t ht => hW.kept t (hsub t ht), hW.blks.sublist (List.Sublist.map _ List.filter_sublist)⟩
      have hWk := St.Wf.entrusts (s.kept.take k) hW1 (fun y hy => hW.kept s hs y (List.mem_of_mem_take hy))
      have hk1 : KeptRoom ({ st with snaps := st.snaps.filter fun t => !decide (t.blk = s.blk) } : St) (1 + (s.kept.take k).length) := fun t ht => by
        have := hk t (hsub t ht)
        rw [List.length_take]; omega
      have hkr := KeptRoom.entrusts (s.kept.take k) hk1
      obtain ⟨stk, hstk⟩ : ∃ z, (s.kept.take k).foldl entrustSt { st with snaps := st.snaps.filter fun t => !decide (t.blk = s.blk) } = z := ⟨_, rfl⟩
      have hIk := hinv.out.1
      rw [hstk] at hWk hkr hIk
      have hstep : (s.kept.take (k + 1)).foldl entrustSt { st with snaps := st.snaps.filter fun t => !decide (t.blk = s.blk) } = entrustSt stk x := by
        rw [List.take_succ_eq_append_getElem hlk, List.foldl_append, hstk, hx]; rfl
      generalize hW3 : wr.alloc (.cells #[.string x.at_.key, .string x.at_.el, .int .i64 x.dot.rep, .int .i64 x.dot.seq] 233) = W3
      have hB3 : Below wr.heap.size wr W3 := by rw [← hW3]; exact (Below.refl _ _).alloc (Nat.le_refl _) _
      have hen := entrust_st (hIk.below hB3) hWk.blks x (hW.kept s hs x hin) (fun v hv => ⟨(hWk.went x v hv).r0, (hWk.went x v hv).r5⟩) hkr hn
      simp only [VName.val] at hen
      have HEN := hide hen
      have HW3 := hide hW3
      have HF := hide (⟨hstep, hinv.out.2.below hB3⟩ : _ ∧ QT stoTag W2 o1 W3 o')
      clear hR hcell hx hin hW hs hk hsub hW1 hWk hk1 hkr hstk hIk hstep hW3 hB3 hen
      go_wp2_with fail
      rw [HW3.out]
      refine HEN.out.mono ?_
      rintro e w5 ⟨rfl, o5, hI5, hq5⟩
      clear d0 d1 d2 d3
      go_wp2_with fail
      refine ⟨⟨k + 1, o5, by omega, by go_num, ?_, HF.out.2.trans hq5⟩, by simp [intOf]; omega⟩
      rw [HF.out.1]
      exact hI5
    · have bx := H2.out.2.1.touch hinv.out.2 sto_other
      have sn := H2.out.2.2.1.touch hinv.out.2 sto_other
      have y0 : wr.cell? ⟨w.heap.size, 0, none⟩ = some (bptr s.blk) := bx.blk.cell 0
      have y6 : wr.cell? ⟨s.blk, 6, none⟩ = some (kv s.blk) := sn.blk.cell 6
      have f6 : wr.frozen? ⟨s.blk, 6, none⟩ = false := sn.blk.frozen 6
      have SN := hide sn
      clear bx sn
      go_wp2_with fail
      go_end0
      have hI9 : StIn (wr.setCell ⟨s.blk, 6, none⟩ (.slice none 0 0)) o' sb n (closeSt st s) := by
        have a := hinv.out.1
        rw [List.take_of_length_le (by omega)] at a
        obtain ⟨vb, cb, eb, ov, cv, ev, kv, h⟩ := a
        exact ⟨vb, cb, eb, ov, cv, ev, kv, h.touch (A := (· = .other)) ((QT.refl _ _ _).set (p := ⟨s.blk, 6, none⟩) SN.out.tag _) (fun t ht e => by rw [e] at ht; exact ht)⟩
      obtain ⟨t1, t2, t4⟩ := HT.out
      have hz : w.heap.size ≤ wr.heap.size := Nat.le_trans H2.out.2.2.2.2.size hinv.out.2.size
      have hlw : w.heap.size < W2.heap.size := H2.out.2.1.blk.lt
      refine ⟨rfl, fun q => if q < w.heap.size then o q else o' q, ?_, ?_, SN.out.blk.set 6 (.slice none 0 0)⟩
      · obtain ⟨vb, cb, eb, ov, cv, ev, kv, h⟩ := hI9
        refine ⟨vb, cb, eb, ov, cv, ev, kv, h.move fun q hq ht => ⟨rfl, ?_⟩⟩
        by_cases c : q < w.heap.size
        · have e1 := hinv.out.2.same q (by omega)
          rw [e1] at ht
          simp only [c, if_true]
          rw [e1]; exact (t2 q ht).2.symm
        · simp [c]
      · refine ⟨?_, fun q hq => by simp [hq]⟩
        have T1 : Touch (fun q => stoTag (o q)) w W2 := H2.out.2.2.2.2.mono fun q _ e => by rcases e with e | e <;> rw [e] <;> trivial
        have T2 : Touch (fun q => stoTag (o q)) w wr := T1.trans (hinv.out.2.touch.mono fun q hq e => by
          obtain ⟨a, b⟩ := t2 q e
          rw [b] at e; exact Or.inl e)
        exact T2.setCell (p := ⟨s.blk, 6, none⟩) (Or.inl (by show stoTag (o s.blk); rw [(HH.out.1.snap s HX.out.2.1).tag]; trivial)) _

end Go.Proofs.YtiplgdkpnhamaaaGreatDoor
