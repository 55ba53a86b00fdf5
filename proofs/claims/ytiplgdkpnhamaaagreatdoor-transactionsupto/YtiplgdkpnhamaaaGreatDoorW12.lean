/- The texts V2, C2, V8, D0, X3, V9, X6, C5, joined. -/
import Derived.Test.YtiplgdkpnhamaaaGreatDoorW09
import Derived.Test.YtiplgdkpnhamaaaGreatDoorW11
import Derived.Test.YtiplgdkpnhamaaaGreatDoorW08
import Derived.Test.YtiplgdkpnhamaaaGreatDoorW01
import Derived.Deep.RegionWith
import Derived.Deep.DeepCutAuto
import Derived.Maps.AppendAt

/- The program's store in memory, by owners. -/
namespace Go.Proofs.YtiplgdkpnhamaaaGreatDoor
open Go.RowKit

/-- Whose a block of a replica is. -/
inductive Own where
  | rep : Own
  | sto : Own
  | mv : Own
  | mc : Own
  | me : Own
  | row : Place → Own
  | set : ByteArray → Own
  | opens : Own
  | snap : Nat → Own
  | kept : Nat → Own
  | tx : Nat → Own
  | own : Nat → Own
  | held : Nat → Own
  | other : Own
def stoTag : Own → Prop
  | .sto | .mv | .mc | .me | .row _ | .set _ | .opens | .snap _ | .kept _ => True
  | _ => False

abbrev Dot.cells (d : Dot) : List Value := [.int .i64 d.rep, .int .i64 d.seq]
abbrev VName.cells (x : VName) : List Value := [.string x.at_.key, .string x.at_.el, .int .i64 x.dot.rep, .int .i64 x.dot.seq]
abbrev Vec.cells (v : Vec) : List Value := [.int .i64 v.a, .int .i64 v.b, .int .i64 v.c, .int .i64 v.d, .int .i64 v.e]
abbrev setVal : ByteArray → Value := Value.string
abbrev unitVal : Unit → Value := fun _ => .agg #[]
abbrev mapVal : Nat → Value := fun b => .map (some b)
abbrev idVal : Value → Value := fun v => v
abbrev bptr (b : Nat) : Value := .pointer (some ⟨b, 0, none⟩)
abbrev nilSlice : Value := .slice none 0 0
def elsOf (els : ByteArray → ByteArray → Bool) (k : ByteArray) : ByteArray → Option Unit := fun e => if els k e then some () else none

structure StP (w : World) (o : Nat → Own) (sb vb cb eb : Nat) (ov : Value) (cv : Place → Option Value) (ev : ByteArray → Option Nat) (kv : Nat → Value) (n : Nat) (st : St) : Prop where
  blk : Qb w o .sto sb [.int .i64 st.vis.a, .int .i64 st.vis.b, .int .i64 st.vis.c, .int .i64 st.vis.d, .int .i64 st.vis.e, .map (some vb), .map (some cb), .map (some eb), ov] 183
  vers : MapIn w 233 vb n VName.val Ver.val st.vers
  versT : o vb = .mv
  came : MapIn w 129 cb n Place.val idVal cv
  cameT : o cb = .mc
  rowN : ∀ p, cv p = none → st.came p = []
  row : ∀ p v, cv p = some v → Qc w o (.row p) 62 2 v (st.came p).length ((st.came p).flatMap Dot.cells)
  els : MapIn w 9 eb n setVal mapVal ev
  elsT : o eb = .me
  setN : ∀ k, ev k = none → ∀ e, st.els k e = false
  setT : ∀ k b, ev k = some b → o b = .set k
  set : ∀ k b, ev k = some b → MapIn w 9 b n setVal unitVal (elsOf st.els k)
  opens : Qc w o .opens 117 1 ov st.snaps.length (st.snaps.map fun s => bptr s.blk)
  snap : ∀ s, s ∈ st.snaps → Qb w o (.snap s.blk) s.blk [bptr sb, .int .i64 s.saw.a, .int .i64 s.saw.b, .int .i64 s.saw.c, .int .i64 s.saw.d, .int .i64 s.saw.e, kv s.blk] 186
  kept : ∀ s, s ∈ st.snaps → Qc w o (.kept s.blk) 233 4 (kv s.blk) s.kept.length (s.kept.flatMap VName.cells)
  elsOk : ∀ k e, st.els k e = true → e.size ≤ maxLen
def StIn (w : World) (o : Nat → Own) (sb n : Nat) (st : St) : Prop := ∃ vb cb eb ov cv ev kv, StP w o sb vb cb eb ov cv ev kv n st

section
variable {w w' : World} {o o' : Nat → Own} {sb vb cb eb n : Nat} {ov : Value} {cv : Place → Option Value} {ev : ByteArray → Option Nat} {kv : Nat → Value} {st : St}
theorem MapIn.movet {α β : Type} {k : TypeId} {b n : Nat} {fk : α → Value} {fe : β → Value} {m : α → Option β} {A : Own → Prop} (h : MapIn w k b n fk fe m) (k' : QT A w o w' o') (hA : ¬ A (o b)) : MapIn w' k b n fk fe m := h.move (k'.touch.block b h.lt hA)
theorem MapIn.movem {α β : Type} {k : TypeId} {b n : Nat} {fk : α → Value} {fe : β → Value} {m : α → Option β} {A : Own → Prop} {t : Own} (h : MapIn w k b n fk fe m) (ht : o b = t) (hA : A t) (hm : ∀ q, q < w.heap.size → A (o q) → w'.heap[q]? = w.heap[q]? ∧ o' q = o q) : MapIn w' k b n fk fe m ∧ o' b = t := by
  have := hm b h.lt (by rw [ht]; exact hA)
  exact ⟨h.move this.1, this.2.trans ht⟩
theorem StP.move (h : StP w o sb vb cb eb ov cv ev kv n st) (hm : ∀ q, q < w.heap.size → stoTag (o q) → w'.heap[q]? = w.heap[q]? ∧ o' q = o q) : StP w' o' sb vb cb eb ov cv ev kv n st := by
  have f : ∀ t, stoTag t → ∀ q, q < w.heap.size → o q = t → w'.heap[q]? = w.heap[q]? ∧ o' q = t := fun t ht q hq e => by
    have := hm q hq (by rw [e]; exact ht)
    exact ⟨this.1, this.2.trans e⟩
  obtain ⟨m1, t1⟩ := h.vers.movem h.versT (A := stoTag) trivial hm
  obtain ⟨m2, t2⟩ := h.came.movem h.cameT (A := stoTag) trivial hm
  obtain ⟨m3, t3⟩ := h.els.movem h.elsT (A := stoTag) trivial hm
  exact ⟨h.blk.move2 (f _ trivial), m1, t1, m2, t2, h.rowN, fun p v e => (h.row p v e).move2 (f _ trivial), m3, t3, h.setN, fun k b e => ((h.set k b e).movem (h.setT k b e) (A := stoTag) trivial hm).2, fun k b e => ((h.set k b e).movem (h.setT k b e) (A := stoTag) trivial hm).1,
    h.opens.move2 (f _ trivial), fun s hs => (h.snap s hs).move2 (f _ trivial), fun s hs => (h.kept s hs).move2 (f _ trivial), h.elsOk⟩
theorem StP.touch {A : Own → Prop} (h : StP w o sb vb cb eb ov cv ev kv n st) (k : QT A w o w' o') (hA : ∀ t, stoTag t → ¬ A t) : StP w' o' sb vb cb eb ov cv ev kv n st :=
  h.move fun q hq e => ⟨k.touch.block q hq (hA _ e), k.same q hq⟩
theorem StP.below (h : StP w o sb vb cb eb ov cv ev kv n st) (hB : Below w.heap.size w w') : StP w' o sb vb cb eb ov cv ev kv n st :=
  h.move fun q hq _ => ⟨hB.block q hq, rfl⟩
theorem StP.mono {n' : Nat} (h : StP w o sb vb cb eb ov cv ev kv n st) (hn : n ≤ n') : StP w o sb vb cb eb ov cv ev kv n' st :=
  ⟨h.blk, h.vers.mono hn, h.versT, h.came.mono hn, h.cameT, h.rowN, h.row, h.els.mono hn, h.elsT, h.setN, h.setT, fun k b e => (h.set k b e).mono hn, h.opens, h.snap, h.kept, h.elsOk⟩
/-- A place's list as it is looked up: nil, if there is none. -/
def cvAt (cv : Place → Option Value) (p : Place) : Value := (cv p).getD nilSlice
theorem StP.rowAt (h : StP w o sb vb cb eb ov cv ev kv n st) (p : Place) : Qc w o (.row p) 62 2 (cvAt cv p) (st.came p).length ((st.came p).flatMap Dot.cells) := by
  unfold cvAt
  cases e : cv p with
  | none =>
    rw [h.rowN p e]
    exact ⟨⟨by simp, .inl ⟨rfl, rfl⟩⟩, fun q hq => by simp [Value.ownBlock] at hq⟩
  | some v => exact h.row p v e
/-- Only blocks of one owner have turned: what is of the others goes on. -/
theorem StP.setVers {vers' : VName → Option Ver} (h : StP w o sb vb cb eb ov cv ev kv n st) (k : QT (· = .mv) w o w' o') (hM : MapIn w' 233 vb n VName.val Ver.val vers') : StP w' o' sb vb cb eb ov cv ev kv n { st with vers := vers' } :=
  ⟨h.blk.touch k (by simp), hM, (k.same _ h.vers.lt).trans h.versT, h.came.movet k (by rw [h.cameT]; simp), (k.same _ h.came.lt).trans h.cameT, h.rowN, fun p v e => (h.row p v e).touch k (by simp), h.els.movet k (by rw [h.elsT]; simp), (k.same _ h.els.lt).trans h.elsT, h.setN,
    fun x b e => (k.same _ (h.set x b e).lt).trans (h.setT x b e), fun x b e => (h.set x b e).movet k (by rw [h.setT x b e]; simp), h.opens.touch k (by simp), fun s hs => (h.snap s hs).touch k (by simp), fun s hs => (h.kept s hs).touch k (by simp), h.elsOk⟩
end

end Go.Proofs.YtiplgdkpnhamaaaGreatDoor

/- The program's Snapshot.reads. -/
namespace Go.Proofs.YtiplgdkpnhamaaaGreatDoor
open Go.RowKit

theorem zeroVer (w : World) : (zeroValue 239).run Tryz.prog w = .ok noVer.val w := by kernel_rfl
theorem ver_look {w : World} {mb n : Nat} {vers : VName → Option Ver} {x : VName} (hM : MapIn w 233 mb n VName.val Ver.val vers) (hx : x.Ok) {W : World} (hW : W.heap[mb]? = w.heap[mb]?) :
    (Instr.lookup 178 (.map (some mb)) (.agg #[.string x.at_.key, .string x.at_.el, .int .i64 x.dot.rep, .int .i64 x.dot.seq]) false).run Tryz.prog W = .ok (verAt vers x).val W := by
  obtain ⟨kl, hk⟩ := hx.lit
  have a := (hM.move hW).lookup (t := 178) name_keyed Tryz.underlying178 (zeroVer W) hk
  have e : (vers x).elim noVer.val Ver.val = (verAt vers x).val := by unfold verAt; cases vers x <;> rfl
  rw [e] at a
  exact a

set_option maxRecDepth 100000 in
set_option maxHeartbeats 4000000 in
theorem reads_any (w : World) (nb sb mb n : Nat) (saw : Vec) (kept : Value) (x : VName) (vers : VName → Option Ver) (hN : Blk w nb [.pointer (some ⟨sb, 0, none⟩), .int .i64 saw.a, .int .i64 saw.b, .int .i64 saw.c, .int .i64 saw.d, .int .i64 saw.e, kept] 186)
    (hS : w.cell? ⟨sb, 5, none⟩ = some (.map (some mb))) (hM : MapIn w 233 mb n VName.val Ver.val vers) (hx : x.Ok) (hw : ∀ v, vers x = some v → 0 ≤ v.went.rep ∧ v.went.rep < 5) :
    Calls Tryz.prog 176 #[.pointer (some ⟨nb, 0, none⟩), x.val] w fun e w' => e = .returned (.bool (readsB saw vers x)) ∧ Below w.heap.size w w' := by
  have hml := hM.lt
  have hnl := hN.lt
  have hsl := World.block_lt_of_cell? w _ hS
  have hs1 : (w.alloc (.cells #[.string x.at_.key, .string x.at_.el, .int .i64 x.dot.rep, .int .i64 x.dot.seq] 233)).heap.size = w.heap.size + 1 := by simp
  have hB1 : Below w.heap.size w (w.alloc (.cells #[.string x.at_.key, .string x.at_.el, .int .i64 x.dot.rep, .int .i64 x.dot.seq] 233)) := (Below.refl _ _).alloc (Nat.le_refl _) _
  have HL : Hid (∀ W, Below w.heap.size w W → (Instr.lookup 178 (.map (some mb)) (.agg #[.string x.at_.key, .string x.at_.el, .int .i64 x.dot.rep, .int .i64 x.dot.seq]) false).run Tryz.prog W = .ok (verAt vers x).val W) := fun W hB => ver_look hM hx (hB.block mb hml)
  have HW : Hid (0 ≤ (verAt vers x).went.rep ∧ (verAt vers x).went.rep < 5) := by
    unfold Hid verAt
    cases hv : vers x with
    | none => exact ⟨by simp [noVer], by simp [noVer]⟩
    | some v => exact hw v hv
  have n0 : w.cell? ⟨nb, 0, none⟩ = some (.pointer (some ⟨sb, 0, none⟩)) := hN.cell 0
  have n1 : w.cell? ⟨nb, 1, none⟩ = some (.int .i64 saw.a) := hN.cell 1
  have n2 : w.cell? ⟨nb, 2, none⟩ = some (.int .i64 saw.b) := hN.cell 2
  have n3 : w.cell? ⟨nb, 3, none⟩ = some (.int .i64 saw.c) := hN.cell 3
  have n4 : w.cell? ⟨nb, 4, none⟩ = some (.int .i64 saw.d) := hN.cell 4
  have n5 : w.cell? ⟨nb, 5, none⟩ = some (.int .i64 saw.e) := hN.cell 5
  have HX : Hid (0 ≤ x.dot.rep ∧ x.dot.rep < 5) := ⟨hx.dot.r0, hx.dot.r5⟩
  unfold readsB
  generalize verAt vers x = v at *
  obtain ⟨⟨px, py⟩, ⟨dr, dsq⟩⟩ := x
  simp only [VName.val] at *
  clear hN hM hx hw
  obtain ⟨b1, hb1⟩ : ∃ b, saw.covers ⟨dr, dsq⟩ = b := ⟨_, rfl⟩
  obtain ⟨b2, hb2⟩ : ∃ b, saw.covers v.went = b := ⟨_, rfl⟩
  obtain ⟨b3, hb3⟩ : ∃ b, v.stands = b := ⟨_, rfl⟩
  rw [hb1, hb2, hb3]
  have l1 := HL.out _ hB1
  have l2 := HL.out _ (hB1.alloc hB1.size (.cells #[.int .i64 0, .int .i64 0, .int .i64 0, .string ⟨#[]⟩] 239))
  have l1d := HL.out _ hB1.drew
  have l2d := HL.out _ (hB1.alloc hB1.size (.cells #[.int .i64 0, .int .i64 0, .int .i64 0, .string ⟨#[]⟩] 239)).drew
  clear HL
  go_enter Tryz.func176, Tryz.ntmps176
  go_upto_region 1 with (fail)
  go_cut [5] (fun p wc => ∃ vb, p = .pointer (some ⟨vb, 0, none⟩) ∧ Hid (Blk wc vb [.int .i64 v.went.rep, .int .i64 v.went.seq, .int .i64 v.sum, .string v.value] 239 ∧ Below (w.heap.size + 1) (w.alloc (.cells #[.string px, .string py, .int .i64 dr, .int .i64 dsq] 233)) wc))
  case first =>
    go_region
    all_goals go_wp2_with fail
    all_goals go_meet
    all_goals
      refine ⟨_, rfl, ?_, ((Below.refl _ _).alloc (by omega) _).drew⟩
      have a := heap_alloc_new (w.alloc (.cells #[.string px, .string py, .int .i64 dr, .int .i64 dsq] 233)) (.cells #[.int .i64 v.went.rep, .int .i64 v.went.seq, .int .i64 v.sum, .string v.value] 239)
      rw [hs1] at a
      exact a
  case rest =>
    obtain ⟨vb, rfl, hcc⟩ := hcut
    have hBw : Below w.heap.size w wc := hB1.trans (hcc.out.2.mono (by omega))
    have HBw := hide hBw
    have m1 := Bel.cell (cell_later hBw n1)
    have m2 := Bel.cell (cell_later hBw n2)
    have m3 := Bel.cell (cell_later hBw n3)
    have m4 := Bel.cell (cell_later hBw n4)
    have m5 := Bel.cell (cell_later hBw n5)
    have v0 : wc.cell? ⟨vb, 0, none⟩ = some (.int .i64 v.went.rep) := hcc.out.1.cell 0
    have v1 : wc.cell? ⟨vb, 1, none⟩ = some (.int .i64 v.went.seq) := hcc.out.1.cell 1
    have v2 : wc.cell? ⟨vb, 2, none⟩ = some (.int .i64 v.sum) := hcc.out.1.cell 2
    have v3 : wc.cell? ⟨vb, 3, none⟩ = some (.string v.value) := hcc.out.1.cell 3
    have u0 := Bel.cell v0
    have u1 := Bel.cell v1
    have u2 := Bel.cell v2
    have u3 := Bel.cell v3
    have d2 : wc.cell? ⟨w.heap.size, 2, none⟩ = some (.int .i64 dr) := by rw [hcc.out.2.cell (p := ⟨w.heap.size, 2, none⟩) (by show w.heap.size < w.heap.size + 1; omega)]; simp
    have d3 : wc.cell? ⟨w.heap.size, 3, none⟩ = some (.int .i64 dsq) := by rw [hcc.out.2.cell (p := ⟨w.heap.size, 3, none⟩) (by show w.heap.size < w.heap.size + 1; omega)]; simp
    have e2 := Bel.cell d2
    have e3 := Bel.cell d3
    clear v0 v1 v2 v3 d2 d3 hBw hcc n0 n1 n2 n3 n4 n5 l1 l2 l1d l2d hS hml hnl hsl hs1 hB1
    have c1 : ∀ f : Fam (Bel wc), Calls Tryz.prog 169 #[saw.val, .agg #[.int .i64 dr, .int .i64 dsq]] f.w fun e w'' => e = .returned (.bool (saw.covers ⟨dr, dsq⟩)) ∧ ∃ g : Fam (Bel wc), w'' = g.w := fun f => Bel.call f (covers_any f.w saw ⟨dr, dsq⟩ HX.out.1 HX.out.2)
    have c2 : ∀ f : Fam (Bel wc), Calls Tryz.prog 169 #[saw.val, .agg #[.int .i64 v.went.rep, .int .i64 v.went.seq]] f.w fun e w'' => e = .returned (.bool (saw.covers v.went)) ∧ ∃ g : Fam (Bel wc), w'' = g.w := fun f => Bel.call f (covers_any f.w saw v.went HW.out.1 HW.out.2)
    have c3 : ∀ f : Fam (Bel wc), Calls Tryz.prog 180 #[v.val] f.w fun e w'' => e = .returned (.bool v.stands) ∧ ∃ g : Fam (Bel wc), w'' = g.w := fun f => Bel.call f (stands_any f.w v)
    rw [hb1] at c1
    rw [hb2] at c2
    rw [hb3] at c3
    clear hb1 hb2 hb3
    have HC := hide c1
    have HD := hide c2
    have HE := hide c3
    clear c1 c2 c3
    go_wp2_with fail
    cases b1 <;> cases b2 <;> cases b3
    all_goals
      refine region_fam (Bel wc) (by kernel_rfl) (by kernel_rfl) (Below.refl _ _).drew ?_
      repeat (go_big_quiet_step (first | (go_at_call 180; exact HE.out _) | (go_at_call_of 169 (Value.agg #[Value.int .i64 dr, Value.int .i64 dsq]); exact HC.out _) | (go_at_call_of 169 (Value.agg #[Value.int .i64 v.went.rep, Value.int .i64 v.went.seq]); exact HD.out _)))
      refine wpQuiet_nil ?_
      intro _ hw'
      obtain ⟨fq, rfl⟩ := hw'
      go_wp2_with fail
      go_ret
      exact ⟨rfl, HBw.out.trans (fq.ok.mono HBw.out.size)⟩

end Go.Proofs.YtiplgdkpnhamaaaGreatDoor

/- The store behind N transactions: one more; snapshots opened and closed; what is told. -/
namespace Go.Proofs.YtiplgdkpnhamaaaGreatDoor
open Go.RowKit

structure GInv (H : Hist) (isSet : Place → Prop) (N : Nat) (st : St) : Prop where
  wf : st.Wf
  pl : ∀ p, PInv H p N st
  els : EInv isSet st
  kn : KNod st
  vis : ∀ j, j < N → st.vis.covers (H.dot j) = true
  snaps : ∀ s, s ∈ st.snaps → ∃ T, T ≤ N ∧ H.at s.saw T N
theorem GInv.begin_ {H : Hist} {isSet : Place → Prop} {N : Nat} {st : St} (h : GInv H isSet N st) : MInv H isSet N (fun p => (H.wr N p).isSome) st st := by
  refine ⟨h.wf, fun p => ?_, h.els, h.kn, rfl, fun s hs => ⟨s, hs, rfl, rfl⟩, rfl⟩
  split
  · exact h.pl p
  · rename_i c
    exact (h.pl p).dead (by simpa using c)
theorem MInv.end_ {H : Hist} {isSet : Place → Prop} {N : Nat} {left : Place → Bool} {st0 st : St} (h : MInv H isSet N left st0 st) (h0 : GInv H isSet N st0) (hl : ∀ p, left p = false) (hs : ∀ s, s ∈ st0.snaps → s.saw.covers (H.dot N) = false) {v : Vec} (hv : ∀ j, j < N + 1 → v.covers (H.dot j) = true) : GInv H isSet (N + 1) { st with vis := v } := by
  refine ⟨⟨h.wf.here, h.wf.once, h.wf.ok, h.wf.went, h.wf.kept, h.wf.blks⟩, fun p => ?_, h.els, h.kn, hv, fun s' hs' => ?_⟩
  · have := h.pl p
    rw [hl p] at this
    exact this.other (fun _ => rfl) (fun s hs => ⟨s, hs, rfl, fun _ => id⟩)
  · obtain ⟨s, a, b, -⟩ := h.snaps s' hs'
    obtain ⟨T, hT, hat⟩ := h0.snaps s a
    refine ⟨T, by omega, fun j hj => ?_⟩
    rw [b]
    rcases Nat.lt_or_ge j N with c | c
    · exact hat j c
    · have : j = N := by omega
      subst this
      rw [hs s a]; simp; omega
def openSt (st : St) (b : Nat) : St := { st with snaps := st.snaps ++ [⟨b, st.vis, []⟩] }
theorem GInv.open_ {H : Hist} {isSet : Place → Prop} {N : Nat} {st : St} (h : GInv H isSet N st) {b : Nat} (hb : b ∉ st.snaps.map Snap.blk) : GInv H isSet N (openSt st b) := by
  have hmem : ∀ s, s ∈ (openSt st b).snaps → s ∈ st.snaps ∨ s = ⟨b, st.vis, []⟩ := fun s hs => by
    have hs' : s ∈ st.snaps ++ [⟨b, st.vis, []⟩] := hs
    simpa using hs'
  refine ⟨⟨h.wf.here, h.wf.once, h.wf.ok, h.wf.went, fun s hs x hx => ?_, ?_⟩, fun p => ⟨(h.pl p).b, fun j hj hi hc => ?_, fun s hs d hd => ?_⟩, h.els, ?_, h.vis, fun s hs => ?_⟩
  · rcases hmem s hs with c | rfl
    · exact h.wf.kept s c x hx
    · simp at hx
  · show ((st.snaps ++ [(⟨b, st.vis, []⟩ : Snap)]).map Snap.blk).Nodup
    rw [List.map_append, List.nodup_append]
    exact ⟨h.wf.blks, by simp, fun a ha c hc e => hb (by simp at hc; rw [← hc, ← e]; exact ha)⟩
  · refine (h.pl p).c j hj hi (hc.imp id ?_)
    rintro ⟨s, k, h1, h2, h3, h4⟩
    rcases hmem s h1 with c | rfl
    · exact ⟨s, k, c, h2, h3, h4⟩
    · have := h.vis k (Hist.wentAt_lt h3).2.1
      rw [h4] at this; cases this
  · rcases hmem s hs with c | rfl
    · exact (h.pl p).e s c d hd
    · simp at hd
  · show ((st.snaps ++ [(⟨b, st.vis, []⟩ : Snap)]).flatMap Snap.kept).Nodup
    rw [List.flatMap_append]
    have := h.kn
    unfold KNod at this
    simpa using this
  · rcases hmem s hs with c | rfl
    · exact h.snaps s c
    · exact ⟨N, Nat.le_refl _, fun j hj => by rw [h.vis j hj]; simp [hj]⟩
/-- A version that has gone is left to somebody, or let go. -/
theorem PInv.entrust {H : Hist} {p : Place} {N j : Nat} {st : St} (h : PInv H p N st) (hO : H.Ok N) (hj : j < N) (hi : H.isVer p j = true) (hw : (H.wentAt p j N).isSome) : PInv H p N (entrustSt st ⟨p, H.dot j⟩) := by
  have hbut := entrust_but st ⟨p, H.dot j⟩
  have hself : (entrustSt st ⟨p, H.dot j⟩).vers ⟨p, H.dot j⟩ = st.vers ⟨p, H.dot j⟩ ∨ ((entrustSt st ⟨p, H.dot j⟩).vers ⟨p, H.dot j⟩ = none ∧ ∀ s, s ∈ st.snaps → readsB s.saw st.vers ⟨p, H.dot j⟩ = false) := by
    unfold entrustSt
    split
    · exact Or.inl rfl
    · rename_i c
      exact Or.inr ⟨setVer_same _ _ _, fun s hs => keepAt_none c s hs⟩
  have hoth : ∀ d, d ≠ H.dot j → (entrustSt st ⟨p, H.dot j⟩).vers ⟨p, d⟩ = st.vers ⟨p, d⟩ := fun d hd => entrust_other (fun e => hd (VName.mk.inj e).2)
  refine ⟨fun d v hd => ?_, fun i hi1 hi2 hc => ?_, fun s hs d hd => ?_⟩
  · by_cases c : d = H.dot j
    · subst c
      rcases hself with e | ⟨e, -⟩
      · rw [e] at hd; exact h.b _ _ hd
      · rw [e] at hd; cases hd
    · rw [hoth d c] at hd; exact h.b _ _ hd
  · have hold : st.vers ⟨p, H.dot i⟩ = some (H.verOf p i N) := by
      refine h.c i hi1 hi2 (hc.imp id ?_)
      rintro ⟨s, k, h1, h2, h3, h4⟩
      obtain ⟨s0, a, b, -⟩ := hbut s h1
      exact ⟨s0, k, a, by rw [← b]; exact h2, h3, by rw [← b]; exact h4⟩
    by_cases c : i = j
    · subst c
      rcases hself with e | ⟨e, hno⟩
      · rw [e]; exact hold
      · rcases hc with hc | ⟨s, k, h1, h2, h3, h4⟩
        · rw [hc] at hw; cases hw
        · obtain ⟨s0, a, b, -⟩ := hbut s h1
          have := hno s0 a
          rw [(Hist.reads_iff hO hold).2 ⟨by rw [← b]; exact h2, Or.inr ⟨k, h3, by rw [← b]; exact h4⟩⟩] at this
          cases this
    · rw [hoth _ (fun e => c (hO.inj i j hi1 hj e))]; exact hold
  · by_cases c : d = H.dot j
    · subst c; exact ⟨j, hj, rfl, hi, hw⟩
    · have hs2 := hs
      unfold entrustSt at hs2
      split at hs2
      · rename_i m hm
        obtain ⟨a, s0, b, e, rfl, -, -⟩ := keepAt_some hm
        have hs' : s ∈ a ++ keepFor ⟨p, H.dot j⟩ s0 :: b := hs2
        rw [List.mem_append, List.mem_cons] at hs'
        rcases hs' with q | q | q
        · exact h.e s (by rw [e]; simp [q]) d hd
        · subst q
          have hd2 : (⟨p, d⟩ : VName) ∈ s0.kept ++ [⟨p, H.dot j⟩] := hd
          rw [List.mem_append, List.mem_singleton] at hd2
          rcases hd2 with q | q
          · exact h.e s0 (by rw [e]; simp) d q
          · exact absurd (VName.mk.inj q).2 c
        · exact h.e s (by rw [e]; simp [q]) d hd
      · exact h.e s hs2 d hd
/-- What a closed snapshot kept. -/
structure GoneAt (H : Hist) (N : Nat) (x : VName) : Prop where
  ex : ∃ j, j < N ∧ x.dot = H.dot j ∧ H.isVer x.at_ j = true ∧ (H.wentAt x.at_ j N).isSome
theorem GInv.entrust {H : Hist} {isSet : Place → Prop} {N : Nat} {st : St} {x : VName} (h : GInv H isSet N st) (hO : H.Ok N) (hx : GoneAt H N x) (hk : ∀ s, s ∈ st.snaps → x ∉ s.kept) (hxo : x.Ok) : GInv H isSet N (entrustSt st x) := by
  obtain ⟨j, hj, hd, hi, hw⟩ := hx.ex
  have hbut := entrust_but st x
  refine ⟨h.wf.entrust hxo, fun p => ?_, h.els.entrust x, h.kn.entrust hk, by rw [entrust_vis]; exact h.vis, fun s hs => ?_⟩
  · by_cases c : p = x.at_
    · subst c
      have e : x = ⟨x.at_, H.dot j⟩ := by rw [← hd]
      rw [e]
      exact (h.pl x.at_).entrust hO hj hi hw
    · refine (h.pl p).other (fun d => entrust_other (fun e => c (by rw [← e]))) (fun s' hs' => ?_)
      obtain ⟨s, a, b, -, c'⟩ := hbut s' hs'
      exact ⟨s, a, b, fun d hd => (c' _ hd).elim id (fun e => absurd e c)⟩
  · obtain ⟨s0, a, b, -⟩ := hbut s hs
    rw [b]; exact h.snaps s0 a
theorem entrust_kept {st : St} {x y : VName} (hy : ∀ s, s ∈ st.snaps → y ∉ s.kept) (hne : y ≠ x) : ∀ s, s ∈ (entrustSt st x).snaps → y ∉ s.kept := by
  unfold entrustSt
  split
  · rename_i m hm
    obtain ⟨a, s0, b, e, rfl, -, -⟩ := keepAt_some hm
    rw [e] at hy
    intro s hs
    have hs' : s ∈ a ++ keepFor x s0 :: b := hs
    rw [List.mem_append, List.mem_cons] at hs'
    rcases hs' with q | q | q
    · exact hy s (by simp [q])
    · subst q
      intro c
      have c' : y ∈ s0.kept ++ [x] := c
      rw [List.mem_append, List.mem_singleton] at c'
      exact c'.elim (hy s0 (by simp)) hne
    · exact hy s (by simp [q])
  · exact hy
theorem GInv.entrusts {H : Hist} {isSet : Place → Prop} {N : Nat} (hO : H.Ok N) : ∀ (l : List VName) (st : St), GInv H isSet N st → l.Nodup → (∀ x, x ∈ l → GoneAt H N x ∧ x.Ok ∧ ∀ s, s ∈ st.snaps → x ∉ s.kept) → GInv H isSet N (l.foldl entrustSt st)
  | [], _, h, _, _ => h
  | a :: l, st, h, hn, hl => by
    obtain ⟨ha, hn'⟩ := List.nodup_cons.1 hn
    obtain ⟨a1, a2, a3⟩ := hl a (by simp)
    refine GInv.entrusts hO l _ (h.entrust hO a1 a3 a2) hn' fun x hx => ?_
    obtain ⟨x1, x2, x3⟩ := hl x (by simp [hx])
    exact ⟨x1, x2, entrust_kept x3 (fun e => ha (e ▸ hx))⟩
def closeSt (st : St) (s : Snap) : St := s.kept.foldl entrustSt { st with snaps := st.snaps.filter fun t => !decide (t.blk = s.blk) }
theorem GInv.close {H : Hist} {isSet : Place → Prop} {N : Nat} {st : St} {s : Snap} (h : GInv H isSet N st) (hO : H.Ok N) (hs : s ∈ st.snaps) : GInv H isSet N (closeSt st s) := by
  have hsub : ∀ t, t ∈ st.snaps.filter (fun t => !decide (t.blk = s.blk)) → t ∈ st.snaps := fun t ht => (List.mem_filter.1 ht).1
  have hne : ∀ t, t ∈ st.snaps.filter (fun t => !decide (t.blk = s.blk)) → t.blk ≠ s.blk := fun t ht => by have := (List.mem_filter.1 ht).2; simpa using this
  have hkn := h.kn
  unfold KNod at hkn
  obtain ⟨a, b, e⟩ := List.append_of_mem hs
  have hdis : ∀ t, t ∈ st.snaps → t.blk ≠ s.blk → ∀ x, x ∈ s.kept → x ∉ t.kept := fun t ht hb x hx c => by
    rw [e] at ht hkn
    rw [List.flatMap_append, List.flatMap_cons, List.nodup_append] at hkn
    obtain ⟨n1, n2, n3⟩ := hkn
    rw [List.nodup_append] at n2
    rw [List.mem_append, List.mem_cons] at ht
    rcases ht with q | q | q
    · exact n3 x (List.mem_flatMap.2 ⟨t, q, c⟩) x (List.mem_append.2 (Or.inl hx)) rfl
    · subst q; exact hb rfl
    · exact n2.2.2 x hx x (List.mem_flatMap.2 ⟨t, q, c⟩) rfl
  have hnod : s.kept.Nodup := by
    rw [e] at hkn
    rw [List.flatMap_append, List.flatMap_cons, List.nodup_append] at hkn
    exact (List.nodup_append.1 hkn.2.1).1
  refine GInv.entrusts hO s.kept _ ⟨⟨h.wf.here, h.wf.once, h.wf.ok, h.wf.went, fun t ht => h.wf.kept t (hsub t ht), ?_⟩, fun p => (h.pl p).other (fun _ => rfl) (fun t ht => ⟨t, hsub t ht, rfl, fun _ => id⟩), h.els, ?_, h.vis, fun t ht => h.snaps t (hsub t ht)⟩ hnod fun x hx => ⟨?_, h.wf.kept s hs x hx, fun t ht => hdis t (hsub t ht) (hne t ht) x hx⟩
  · exact h.wf.blks.sublist (List.Sublist.map _ List.filter_sublist)
  · refine List.Nodup.sublist ?_ h.kn
    rw [List.flatMap_def, List.flatMap_def]
    have : ∀ l : List Snap, ((l.filter fun t => !decide (t.blk = s.blk)).map Snap.kept).flatten.Sublist (l.map Snap.kept).flatten := fun l => by
      induction l with
      | nil => simp
      | cons t l ih =>
        by_cases c : t.blk = s.blk
        · simp only [List.filter_cons, c, decide_true, Bool.not_true, Bool.false_eq_true, if_false, List.map_cons, List.flatten_cons]
          exact ih.trans (List.sublist_append_right _ _)
        · simp only [List.filter_cons, c, decide_false, Bool.not_false, if_true, List.map_cons, List.flatten_cons]
          exact List.Sublist.append (List.Sublist.refl _) ih
    exact this _
  · obtain ⟨j, h1, h2, h3, h4⟩ := (h.pl x.at_).e s hs x.dot hx
    exact ⟨j, h1, h2, h3, h4⟩

/-- What stood of a place when T were visible. -/
def Hist.cur (H : Hist) (p : Place) (T j : Nat) : Prop := j < T ∧ H.isVer p j = true ∧ H.wentAt p j T = none
theorem told_mem {H : Hist} {isSet : Place → Prop} {N T : Nat} {st : St} {saw : Vec} (h : GInv H isSet N st) (hO : H.Ok N) {s : Snap} (hs : s ∈ st.snaps) (e : s.saw = saw) (hT : T ≤ N) (ha : H.at saw T N) (p : Place) (d : Dot) :
    d ∈ toldRaw saw st p ↔ ∃ j, H.cur p T j ∧ d = H.dot j := by
  unfold toldRaw
  rw [List.mem_filter, h.wf.here]
  constructor
  · rintro ⟨hv, hr⟩
    obtain ⟨v, hv⟩ := Option.isSome_iff_exists.1 hv
    obtain ⟨j, hj, rfl, hi, rfl⟩ := (h.pl p).b d v hv
    rw [Hist.reads_iff hO hv, ha j hj] at hr
    refine ⟨j, ⟨by simpa using hr.1, hi, (Hist.wentAt_back hT).2 (hr.2.imp id ?_)⟩, rfl⟩
    rintro ⟨k, h1, h2⟩
    rw [ha k (Hist.wentAt_lt h1).2.1] at h2
    exact ⟨k, h1, by simpa using h2⟩
  · rintro ⟨j, ⟨hj, hi, hw⟩, rfl⟩
    have hjN : j < N := by omega
    have hw' := (Hist.wentAt_back hT).1 hw
    have hcov : saw.covers (H.dot j) = true := by rw [ha j hjN]; simpa using hj
    have hr2 : H.wentAt p j N = none ∨ ∃ k, H.wentAt p j N = some k ∧ saw.covers (H.dot k) = false := hw'.imp id fun ⟨k, h1, h2⟩ => ⟨k, h1, by rw [ha k (Hist.wentAt_lt h1).2.1]; simpa using h2⟩
    have hv : st.vers ⟨p, H.dot j⟩ = some (H.verOf p j N) := (h.pl p).c j hjN hi (hr2.imp id fun ⟨k, h1, h2⟩ => ⟨s, k, hs, by rw [e]; exact hcov, h1, by rw [e]; exact h2⟩)
    exact ⟨by rw [hv]; rfl, (Hist.reads_iff hO hv).2 ⟨hcov, hr2⟩⟩
theorem told_ver {H : Hist} {isSet : Place → Prop} {N : Nat} {st : St} {saw : Vec} (h : GInv H isSet N st) {p : Place} {d : Dot} (hd : d ∈ toldRaw saw st p) : ∃ j, j < N ∧ d = H.dot j ∧ H.isVer p j = true ∧ verAt st.vers ⟨p, d⟩ = H.verOf p j N := by
  unfold toldRaw at hd
  rw [List.mem_filter, h.wf.here] at hd
  obtain ⟨v, hv⟩ := Option.isSome_iff_exists.1 hd.1
  obtain ⟨j, hj, rfl, hi, rfl⟩ := (h.pl p).b d v hv
  exact ⟨j, hj, rfl, hi, by unfold verAt; rw [hv]; rfl⟩
theorem told_nodup {H : Hist} {isSet : Place → Prop} {N : Nat} {st : St} (h : GInv H isSet N st) (saw : Vec) (p : Place) : (toldRaw saw st p).Nodup := (h.wf.once p).sublist List.filter_sublist
/-- A counter: whatever order its versions are told in. -/
theorem sum_told {H : Hist} {isSet : Place → Prop} {N T : Nat} {st : St} {saw : Vec} (h : GInv H isSet N st) (hO : H.Ok N) {s : Snap} (hs : s ∈ st.snaps) (e : s.saw = saw) (hT : T ≤ N) (ha : H.at saw T N) {p : Place} (hk : ∀ j x, j < N → H.wr j p = some x → x.kind = 0) {l : List Dot} (hl : l.Perm (toldRaw saw st p)) :
    l.foldl (fun a d => wrap64 (a + (verAt st.vers ⟨p, d⟩).sum)) 0 = H.total p T := by
  have hm : ∀ d, d ∈ l ↔ ∃ j, H.cur p T j ∧ d = H.dot j := fun d => (hl.mem_iff).trans (told_mem h hO hs e hT ha p d)
  have hov : ∀ j k, j < N → k < N → (H.wr k p).isSome → H.over p k j = true := fun j k _ hkN hw => by
    obtain ⟨x, hx⟩ := Option.isSome_iff_exists.1 hw
    unfold Hist.over; rw [hx]; simp [hk k x hkN hx]
  have hfree : ∀ j, H.cur p T j → ∀ k, j < k → k < T → H.wr k p = none := fun j hj k h1 h2 => by
    cases c : H.wr k p with
    | none => rfl
    | some x =>
      have := Hist.wentAt_none hj.2.2 k h1 h2
      have hj1 := hj.1
      rw [hov j k (by omega) (by omega) (by rw [c]; rfl)] at this
      cases this
  have hwr : ∀ j, H.isVer p j = true → (H.wr j p).isSome := fun j hj => by
    unfold Hist.isVer at hj
    split at hj
    · cases hj
    · rename_i x hx; rw [hx]; rfl
  have huniq : ∀ j j', H.cur p T j → H.cur p T j' → j = j' := fun j j' hj hj' => by
    have h1 := hj.1
    have h2 := hj'.1
    rcases Nat.lt_trichotomy j j' with c | c | c
    · have a := hfree j hj j' c h2
      have b := hwr j' hj'.2.1
      rw [a] at b; cases b
    · exact c
    · have a := hfree j' hj' j c h1
      have b := hwr j hj.2.1
      rw [a] at b; cases b
  have hnd : l.Nodup := hl.nodup_iff.2 (told_nodup h saw p)
  match l, hm, hnd with
  | [], hm, _ =>
    show 0 = H.total p T
    rcases H.last_writer p T with c | ⟨j, hj, hw, hlast⟩
    · have := Hist.total_still (H := H) (p := p) (j := 0) T (fun k _ b => c k (by omega))
      rw [Nat.zero_add] at this
      rw [this]; rfl
    · have e2 := Hist.total_still (H := H) (p := p) (j := j + 1) (T - (j + 1)) (fun k a b => hlast k (by omega) (by omega))
      rw [show j + 1 + (T - (j + 1)) = T by omega] at e2
      rw [e2]
      obtain ⟨x, hx⟩ := Option.isSome_iff_exists.1 hw
      cases hi : H.isVer p j with
      | true =>
        have : H.cur p T j := ⟨hj, hi, Hist.wentAt_free fun k a b => by unfold Hist.over; rw [hlast k a b]⟩
        have := (hm (H.dot j)).2 ⟨j, this, rfl⟩
        simp at this
      | false =>
        unfold Hist.isVer at hi
        rw [hx] at hi
        simp only [hk j x (by omega) hx, if_true] at hi
        simp at hi
        exact hi.symm
  | [d], hm, _ =>
    obtain ⟨j, hj, rfl⟩ := (hm d).1 (by simp)
    have hd' : H.dot j ∈ toldRaw saw st p := (told_mem h hO hs e hT ha p _).2 ⟨j, hj, rfl⟩
    obtain ⟨i, hi1, hi2, hi3, hi4⟩ := told_ver h hd'
    have hj1 := hj.1
    have : i = j := (hO.inj j i (by omega) hi1 hi2).symm
    subst this
    have e2 := Hist.total_still (H := H) (p := p) (j := i + 1) (T - (i + 1)) (fun k a b => hfree i hj k (by omega) (by omega))
    rw [show i + 1 + (T - (i + 1)) = T by omega] at e2
    show wrap64 (0 + (verAt st.vers ⟨p, H.dot i⟩).sum) = _
    rw [hi4, e2]
    obtain ⟨x, hx⟩ := Option.isSome_iff_exists.1 (hwr i hi3)
    have : (H.verOf p i N).sum = H.total p (i + 1) := by unfold Hist.verOf; rw [hx]; simp [hk i x hi1 hx]
    rw [this, Int.zero_add]
    exact H.total_wrap p (i + 1)
  | d :: d' :: l, hm, hnd =>
    obtain ⟨j, hj, rfl⟩ := (hm d).1 (by simp)
    obtain ⟨j', hj', rfl⟩ := (hm d').1 (by simp)
    have := huniq j j' hj hj'
    subst this
    simp at hnd

end Go.Proofs.YtiplgdkpnhamaaaGreatDoor

/- The program's store in memory: one owner's blocks turn, all else goes on. -/
namespace Go.Proofs.YtiplgdkpnhamaaaGreatDoor
open Go.RowKit

theorem cell_blk {w w' : World} {b j : Nat} {v : Value} (h : w'.heap[b]? = w.heap[b]?) (c : w.cell? ⟨b, j, none⟩ = some v) : w'.cell? ⟨b, j, none⟩ = some v := (World.cell?_of_block (w := w) (a := ⟨b, j, none⟩) h).trans c
theorem Blk.first (w : World) (cs : List Value) (t : TypeId) (o : Obj) : Blk ((w.alloc (.cells cs.toArray t)).alloc o) w.heap.size cs t := Blk.alloc (heap_alloc_new w _) _
theorem Blk.second (w : World) (o : Obj) (cs : List Value) (t : TypeId) : Blk ((w.alloc o).alloc (.cells cs.toArray t)) (w.heap.size + 1) cs t := by
  have a := heap_alloc_new (w.alloc o) (.cells cs.toArray t)
  rw [show (w.alloc o).heap.size = w.heap.size + 1 by simp] at a
  exact a
section
variable {w w' : World} {o o' : Nat → Own} {sb vb cb eb n : Nat} {ov : Value} {cv : Place → Option Value} {ev : ByteArray → Option Nat} {kv : Nat → Value} {st : St}
theorem QT.ofGrown {A : Own → Prop} {b : Nat} (hg : w.grownBy w' (some b)) (hb : A (o b)) : QT A w o w' o :=
  ⟨(Touch.ofGrown hg).mono fun k _ e => by injection e with e; rw [e]; exact hb, fun _ _ => rfl⟩
theorem QT.ofBelow {A : Own → Prop} (hb : Below w.heap.size w w') : QT A w o w' o := ⟨Touch.ofBelow hb, fun _ _ => rfl⟩
theorem QT.andBelow {A : Own → Prop} {w1 : World} {o1 : Nat → Own} (h : QT A w o w1 o1) (hb : Below w1.heap.size w1 w') : QT A w o w' o1 := h.below hb
/-- The list of a place, and the map that holds it. -/
theorem StP.setRow {p : Place} {v : Value} {l : List Dot} {cv' : Place → Option Value} (h : StP w o sb vb cb eb ov cv ev kv n st) (k : QT (fun t => t = .mc ∨ t = .row p) w o w' o') (hM : MapIn w' 129 cb n Place.val idVal cv') (hc : ∀ q, q ≠ p → cv' q = cv q) (hs : cv' p = some v)
    (hR : Qc w' o' (.row p) 62 2 v l.length (l.flatMap Dot.cells)) : StP w' o' sb vb cb eb ov cv' ev kv n { st with came := setCame st.came p l } := by
  refine ⟨h.blk.touch k (by simp), h.vers.movet k (by rw [h.versT]; simp), (k.same _ h.vers.lt).trans h.versT, hM, (k.same _ h.came.lt).trans h.cameT, fun q hq => ?_, fun q u hq => ?_, h.els.movet k (by rw [h.elsT]; simp), (k.same _ h.els.lt).trans h.elsT, h.setN,
    fun x b e => (k.same _ (h.set x b e).lt).trans (h.setT x b e), fun x b e => (h.set x b e).movet k (by rw [h.setT x b e]; simp), h.opens.touch k (by simp), fun s hs => (h.snap s hs).touch k (by simp), fun s hs => (h.kept s hs).touch k (by simp), h.elsOk⟩
  · by_cases c : q = p
    · subst c; rw [hs] at hq; cases hq
    · show setCame st.came p l q = []
      rw [setCame_other c]; exact h.rowN q (by rw [← hc q c]; exact hq)
  · show Qc w' o' (.row q) _ 2 u (setCame st.came p l q).length ((setCame st.came p l q).flatMap Dot.cells)
    by_cases c : q = p
    · subst c; rw [hs] at hq; cases hq; rw [setCame_same]; exact hR
    · rw [setCame_other c]
      exact (h.row q u (by rw [← hc q c]; exact hq)).touch k (by simp [c])
theorem StP.cutRow {p : Place} {cv' : Place → Option Value} (h : StP w o sb vb cb eb ov cv ev kv n st) (k : QT (fun t => t = .mc ∨ t = .row p) w o w' o') (hM : MapIn w' 129 cb n Place.val idVal cv') (hc : ∀ q, q ≠ p → cv' q = cv q) (hs : cv' p = none) : StP w' o' sb vb cb eb ov cv' ev kv n { st with came := setCame st.came p [] } := by
  refine ⟨h.blk.touch k (by simp), h.vers.movet k (by rw [h.versT]; simp), (k.same _ h.vers.lt).trans h.versT, hM, (k.same _ h.came.lt).trans h.cameT, fun q hq => ?_, fun q u hq => ?_, h.els.movet k (by rw [h.elsT]; simp), (k.same _ h.els.lt).trans h.elsT, h.setN,
    fun x b e => (k.same _ (h.set x b e).lt).trans (h.setT x b e), fun x b e => (h.set x b e).movet k (by rw [h.setT x b e]; simp), h.opens.touch k (by simp), fun s hs => (h.snap s hs).touch k (by simp), fun s hs => (h.kept s hs).touch k (by simp), h.elsOk⟩
  · by_cases c : q = p
    · subst c; exact setCame_same _ _ _
    · show setCame st.came p [] q = []
      rw [setCame_other c]; exact h.rowN q (by rw [← hc q c]; exact hq)
  · show Qc w' o' (.row q) _ 2 u (setCame st.came p [] q).length ((setCame st.came p [] q).flatMap Dot.cells)
    by_cases c : q = p
    · subst c; rw [hs] at hq; cases hq
    · rw [setCame_other c]
      exact (h.row q u (by rw [← hc q c]; exact hq)).touch k (by simp [c])
/-- A set's own map. -/
theorem StP.setSet {p : Place} {b : Nat} {x : Bool} (h : StP w o sb vb cb eb ov cv ev kv n st) (k : QT (· = .set p.key) w o w' o') (hb : ev p.key = some b) (hpe : p.el.size ≤ maxLen) (hM : MapIn w' 9 b n setVal unitVal (fun e => if e = p.el then (if x then some () else none) else elsOf st.els p.key e)) : StP w' o' sb vb cb eb ov cv ev kv n { st with els := setEls st.els p x } := by
  refine ⟨h.blk.touch k (by simp), h.vers.movet k (by rw [h.versT]; simp), (k.same _ h.vers.lt).trans h.versT, h.came.movet k (by rw [h.cameT]; simp), (k.same _ h.came.lt).trans h.cameT, h.rowN, fun q u hq => (h.row q u hq).touch k (by simp), h.els.movet k (by rw [h.elsT]; simp), (k.same _ h.els.lt).trans h.elsT, fun key hk e => ?_,
    fun x b e => (k.same _ (h.set x b e).lt).trans (h.setT x b e), fun key c hk => ?_, h.opens.touch k (by simp), fun s hs => (h.snap s hs).touch k (by simp), fun s hs => (h.kept s hs).touch k (by simp), fun key e he => ?_⟩
  · show setEls st.els p x key e = false
    unfold setEls
    rw [if_neg]
    · exact h.setN key hk e
    · rintro ⟨rfl, -⟩; rw [hb] at hk; cases hk
  · by_cases c' : key = p.key
    · subst c'
      rw [hb] at hk; cases hk
      have e : elsOf (setEls st.els p x) p.key = fun e => if e = p.el then (if x then some () else none) else elsOf st.els p.key e := by
        funext e
        unfold elsOf setEls
        by_cases c : e = p.el <;> simp [c]
      show MapIn w' _ b n setVal unitVal (elsOf (setEls st.els p x) p.key)
      rw [e]; exact hM
    · have e : elsOf (setEls st.els p x) key = elsOf st.els key := by
        funext e
        unfold elsOf setEls
        simp [c']
      show MapIn w' _ c n setVal unitVal (elsOf (setEls st.els p x) key)
      rw [e]
      refine (h.set key c hk).movet k ?_
      rw [h.setT key c hk]; simp [c']
  · have he' : setEls st.els p x key e = true := he
    unfold setEls at he'
    split at he'
    · rename_i c; rw [c.2]; exact hpe
    · exact h.elsOk key e he'
/-- The map of the sets: a new empty set; an empty set goes. -/
theorem StP.newSet {key : ByteArray} {b : Nat} {ev' : ByteArray → Option Nat} (h : StP w o sb vb cb eb ov cv ev kv n st) (k : QT (· = .me) w o w' o') (hM : MapIn w' 9 eb n setVal mapVal ev') (hc : ∀ q, q ≠ key → ev' q = ev q) (hn : ev key = none) (hs : ev' key = some b) (hT : o' b = .set key) (hB : MapIn w' 9 b n setVal unitVal (fun _ => none)) : StP w' o' sb vb cb eb ov cv ev' kv n st := by
  refine ⟨h.blk.touch k (by simp), h.vers.movet k (by rw [h.versT]; simp), (k.same _ h.vers.lt).trans h.versT, h.came.movet k (by rw [h.cameT]; simp), (k.same _ h.came.lt).trans h.cameT, h.rowN, fun q u hq => (h.row q u hq).touch k (by simp), hM, (k.same _ h.els.lt).trans h.elsT, fun q hq e => ?_, fun q c hq => ?_, fun q c hq => ?_, h.opens.touch k (by simp), fun s hs => (h.snap s hs).touch k (by simp), fun s hs => (h.kept s hs).touch k (by simp), h.elsOk⟩
  · by_cases c : q = key
    · subst c; rw [hs] at hq; cases hq
    · exact h.setN q (by rw [← hc q c]; exact hq) e
  · by_cases c' : q = key
    · subst c'; rw [hs] at hq; cases hq; exact hT
    · rw [hc q c'] at hq; exact (k.same _ (h.set q c hq).lt).trans (h.setT q c hq)
  · by_cases c' : q = key
    · subst c'; rw [hs] at hq; cases hq
      have e : elsOf st.els q = fun _ => none := by
        funext e; unfold elsOf; rw [h.setN q hn e]; rfl
      rw [e]; exact hB
    · rw [hc q c'] at hq
      exact (h.set q c hq).movet k (by rw [h.setT q c hq]; simp)
theorem StP.cutSet {key : ByteArray} {ev' : ByteArray → Option Nat} (h : StP w o sb vb cb eb ov cv ev kv n st) (k : QT (· = .me) w o w' o') (hM : MapIn w' 9 eb n setVal mapVal ev') (hc : ∀ q, q ≠ key → ev' q = ev q) (hs : ev' key = none) (he : ∀ e, st.els key e = false) : StP w' o' sb vb cb eb ov cv ev' kv n st := by
  refine ⟨h.blk.touch k (by simp), h.vers.movet k (by rw [h.versT]; simp), (k.same _ h.vers.lt).trans h.versT, h.came.movet k (by rw [h.cameT]; simp), (k.same _ h.came.lt).trans h.cameT, h.rowN, fun q u hq => (h.row q u hq).touch k (by simp), hM, (k.same _ h.els.lt).trans h.elsT, fun q hq e => ?_, fun q c hq => ?_, fun q c hq => ?_, h.opens.touch k (by simp), fun s hs => (h.snap s hs).touch k (by simp), fun s hs => (h.kept s hs).touch k (by simp), h.elsOk⟩
  · by_cases c : q = key
    · subst c; exact he e
    · exact h.setN q (by rw [← hc q c]; exact hq) e
  · by_cases c' : q = key
    · subst c'; rw [hs] at hq; cases hq
    · rw [hc q c'] at hq; exact (k.same _ (h.set q c hq).lt).trans (h.setT q c hq)
  · by_cases c' : q = key
    · subst c'; rw [hs] at hq; cases hq
    · rw [hc q c'] at hq
      exact (h.set q c hq).movet k (by rw [h.setT q c hq]; simp)
/-- Blocks of different owners differ. -/
theorem StP.ne_vc (h : StP w o sb vb cb eb ov cv ev kv n st) : vb ≠ cb := fun e => by have := h.versT; rw [e, h.cameT] at this; cases this
theorem StP.ne_vs (h : StP w o sb vb cb eb ov cv ev kv n st) : vb ≠ sb := fun e => by have := h.versT; rw [e, h.blk.tag] at this; cases this
theorem StP.ne_cs (h : StP w o sb vb cb eb ov cv ev kv n st) : cb ≠ sb := fun e => by have := h.cameT; rw [e, h.blk.tag] at this; cases this
theorem StP.ne_es (h : StP w o sb vb cb eb ov cv ev kv n st) : eb ≠ sb := fun e => by have := h.elsT; rw [e, h.blk.tag] at this; cases this
theorem StP.rowTag (h : StP w o sb vb cb eb ov cv ev kv n st) {p : Place} {q : Nat} (hq : (cvAt cv p).ownBlock = some q) : o q = .row p := (h.rowAt p).tag q hq
theorem came_look (h : StP w o sb vb cb eb ov cv ev kv n st) {p : Place} (hp : p.Ok) {W : World} (hW : W.heap[cb]? = w.heap[cb]?) : (Instr.lookup 179 (.map (some cb)) (.agg #[.string p.key, .string p.el]) false).run Tryz.prog W = .ok (cvAt cv p) W := by
  obtain ⟨kl, hk⟩ := hp.lit
  have a := (h.came.move hW).lookup (t := 179) place_keyed Tryz.underlying179 (z := nilSlice) (by kernel_rfl) hk
  have e : (cv p).elim nilSlice idVal = cvAt cv p := by unfold cvAt; cases cv p <;> rfl
  rw [e] at a
  exact a
end

end Go.Proofs.YtiplgdkpnhamaaaGreatDoor

/- The library's slices.IndexFunc, slices.DeleteFunc at dots. -/
namespace Go.Proofs.YtiplgdkpnhamaaaGreatDoor
open Go.RowKit

set_option maxRecDepth 100000 in
set_option maxHeartbeats 2000000 in
theorem idxf_dots (w : World) (v : Value) (l : List Dot) (hrow : Row w 62 2 v l.length (l.flatMap Dot.cells)) (g : Nat) (lb : Array Value) (p : Dot → Bool) (eg : ∀ args w, (callFunc g args).run Tryz.prog w = .ok (.enter g args) w)
    (hcl : ∀ W, Below w.heap.size w W → ∀ d : Dot, d ∈ l → Calls Tryz.prog g (#[Dot.val d] ++ lb) W fun e w' => e = .returned (.bool (p d)) ∧ Below W.heap.size W w') :
    Calls Tryz.prog 225 #[v, .func (.func g) #[] lb] w fun e w' => e = .returned (.int .i64 (idxP p l)) ∧ Below w.heap.size w w' := by
  obtain ⟨ao, cap, rfl, hcap, hm, hcell⟩ := hrow.shape
  unfold maxLen at hm
  have HC := hide hcl
  have HL := hide hcell
  clear hrow hcl hcell
  go_enter Tryz.func225, Tryz.ntmps225
  go_wp2_with fail
  go_loopw [8] (fun i wr => ∃ k : Nat, k ≤ l.length ∧ i = .int .i64 k ∧ Hid (∀ j (hj : j < l.length), j < k → p l[j] = false) ∧ Below w.heap.size w wr) (fun i _ => l.length - (intOf i).toNat)
  case atStart => exact ⟨0, Nat.zero_le _, rfl, fun j _ h => absurd h (Nat.not_lt_zero _), Below.refl _ _⟩
  case round =>
    obtain ⟨k, hk, rfl, hno, hB⟩ := hrel
    by_cases hlk : k < l.length
    · obtain ⟨g0, e0, h0⟩ := HL.out (k * 2 + 0) (by omega)
      obtain ⟨g1, e1, h1⟩ := HL.out (k * 2 + 1) (by omega)
      subst e0
      cases e1
      rw [flat_get _ 2 (fun _ => rfl) _ _ _ hlk (by omega)] at h0 h1
      simp only [Dot.cells, List.getElem?_cons_zero, List.getElem?_cons_succ, Nat.add_zero] at h0 h1
      have c0 := cell_later hB h0
      have c1 := cell_later hB h1
      clear h0 h1
      have hcall := HC.out wr hB l[k] (List.getElem_mem hlk)
      obtain ⟨d, hd⟩ : ∃ d, l[k] = d := ⟨_, rfl⟩
      have HD := hide hd
      rw [hd] at hcall c0 c1
      clear hd
      cases hp : p d
      · rw [hp] at hcall
        have HCALL := hide hcall
        have HP := hide hp
        clear hcall hp
        go_wp2_with fail
        refine HCALL.out.mono ?_
        rintro e w1 ⟨rfl, hB1⟩
        go_wp2_with fail
        exact ⟨⟨k + 1, by omega, by go_num, fun j hj hjk => by
          by_cases c : j = k
          · subst c; rw [HD.out]; exact HP.out
          · exact hno.out j hj (by omega), hB.trans (hB1.mono hB.size)⟩, by simp [intOf]; omega⟩
      · rw [hp] at hcall
        have HCALL := hide hcall
        have HP := hide hp
        clear hcall hp
        go_wp2_with fail
        refine HCALL.out.mono ?_
        rintro e w1 ⟨rfl, hB1⟩
        go_wp2_with fail
        go_ret
        exact ⟨ret_int (idxP_some hlk (by rw [HD.out]; exact HP.out) hno.out).symm, hB.trans (hB1.mono hB.size)⟩
    · go_wp2_with fail
      go_ret
      exact ⟨ret_int (idxP_none fun j hj => hno.out j hj (by omega)).symm, hB⟩

set_option maxRecDepth 100000 in
set_option maxHeartbeats 4000000 in
theorem delf_dots (w : World) (v : Value) (l : List Dot) (hrow : Row w 62 2 v l.length (l.flatMap Dot.cells)) (g : Nat) (lb : Array Value) (p : Dot → Bool) (eg : ∀ args w, (callFunc g args).run Tryz.prog w = .ok (.enter g args) w)
    (hcl : ∀ W, Touch (fun q => v.ownBlock = some q) w W → ∀ d : Dot, d ∈ l → Calls Tryz.prog g (#[Dot.val d] ++ lb) W fun e w' => e = .returned (.bool (p d)) ∧ Below W.heap.size W w') :
    Calls Tryz.prog 206 #[v, .func (.func g) #[] lb] w fun e w' => ∃ v', e = .returned v' ∧ Row w' 62 2 v' (l.filter fun x => !p x).length ((l.filter fun x => !p x).flatMap Dot.cells) ∧ v'.ownBlock = v.ownBlock ∧ Touch (fun q => v.ownBlock = some q) w w' := by
  have hI := idxf_dots w v l hrow g lb p eg (fun W hB => hcl W (Touch.ofBelow hB))
  rcases idxP_cases p l with ⟨e1, e2⟩ | ⟨k0, hk0, e1, hp0, e2⟩
  · rw [e1] at hI
    have HI := hide hI
    have HR := hide hrow
    clear hI hcl hrow
    go_enter Tryz.func206, Tryz.ntmps206
    go_wp2_with fail
    refine HI.out.mono ?_
    rintro e w1 ⟨rfl, hB1⟩
    go_wp2_with fail
    go_ret
    refine ⟨v, rfl, ?_, rfl, Touch.ofBelow hB1⟩
    rw [e2]
    exact Row.below HR.out hB1
  · rw [e1] at hI
    obtain ⟨g0, cap, rfl, hcap, hm, hg0, -, -⟩ := hrow.pos (by omega)
    unfold maxLen at hm
    have hne1 : ((k0 : Int) == -1) = false := beq_eq_false_iff_ne.2 (by omega)
    have HS := hide (Str.start hk0 hp0 e2)
    have HI := hide hI
    have HR := hide hrow
    have HC := hide hcl
    clear hI hcl hrow e1 e2 hp0
    go_enter Tryz.func206, Tryz.ntmps206
    go_wp2_with fail
    refine HI.out.mono ?_
    rintro e w1 ⟨rfl, hB1⟩
    go_wp2_with fail
    go_loopw [5, 6] (fun i j wr => ∃ (ii jj : Nat) (xs : List Dot), jj ≤ l.length ∧ ii < jj ∧ i = .int .i64 ii ∧ j = .int .i64 jj ∧ Hid (Str p l xs ii jj ∧ Row wr 62 2 (.slice (some ⟨g0, 0, none⟩) l.length cap) l.length (xs.flatMap Dot.cells) ∧ Touch (fun q => (Value.slice (some ⟨g0, 0, none⟩) l.length cap).ownBlock = some q) w wr)) (fun _ j _ => l.length - (intOf j).toNat)
    case atStart => exact ⟨k0, k0 + 1, l, by omega, by omega, rfl, by go_num, HS.out, Row.below HR.out hB1, Touch.ofBelow hB1⟩
    case round =>
      obtain ⟨ii, jj, xs, hjl, hij, rfl, rfl, hst⟩ := hrel
      have hlen := hst.out.1.len
      by_cases hlj : jj < l.length
      · obtain ⟨_, _, e, -, -, hgl, hcell, hfro⟩ := Row.pos hst.out.2.1 (by omega)
        cases e
        have c0 := hcell (jj * 2 + 0) (by omega)
        have c1 := hcell (jj * 2 + 1) (by omega)
        rw [flat_get _ 2 (fun _ => rfl) _ _ _ (by omega) (by omega)] at c0 c1
        have hx := hst.out.1.high jj hlj (Nat.le_refl _)
        rw [List.getElem?_eq_getElem (by omega)] at hx
        rw [Option.some.inj hx] at c0 c1
        simp only [Dot.cells, List.getElem?_cons_zero, List.getElem?_cons_succ, Nat.add_zero] at c0 c1
        clear hcell hfro hx
        obtain ⟨d, hd⟩ : ∃ d, l[jj] = d := ⟨_, rfl⟩
        have HD := hide hd
        rw [hd] at c0 c1
        clear hd
        have HCALL := hide (HC.out (wr.alloc (.cells #[.int .i64 d.rep, .int .i64 d.seq] 62)) (hst.out.2.2.alloc _) d (by rw [← HD.out]; exact List.getElem_mem hlj))
        cases hp : p d
        · unfold Hid at HCALL
          rw [hp] at HCALL
          have HP := hide hp
          have HCA := hide HCALL
          clear hp HCALL
          go_wp2_with fail
          refine HCA.out.mono ?_
          rintro e w2 ⟨rfl, hB2⟩
          have hB3 : Below wr.heap.size wr w2 := ((Below.refl _ _).alloc (Nat.le_refl _) _).trans (hB2.mono (by simp))
          have hR2 := Row.below hst.out.2.1 hB3
          obtain ⟨_, _, e, -, -, hgl2, hcell, hfro⟩ := Row.pos hR2 (by omega)
          cases e
          have i0 := hcell (ii * 2 + 0) (by omega)
          have i1 := hcell (ii * 2 + 1) (by omega)
          have f0 := hfro (ii * 2)
          have f1 := hfro (ii * 2 + 1)
          rw [flat_get _ 2 (fun _ => rfl) _ _ _ (by omega) (by omega)] at i0 i1
          simp only [Dot.cells, List.getElem?_cons_zero, List.getElem?_cons_succ, Nat.add_zero] at i0 i1
          have b0 : w2.cell? ⟨wr.heap.size, 0, none⟩ = some (.int .i64 d.rep) := by rw [hB2.cell (p := ⟨wr.heap.size, 0, none⟩) (by simp)]; simp
          have b1 : w2.cell? ⟨wr.heap.size, 1, none⟩ = some (.int .i64 d.seq) := by rw [hB2.cell (p := ⟨wr.heap.size, 1, none⟩) (by simp)]; simp
          have HR2 := hide hR2
          have HB3 := hide hB3
          clear hcell hfro hR2 hB3 hB2 c0 c1
          generalize xs[ii]'(by omega) = old at i0 i1
          go_wp2_with fail
          refine ⟨⟨ii + 1, jj + 1, xs.set ii d, by omega, by omega, by go_num, by go_num, ?_, ?_, ?_⟩, by simp [intOf]; omega⟩
          · have := hst.out.1.keep hlj (by rw [HD.out]; exact HP.out)
            rwa [HD.out] at this
          · have a := (World.ownsRow.stored HR2.out (ii * 2) (.int .i64 d.rep)).1
            have b := (World.ownsRow.stored a (ii * 2 + 1) (.int .i64 d.seq)).1
            have e1 := flat_set Dot.cells 2 (fun _ => rfl) xs ii 0 (by omega) (.int .i64 d.rep) ⟨d.rep, (xs[ii]'(by omega)).seq⟩ (by omega) rfl
            rw [Nat.add_zero] at e1
            rw [e1] at b
            rw [flat_set Dot.cells 2 (fun _ => rfl) _ ii 1 (by rw [List.length_set]; omega) (.int .i64 d.seq) d (by omega) (by rw [List.getElem_set_self]; rfl), List.set_set] at b
            exact b
          · have a := hst.out.2.2.then ((Touch.ofBelow HB3.out))
            exact (a.setCell (p := ⟨g0, ii * 2, none⟩) (Or.inl rfl) _).setCell (p := ⟨g0, ii * 2 + 1, none⟩) (Or.inl rfl) _
        · unfold Hid at HCALL
          rw [hp] at HCALL
          have HP := hide hp
          have HCA := hide HCALL
          clear hp HCALL
          go_wp2_with fail
          refine HCA.out.mono ?_
          rintro e w2 ⟨rfl, hB2⟩
          have hB3 : Below wr.heap.size wr w2 := ((Below.refl _ _).alloc (Nat.le_refl _) _).trans (hB2.mono (by simp))
          clear c0 c1 hB2
          go_wp2_with fail
          exact ⟨⟨ii, jj + 1, xs, by omega, by omega, rfl, by go_num, hst.out.1.skip hlj (by rw [HD.out]; exact HP.out), Row.below hst.out.2.1 hB3, hst.out.2.2.then (Touch.ofBelow hB3)⟩, by simp [intOf]; omega⟩
      · have hje : jj = l.length := by omega
        subst hje
        obtain ⟨q1, q2, q3⟩ := hst.out.1.done
        obtain ⟨w4, hrun, hR4, hg4⟩ := clear_row (P := Tryz.prog) (size := 2) (t := 241) (ty := 0) (z := .agg #[.int .i64 0, .int .i64 0]) (i := ii) Tryz.underlying241 (fun _ => by kernel_rfl) rfl (by intro u hu; simp [Value.cells] at hu; rcases hu with rfl | rfl <;> rfl) hst.out.2.1 q3
        have HR4 := hide hR4
        have HG4 := hide hg4
        have HQ := hide (⟨q1, q2⟩ : _ ∧ _)
        clear hR4 hg4 q1 q2
        go_wp2_with fail
        go_ret
        refine ⟨_, rfl, ?_, rfl, hst.out.2.2.grown HG4.out (fun k e => by cases e; exact Or.inl rfl)⟩
        have := HR4.out
        rw [flat_take _ 2 (fun _ => rfl), HQ.out.1] at this
        rw [← HQ.out.2]
        exact this

end Go.Proofs.YtiplgdkpnhamaaaGreatDoor

/- The document's transactions as the store sees them; what the store tells is what the document asks. -/
namespace Go.Proofs.YtiplgdkpnhamaaaGreatDoor
open Go.RowKit

theorem snoc_ind {α : Type} {P : List α → Prop} (h0 : P []) (h1 : ∀ l a, P l → P (l ++ [a])) (l : List α) : P l := by
  rw [← l.reverse_reverse]
  induction l.reverse with
  | nil => exact h0
  | cons a l ih => rw [List.reverse_cons]; exact h1 _ _ ih
def plOf (o : ROp) : Place := if o.kind = 1 ∨ o.kind = 2 then ⟨o.key, noEl⟩ else ⟨o.key, o.value⟩
def wrOf (o : ROp) : Wr := if o.kind = 1 then ⟨0, o.amount, noEl⟩ else if o.kind = 2 then ⟨1, 0, o.value⟩ else if o.kind = 3 then ⟨2, 0, noEl⟩ else ⟨3, 0, noEl⟩
def putM (m : Place → Option Wr) (p : Place) (x : Wr) : Place → Option Wr := fun q => if q = p then some (putWr m p x) else m q
/-- What a transaction's writes come to, place by place. -/
def ownOf (ops : List ROp) : Place → Option Wr := ops.foldl (fun m o => putM m (plOf o) (wrOf o)) (fun _ => none)
theorem ownOf_snoc (ops : List ROp) (o : ROp) : ownOf (ops ++ [o]) = putM (ownOf ops) (plOf o) (wrOf o) := by simp [ownOf]
structure OpOk (o : ROp) : Prop where
  kind : o.kind = 1 ∨ o.kind = 2 ∨ o.kind = 3 ∨ o.kind = 4
  key : kindOf o.key = kindByte o.kind
theorem OpOk.cnt {o : ROp} (h : OpOk o) (hk : kindOf o.key = 99) : o.kind = 1 := by
  have := h.key; rw [hk] at this; unfold kindByte at this; split at this
  · assumption
  · split at this <;> omega
theorem OpOk.reg {o : ROp} (h : OpOk o) (hk : kindOf o.key = 114) : o.kind = 2 := by
  have := h.key; rw [hk] at this; unfold kindByte at this; split at this
  · omega
  · split at this
    · assumption
    · omega
theorem OpOk.set {o : ROp} (h : OpOk o) (hk : kindOf o.key = 115) : o.kind = 3 ∨ o.kind = 4 := by
  have := h.key; have hh := h.kind; rw [hk] at this; unfold kindByte at this; split at this
  · omega
  · split at this
    · omega
    · omega
theorem lastOf_snoc (key el : ByteArray) (ops : List ROp) (o : ROp) : lastOf key el (ops ++ [o]) = if hits key el o = true then some o else lastOf key el ops := by
  unfold lastOf
  rw [List.reverse_append, List.reverse_singleton, List.singleton_append, List.find?_cons]
  cases hits key el o <;> simp
theorem own_cnt {key : ByteArray} (hk : kindOf key = 99) (ops : List ROp) : (∀ o, o ∈ ops → OpOk o) → amt (ownOf ops ⟨key, noEl⟩) = sumOf key ops ∧ ∀ x, ownOf ops ⟨key, noEl⟩ = some x → x.kind = 0 := by
  induction ops using snoc_ind with
  | h0 => intro _; exact ⟨rfl, fun x hx => by simp [ownOf] at hx⟩
  | h1 ops o ih =>
    intro h
    obtain ⟨i1, i2⟩ := ih (fun o ho => h o (by simp [ho]))
    have ho := h o (by simp)
    rw [ownOf_snoc, sumOf_snoc]
    unfold putM
    by_cases c : o.key = key
    · have k1 : o.kind = 1 := ho.cnt (by rw [c]; exact hk)
      have hp : plOf o = ⟨key, noEl⟩ := by unfold plOf; rw [if_pos (Or.inl k1), c]
      rw [hp, if_pos rfl, if_pos ⟨k1, c⟩]
      have hw : wrOf o = ⟨0, o.amount, noEl⟩ := by unfold wrOf; rw [if_pos k1]
      have ha : (wrAt (ownOf ops) ⟨key, noEl⟩).amount = sumOf key ops := by
        rw [← i1]
        unfold wrAt amt
        cases e : ownOf ops ⟨key, noEl⟩ with
        | none => rfl
        | some x => simp [i2 x e]
      rw [hw]
      unfold putWr
      rw [if_pos rfl]
      refine ⟨?_, fun x hx => by cases hx; rfl⟩
      simp only [amt, if_true, ha]
      rw [Int.add_comm]
    · have hne : ¬ (⟨key, noEl⟩ : Place) = plOf o := fun e => c (by unfold plOf at e; split at e <;> (injection e with e1; exact e1.symm))
      rw [if_neg hne, if_neg (fun e => c e.2)]
      exact ⟨i1, i2⟩
theorem own_reg {key : ByteArray} (hk : kindOf key = 114) (ops : List ROp) : (∀ o, o ∈ ops → OpOk o) → ownOf ops ⟨key, noEl⟩ = (lastOf key noEl ops).map fun o => ⟨1, 0, o.value⟩ := by
  induction ops using snoc_ind with
  | h0 => intro _; rfl
  | h1 ops o ih =>
    intro h
    have i1 := ih (fun o ho => h o (by simp [ho]))
    have ho := h o (by simp)
    rw [ownOf_snoc, lastOf_snoc]
    unfold putM
    by_cases c : o.key = key
    · have k2 : o.kind = 2 := ho.reg (by rw [c]; exact hk)
      have hp : plOf o = ⟨key, noEl⟩ := by unfold plOf; rw [if_pos (Or.inr k2), c]
      have hh : hits key noEl o = true := by unfold hits; simp [c, k2]
      rw [hp, if_pos rfl, if_pos hh]
      have hw : wrOf o = ⟨1, 0, o.value⟩ := by unfold wrOf; rw [if_neg (by omega), if_pos k2]
      rw [hw]; unfold putWr; rw [if_neg (by simp)]; rfl
    · have hne : ¬ (⟨key, noEl⟩ : Place) = plOf o := fun e => c (by unfold plOf at e; split at e <;> (injection e with e1; exact e1.symm))
      have hh : ¬ hits key noEl o = true := by unfold hits; simp [c]
      rw [if_neg hne, if_neg hh, i1]
theorem own_set {key : ByteArray} (hk : kindOf key = 115) (el : ByteArray) (ops : List ROp) : (∀ o, o ∈ ops → OpOk o) → ownOf ops ⟨key, el⟩ = (lastOf key el ops).map wrOf ∧ ∀ o, lastOf key el ops = some o → o.kind = 3 ∨ o.kind = 4 := by
  induction ops using snoc_ind with
  | h0 => intro _; exact ⟨rfl, fun o ho => by simp [lastOf] at ho⟩
  | h1 ops o ih =>
    intro h
    obtain ⟨i1, i2⟩ := ih (fun o ho => h o (by simp [ho]))
    have ho := h o (by simp)
    rw [ownOf_snoc, lastOf_snoc]
    unfold putM
    by_cases c : o.key = key
    · have k3 := ho.set (by rw [c]; exact hk)
      have hp : plOf o = ⟨key, o.value⟩ := by unfold plOf; rw [if_neg (by omega), c]
      by_cases ce : o.value = el
      · have hh : hits key el o = true := by unfold hits; simp [c, ce]
        rw [hp, ce, if_pos rfl, if_pos hh]
        refine ⟨?_, fun o' e => by cases e; exact k3⟩
        unfold putWr
        have : ¬ (wrOf o).kind = 0 := by
          unfold wrOf; rw [if_neg (by omega), if_neg (by omega)]; split <;> simp
        rw [if_neg this]; rfl
      · have hh : ¬ hits key el o = true := by unfold hits; simp [c, ce]; omega
        rw [hp, if_neg (fun e => ce (by injection e with _ e2; exact e2.symm)), if_neg hh]
        exact ⟨i1, i2⟩
    · have hne : ¬ (⟨key, el⟩ : Place) = plOf o := fun e => c (by unfold plOf at e; split at e <;> (injection e with e1; exact e1.symm))
      have hh : ¬ hits key el o = true := by unfold hits; simp [c]
      rw [if_neg hne, if_neg hh]
      exact ⟨i1, i2⟩
theorem mem_elems {key el : ByteArray} {ops : List ROp} (hk : kindOf key = 115) (h : ∀ o, o ∈ ops → OpOk o) : el ∈ elemsOf key ops ↔ (lastOf key el ops).isSome := by
  induction ops using snoc_ind with
  | h0 => simp [elemsOf, lastOf]
  | h1 ops o ih =>
    have i1 := ih (fun o ho => h o (by simp [ho]))
    have ho := h o (by simp)
    rw [elemsOf_snoc, lastOf_snoc, List.mem_append, i1]
    by_cases c : o.key = key
    · have k3 := ho.set (by rw [c]; exact hk)
      rw [if_pos c]
      by_cases ce : o.value = el
      · have hh : hits key el o = true := by unfold hits; simp [c, ce]
        rw [if_pos hh]; simp [ce]
      · have hh : ¬ hits key el o = true := by unfold hits; simp [c, ce]; omega
        rw [if_neg hh]; simp [Ne.symm ce]
    · have hh : ¬ hits key el o = true := by unfold hits; simp [c]
      rw [if_neg c, if_neg hh]; simp

def txAt (hs : List RTx) (j : Nat) : RTx := hs.getD j ⟨0, 0, [], []⟩
theorem txAt_eq {hs : List RTx} {j : Nat} (h : j < hs.length) : txAt hs j = hs[j] := by simp [txAt, h]
def histOf (hs : List RTx) : Hist := ⟨fun j => ⟨(txAt hs j).rep, (txAt hs j).seq⟩, fun j p => ownOf (txAt hs j).ops p, fun k j => seesV (txAt hs k).saw (txAt hs j).rep (txAt hs j).seq⟩
/-- What was visible when the first T were. -/
def SawAt (hs : List RTx) (S : List Int) (T : Nat) : Prop := ∀ j, j < hs.length → seesV S (txAt hs j).rep (txAt hs j).seq = decide (j < T)
theorem counter_total {hs : List RTx} {S : List Int} {T : Nat} {key : ByteArray} (hk : kindOf key = 99) (hops : ∀ t, t ∈ hs → ∀ o, o ∈ t.ops → OpOk o) (hS : SawAt hs S T) (hT : T ≤ hs.length) : counterOf S key hs = (histOf hs).total ⟨key, noEl⟩ T := by
  have : ∀ m, m ≤ hs.length → counterOf S key (hs.take m) = (histOf hs).total ⟨key, noEl⟩ (min m T) := by
    intro m
    induction m with
    | zero => intro _; simp [counterOf, Hist.total]
    | succ m ih =>
      intro hm
      have hml : m < hs.length := by omega
      rw [List.take_succ_eq_append_getElem hml, counterOf_snoc, ih (by omega)]
      have hs1 := hS m hml
      rw [txAt_eq hml] at hs1
      rw [hs1]
      by_cases c : m < T
      · rw [if_pos (by simpa using c), show min m T = m by omega, show min (m + 1) T = m + 1 by omega]
        show _ = wrap64 ((histOf hs).total ⟨key, noEl⟩ m + amt (ownOf (txAt hs m).ops ⟨key, noEl⟩))
        rw [txAt_eq hml, (own_cnt hk _ (hops _ (List.getElem_mem hml))).1]
      · rw [if_neg (by simpa using c), show min m T = T by omega, show min (m + 1) T = T by omega]
  have h := this hs.length (Nat.le_refl _)
  rw [List.take_length, show min hs.length T = T by omega] at h
  exact h

/-- Dots in their order. -/
def dotLt (a b : Dot) : Prop := a.rep < b.rep ∨ (a.rep = b.rep ∧ a.seq < b.seq)
theorem dotLt_irr (a : Dot) : ¬ dotLt a a := by unfold dotLt; omega
theorem dotLt_trans {a b c : Dot} (h : dotLt a b) (k : dotLt b c) : dotLt a c := by unfold dotLt at *; omega
theorem dots_ext : ∀ {l m : List Dot}, l.Pairwise dotLt → m.Pairwise dotLt → (∀ a, a ∈ l ↔ a ∈ m) → l = m
  | [], [], _, _, _ => rfl
  | [], b :: m, _, _, h => by have := (h b).2 (by simp); simp at this
  | a :: l, [], _, _, h => by have := (h a).1 (by simp); simp at this
  | a :: l, b :: m, hl, hm, h => by
    obtain ⟨ha, hl'⟩ := List.pairwise_cons.1 hl
    obtain ⟨hb, hm'⟩ := List.pairwise_cons.1 hm
    have e : a = b := by
      rcases List.mem_cons.1 ((h a).1 (by simp)) with c | c
      · exact c
      · rcases List.mem_cons.1 ((h b).2 (by simp)) with c' | c'
        · exact c'.symm
        · exact absurd (dotLt_trans (ha b c') (hb a c)) (dotLt_irr a)
    subst e
    congr 1
    refine dots_ext hl' hm' fun x => ⟨fun hx => ?_, fun hx => ?_⟩
    · rcases List.mem_cons.1 ((h x).1 (by simp [hx])) with c | c
      · subst c; exact absurd (ha x hx) (dotLt_irr x)
      · exact c
    · rcases List.mem_cons.1 ((h x).2 (by simp [hx])) with c | c
      · subst c; exact absurd (hb x hx) (dotLt_irr x)
      · exact c
def dotsOf (S : List Int) (n : Nat) : List Dot := (List.range n).flatMap fun r => (List.range (S.getD r 0).toNat).map fun (s : Nat) => ⟨(r : Int), (s : Int) + 1⟩
theorem mem_dotsOf {S : List Int} {n : Nat} {d : Dot} : d ∈ dotsOf S n ↔ ∃ r s : Nat, r < n ∧ (s : Int) + 1 ≤ S.getD r 0 ∧ d = ⟨r, (s : Int) + 1⟩ := by
  unfold dotsOf
  rw [List.mem_flatMap]
  constructor
  · rintro ⟨r, hr, hd⟩
    rw [List.mem_map] at hd
    obtain ⟨s, hs, rfl⟩ := hd
    rw [List.mem_range] at hr hs
    exact ⟨r, s, hr, by omega, rfl⟩
  · rintro ⟨r, s, hr, hs, rfl⟩
    exact ⟨r, List.mem_range.2 hr, List.mem_map.2 ⟨s, List.mem_range.2 (by omega), rfl⟩⟩
theorem dotsOf_sorted (S : List Int) : ∀ n, (dotsOf S n).Pairwise dotLt
  | 0 => by simp [dotsOf]
  | n + 1 => by
    have e : dotsOf S (n + 1) = dotsOf S n ++ (List.range (S.getD n 0).toNat).map fun (s : Nat) => ⟨(n : Int), (s : Int) + 1⟩ := by simp [dotsOf, List.range_succ]
    rw [e, List.pairwise_append]
    refine ⟨dotsOf_sorted S n, ?_, fun a ha b hb => ?_⟩
    · rw [List.pairwise_map]
      exact List.Pairwise.imp (fun h => Or.inr ⟨rfl, by simpa using h⟩) List.pairwise_lt_range
    · obtain ⟨r, s, hr, -, rfl⟩ := mem_dotsOf.1 ha
      rw [List.mem_map] at hb
      obtain ⟨s', -, rfl⟩ := hb
      exact Or.inl (by simpa using hr)
/-- What is asked of the history. -/
structure HsOk (hs : List RTx) : Prop where
  ops : ∀ t, t ∈ hs → ∀ o, o ∈ t.ops → OpOk o
  inj : ∀ j k, j < hs.length → k < hs.length → (histOf hs).dot j = (histOf hs).dot k → j = k
  back : ∀ j k, j < hs.length → k < hs.length → (histOf hs).sees k j = true → j < k
  trans : ∀ i j k, i < hs.length → j < hs.length → k < hs.length → (histOf hs).sees k j = true → (histOf hs).sees j i = true → (histOf hs).sees k i = true
theorem register_told {hs : List RTx} {S : List Int} {T n : Nat} {key : ByteArray} (hk : kindOf key = 114) (hH : HsOk hs) (hS : SawAt hs S T) (hT : T ≤ hs.length) (hfull : ∀ r s : Nat, r < n → (s : Int) + 1 ≤ S.getD r 0 → ∃ j, j < hs.length ∧ (histOf hs).dot j = ⟨r, (s : Int) + 1⟩)
    (hin : ∀ j, j < T → ∃ r s : Nat, r < n ∧ (histOf hs).dot j = ⟨r, (s : Int) + 1⟩) {l : List Dot} (hl : l.Pairwise dotLt) (hm : ∀ d, d ∈ l ↔ ∃ j, (histOf hs).cur ⟨key, noEl⟩ T j ∧ d = (histOf hs).dot j) {f : Dot → ByteArray}
    (hf : ∀ j x, (histOf hs).cur ⟨key, noEl⟩ T j → (histOf hs).wr j ⟨key, noEl⟩ = some x → f ((histOf hs).dot j) = x.value) : l.map f = registerOf S key hs n := by
  have hwr : ∀ j, j < hs.length → (histOf hs).wr j ⟨key, noEl⟩ = (lastOf key noEl (txAt hs j).ops).map fun o => ⟨1, 0, o.value⟩ := fun j hj => own_reg hk _ (hH.ops _ (by rw [txAt_eq hj]; exact List.getElem_mem hj))
  have hfind : ∀ j, j < hs.length → findTx hs ((histOf hs).dot j).rep ((histOf hs).dot j).seq = txAt hs j := fun j hj => by
    obtain ⟨i, hi, h1, -, h3⟩ := findTx_at (ts := hs) (r := ((histOf hs).dot j).rep) (s := ((histOf hs).dot j).seq) ⟨hs[j], List.getElem_mem hj, by simp [isDot, histOf, txAt_eq hj]⟩
    rw [h3]
    unfold isDot at h1
    rw [decide_eq_true_eq] at h1
    have : i = j := hH.inj i j hi hj (by simp only [histOf, txAt_eq hi, Dot.mk.injEq]; simpa [histOf] using h1)
    subst this
    exact (txAt_eq hi).symm
  -- a transaction of the first T counts just if nothing that overrides it came
  have hover : ∀ j, j < T → ((lastOf key noEl (txAt hs j).ops).isSome = true ∧ overOf S key (txAt hs j) hs = false ↔ (histOf hs).cur ⟨key, noEl⟩ T j) := fun j hj => by
    have hjl : j < hs.length := by omega
    have hiv : (histOf hs).isVer ⟨key, noEl⟩ j = true ↔ (lastOf key noEl (txAt hs j).ops).isSome = true := by
      unfold Hist.isVer
      rw [hwr j hjl]
      cases lastOf key noEl (txAt hs j).ops <;> simp
    rw [← hiv]
    unfold Hist.cur
    constructor
    · rintro ⟨h1, h2⟩
      refine ⟨hj, h1, Hist.wentAt_free fun k hk1 hk2 => ?_⟩
      have hkl : k < hs.length := by omega
      cases c : (histOf hs).over ⟨key, noEl⟩ k j
      · rfl
      · unfold Hist.over at c
        split at c
        · cases c
        · rename_i x hx
          have hx' := hx
          rw [hwr k hkl, Option.map_eq_some_iff] at hx'
          obtain ⟨o, ho, rfl⟩ := hx'
          rw [overOf_any, List.any_eq_false] at h2
          have h3 := h2 hs[k] (List.getElem_mem hkl)
          have e1 := hS k hkl
          rw [txAt_eq hkl] at e1 ho
          have e2 : seesV hs[k].saw (txAt hs j).rep (txAt hs j).seq = true := by simpa [histOf, txAt_eq hkl] using c
          rw [e1, e2, ho] at h3
          simp [hk2] at h3
    · rintro ⟨_, h1, h2⟩
      refine ⟨h1, ?_⟩
      rw [overOf_any, List.any_eq_false]
      intro u hu hc
      obtain ⟨k, hk1, rfl⟩ := List.mem_iff_getElem.1 hu
      simp only [Bool.and_eq_true] at hc
      obtain ⟨⟨c1, c2⟩, c3⟩ := hc
      have e1 := hS k hk1
      rw [txAt_eq hk1, c1] at e1
      have hkT : k < T := by simpa using e1.symm
      have hsee : (histOf hs).sees k j = true := by simp only [histOf, txAt_eq hk1]; exact c2
      have hjk := hH.back j k hjl hk1 hsee
      have := Hist.wentAt_none h2 k hjk hkT
      unfold Hist.over at this
      rw [hwr k hk1, txAt_eq hk1] at this
      obtain ⟨o, ho⟩ := Option.isSome_iff_exists.1 c3
      rw [ho] at this
      simp [hsee] at this
  have hlt : ∀ r s : Nat, r < n → (s : Int) + 1 ≤ S.getD r 0 → ∃ j, j < T ∧ (histOf hs).dot j = ⟨r, (s : Int) + 1⟩ := fun r s hr hs' => by
    obtain ⟨j, hj, e⟩ := hfull r s hr hs'
    refine ⟨j, ?_, e⟩
    have := hS j hj
    have e' : (txAt hs j).rep = r ∧ (txAt hs j).seq = (s : Int) + 1 := by simpa [histOf] using e
    rw [e'.1, e'.2] at this
    unfold seesV at this
    rw [Int.toNat_natCast, decide_eq_true hs'] at this
    simpa using this.symm
  have hreg : registerOf S key hs n = (dotsOf S n).flatMap fun d => regAt S key hs (findTx hs d.rep d.seq) := by
    unfold registerOf dotsOf regRow
    rw [List.flatMap_assoc]
    congr 1
    funext r
    rw [List.flatMap_map]
  -- what each dot gives
  have hone : ∀ d, d ∈ dotsOf S n → regAt S key hs (findTx hs d.rep d.seq) = if d ∈ l then [f d] else [] := fun d hd => by
    obtain ⟨r, s, hr, hs', rfl⟩ := mem_dotsOf.1 hd
    obtain ⟨j, hj, e⟩ := hlt r s hr hs'
    rw [← e]
    have hjl : j < hs.length := by omega
    rw [hfind j hjl]
    have hiff : (histOf hs).dot j ∈ l ↔ (histOf hs).cur ⟨key, noEl⟩ T j := by
      rw [hm]
      constructor
      · rintro ⟨i, hi, ei⟩
        have := hH.inj j i hjl (by have := hi.1; omega) ei
        subst this; exact hi
      · exact fun h => ⟨j, h, rfl⟩
    unfold regAt
    cases hlast : lastOf key noEl (txAt hs j).ops with
    | none =>
      rw [if_neg]
      rw [hiff, ← hover j hj, hlast]; simp
    | some o =>
      by_cases c : overOf S key (txAt hs j) hs = true
      · rw [if_neg (by rw [hiff, ← hover j hj, c]; simp)]
        simp [c]
      · have hc : (histOf hs).cur ⟨key, noEl⟩ T j := (hover j hj).1 ⟨by rw [hlast]; rfl, by simpa using c⟩
        rw [if_pos (hiff.2 hc), hf j ⟨1, 0, o.value⟩ hc (by rw [hwr j hjl, hlast]; rfl)]
        simp [c]
  rw [hreg]
  have hflat : ∀ ds : List Dot, (∀ d, d ∈ ds → regAt S key hs (findTx hs d.rep d.seq) = if d ∈ l then [f d] else []) → (ds.flatMap fun d => regAt S key hs (findTx hs d.rep d.seq)) = (ds.filter fun d => decide (d ∈ l)).map f := fun ds => by
    induction ds with
    | nil => intro _; rfl
    | cons d ds ih =>
      intro h
      rw [List.flatMap_cons, h d (by simp), ih (fun e he => h e (by simp [he])), List.filter_cons]
      by_cases c : d ∈ l <;> simp [c]
  rw [hflat _ hone]
  congr 1
  refine dots_ext hl ((dotsOf_sorted S n).sublist List.filter_sublist) fun d => ?_
  rw [List.mem_filter, decide_eq_true_eq]
  refine ⟨fun h => ⟨?_, h⟩, fun h => h.2⟩
  obtain ⟨j, hj, rfl⟩ := (hm d).1 h
  obtain ⟨r, s, hr, e⟩ := hin j hj.1
  rw [e]
  refine mem_dotsOf.2 ⟨r, s, hr, ?_, rfl⟩
  have hj1 := hj.1
  have := hS j (by omega)
  have e' : (txAt hs j).rep = r ∧ (txAt hs j).seq = (s : Int) + 1 := by simpa [histOf] using e
  rw [e'.1, e'.2, decide_eq_true hj1] at this
  unfold seesV at this
  rw [Int.toNat_natCast] at this
  simpa using this
theorem set_told {hs : List RTx} {S : List Int} {T : Nat} {key : ByteArray} (hk : kindOf key = 115) (hH : HsOk hs) (hS : SawAt hs S T) (hT : T ≤ hs.length) (a : ByteArray) : a ∈ setOf S key hs ↔ ∃ j, (histOf hs).cur ⟨key, a⟩ T j := by
  have hop : ∀ j, j < hs.length → ∀ o, o ∈ (txAt hs j).ops → OpOk o := fun j hj => hH.ops _ (by rw [txAt_eq hj]; exact List.getElem_mem hj)
  have hwr : ∀ j, j < hs.length → (histOf hs).wr j ⟨key, a⟩ = (lastOf key a (txAt hs j).ops).map wrOf := fun j hj => (own_set hk a _ (hop j hj)).1
  have hkd : ∀ j, j < hs.length → ∀ o, lastOf key a (txAt hs j).ops = some o → o.kind = 3 ∨ o.kind = 4 := fun j hj => (own_set hk a _ (hop j hj)).2
  have hk3 : ∀ o : ROp, o.kind = 3 → (wrOf o).kind = 2 := fun o h => by unfold wrOf; rw [if_neg (by omega), if_neg (by omega), if_pos h]
  have hk4 : ∀ o : ROp, o.kind = 4 → (wrOf o).kind = 3 := fun o h => by unfold wrOf; rw [if_neg (by omega), if_neg (by omega), if_neg (by omega)]
  have hiv : ∀ j, j < hs.length → ((histOf hs).isVer ⟨key, a⟩ j = true ↔ lastKind (lastOf key a (txAt hs j).ops) = 3) := fun j hj => by
    unfold Hist.isVer lastKind
    rw [hwr j hj]
    cases e : lastOf key a (txAt hs j).ops with
    | none => simp [ROp.none]
    | some o =>
      rcases hkd j hj o e with c | c
      · simp [hk3 o c, c]
      · simp [hk4 o c, c]
  have hov : ∀ k j, k < hs.length → ((histOf hs).over ⟨key, a⟩ k j = true ↔ (lastOf key a (txAt hs k).ops).isSome = true ∧ (histOf hs).sees k j = true) := fun k j hk' => by
    unfold Hist.over
    rw [hwr k hk']
    cases e : lastOf key a (txAt hs k).ops with
    | none => simp
    | some o =>
      rcases hkd k hk' o e with c | c
      · simp [hk3 o c]
      · simp [hk4 o c]
  -- removed by one of the first T that saw it
  have hgone : ∀ j, j < hs.length → (goneOf S key a (txAt hs j) hs = true ↔ ∃ k, k < T ∧ (histOf hs).sees k j = true ∧ lastKind (lastOf key a (txAt hs k).ops) = 4) := fun j hj => by
    rw [goneOf_any, List.any_eq_true]
    constructor
    · rintro ⟨u, hu, hc⟩
      obtain ⟨k, hk1, rfl⟩ := List.mem_iff_getElem.1 hu
      simp only [Bool.and_eq_true, decide_eq_true_eq] at hc
      obtain ⟨⟨⟨c1, c2⟩, c3⟩, c4⟩ := hc
      have e1 := hS k hk1
      rw [txAt_eq hk1, c1] at e1
      exact ⟨k, by simpa using e1.symm, by simp only [histOf, txAt_eq hk1]; exact c2, by rw [txAt_eq hk1]; exact c4⟩
    · rintro ⟨k, hkT, hs1, hl⟩
      have hk1 : k < hs.length := by omega
      refine ⟨hs[k], List.getElem_mem hk1, ?_⟩
      have e1 := hS k hk1
      rw [txAt_eq hk1] at e1 hl
      have e2 : seesV hs[k].saw (txAt hs j).rep (txAt hs j).seq = true := by simpa [histOf, txAt_eq hk1] using hs1
      rw [e1, e2]
      have e3 : (lastOf key a hs[k].ops).isSome = true := by
        unfold lastKind at hl
        cases e : lastOf key a hs[k].ops with
        | none => rw [e] at hl; simp [ROp.none] at hl
        | some o => rfl
      simp [hkT, e3, hl]
  have hmem := (setTxs_spec S key hs hs [] List.Pairwise.nil).2 a
  have hmem' : a ∈ setOf S key hs ↔ ∃ j, j < T ∧ lastKind (lastOf key a (txAt hs j).ops) = 3 ∧ goneOf S key a (txAt hs j) hs = false := by
    refine hmem.trans ?_
    constructor
    · rintro (c | ⟨t, ht, c1, c2, c3, c4⟩)
      · simp at c
      · obtain ⟨j, hj, rfl⟩ := List.mem_iff_getElem.1 ht
        have e1 := hS j hj
        rw [txAt_eq hj, c1] at e1
        exact ⟨j, by simpa using e1.symm, by rw [txAt_eq hj]; exact c3, by rw [txAt_eq hj]; exact c4⟩
    · rintro ⟨j, hj, c3, c4⟩
      have hjl : j < hs.length := by omega
      rw [txAt_eq hjl] at c3 c4
      refine Or.inr ⟨hs[j], List.getElem_mem hjl, ?_, ?_, c3, c4⟩
      · have e1 := hS j hjl
        rw [txAt_eq hjl] at e1
        rw [e1]; simpa using hj
      · rw [mem_elems hk (by have := hop j hjl; rwa [txAt_eq hjl] at this)]
        unfold lastKind at c3
        cases e : lastOf key a hs[j].ops with
        | none => rw [e] at c3; simp [ROp.none] at c3
        | some o => rfl
  rw [hmem']
  constructor
  · rintro ⟨j, hj, c3, c4⟩
    have : ∀ m j, T - j ≤ m → j < T → lastKind (lastOf key a (txAt hs j).ops) = 3 → goneOf S key a (txAt hs j) hs = false → ∃ j, (histOf hs).cur ⟨key, a⟩ T j := by
      intro m
      induction m with
      | zero => intro j h1 h2; omega
      | succ m ih =>
        intro j h1 h2 h3 h4
        have hjl : j < hs.length := by omega
        cases e : (histOf hs).wentAt ⟨key, a⟩ j T with
        | none => exact ⟨j, h2, (hiv j hjl).2 h3, e⟩
        | some k =>
          obtain ⟨q1, q2, q3⟩ := Hist.wentAt_lt e
          have hkl : k < hs.length := by omega
          rw [hov k j hkl] at q3
          obtain ⟨o, ho⟩ := Option.isSome_iff_exists.1 q3.1
          have hk3' : lastKind (lastOf key a (txAt hs k).ops) = 3 := by
            rcases hkd k hkl o ho with c | c
            · unfold lastKind; rw [ho]; exact c
            · have : goneOf S key a (txAt hs j) hs = true := (hgone j hjl).2 ⟨k, q2, q3.2, by unfold lastKind; rw [ho]; exact c⟩
              rw [h4] at this; cases this
          refine ih k (by omega) q2 hk3' ?_
          cases g : goneOf S key a (txAt hs k) hs
          · rfl
          · obtain ⟨i, i1, i2, i3⟩ := (hgone k hkl).1 g
            have : goneOf S key a (txAt hs j) hs = true := (hgone j hjl).2 ⟨i, i1, hH.trans j k i hjl hkl (by omega) i2 q3.2, i3⟩
            rw [h4] at this; cases this
    exact this T j (by omega) hj c3 c4
  · rintro ⟨j, hj, hi, hw⟩
    have hjl : j < hs.length := by omega
    refine ⟨j, hj, (hiv j hjl).1 hi, ?_⟩
    cases g : goneOf S key a (txAt hs j) hs
    · rfl
    · obtain ⟨k, k1, k2, k3⟩ := (hgone j hjl).1 g
      have hkl : k < hs.length := by omega
      have := Hist.wentAt_none hw k (hH.back j k hjl hkl k2) k1
      rw [(hov k j hkl).2 ⟨by
        unfold lastKind at k3
        cases e : lastOf key a (txAt hs k).ops with
        | none => rw [e] at k3; simp [ROp.none] at k3
        | some o => rfl, k2⟩] at this
      cases this

end Go.Proofs.YtiplgdkpnhamaaaGreatDoor

/- The library's slices.Clone at dots. -/
namespace Go.Proofs.YtiplgdkpnhamaaaGreatDoor
open Go.RowKit

theorem Tryz.infoDotX : (Tryz.prog.info? 62).map (fun i => (i.zero, i.size, i.bytes)) = some (some (.agg #[.int .i64 0, .int .i64 0]), 2, 16) := by kernel_rfl
theorem flat_one {l : List Dot} : ∀ u ∈ l.flatMap Dot.cells, u.oneCell' = true := by
  intro u hu
  rw [List.mem_flatMap] at hu
  obtain ⟨d, -, hd⟩ := hu
  simp only [Dot.cells, List.mem_cons, List.not_mem_nil, or_false] at hd
  rcases hd with rfl | rfl <;> rfl
set_option maxRecDepth 100000 in
set_option maxHeartbeats 2000000 in
theorem clone_dots (w : World) (v : Value) (l : List Dot) (hrow : Row w 62 2 v l.length (l.flatMap Dot.cells)) (hl : l.length ≤ 1000000000) :
    Calls Tryz.prog 179 #[v] w fun e w' => ∃ v', e = .returned v' ∧ w'.ownsRow w.heap.size 62 2 v' l.length (l.flatMap Dot.cells) ∧ Below w.heap.size w w' := by
  have hnil := fun w a n c => Lib.run_eql_slice_nil (P := Tryz.prog) w 241 62 a n c 0 0 Tryz.underlying241
  obtain ⟨i0, hi, hz0, hz1, hz2⟩ := info_parts Tryz.infoDotX
  rcases hrow.2 with ⟨rfl, h0⟩ | ⟨g, cap, cur, rfl, -, hg, hc, hm, hs, ht⟩
  · have e : l = [] := List.eq_nil_of_length_eq_zero h0
    subst e
    clear hrow
    go_enter Tryz.func179, Tryz.ntmps179
    go_wp2_with fail
    go_ret
    exact ⟨_, rfl, World.ownsRow_nil _ _ _ _, Below.refl _ _⟩
  · have hcells : ∀ j u, (l.flatMap Dot.cells)[j]? = some u → w.cell? ((⟨g, 0, none⟩ : Addr).add j) = some u := World.ownsRow.cells (g := g) hrow rfl
    have HC := hide hcells
    have HL := hide (flat_len Dot.cells 2 (fun _ => rfl) l)
    have HC2 : Hid (∀ j u, (l.flatMap Dot.cells)[j]? = some u → (w.alloc (.cells #[] 62)).cell? ((⟨g, 0, none⟩ : Addr).add j) = some u) := fun j u hu => by
      have := hcells j u hu
      rw [Addr.add_lit] at this ⊢
      rw [World.cell?_alloc_past _ _ _ (World.block_lt_of_cell? w _ this)]; exact this
    have HE : Hid ((w.alloc (.cells #[] 62)).ownsRow w.heap.size 62 2 (.slice (some ⟨w.heap.size, 0, none⟩) 0 0) 0 []) := ⟨rfl, .inr ⟨w.heap.size, 0, #[], rfl, Nat.le_refl _, heap_alloc_new w _, Nat.le_refl _, Nat.zero_le _, rfl, rfl⟩⟩
    clear hrow hcells
    go_enter Tryz.func179, Tryz.ntmps179
    go_wp2_with (at_builtin; refine wpList_append_own_at _ rfl _ _ 241 rfl w.heap.size 62 i0 (.agg #[.int .i64 0, .int .i64 0]) 2 16 Tryz.underlying241 hi hz0 hz1 hz2 rfl (by decide) _ 0 [] rfl HE.out ⟨g, 0, none⟩ l.length cap (l.flatMap Dot.cells) rfl HL.out HC2.out flat_one (by unfold maxLen; omega) (by omega) (by simp) ?_; intro v1 w1 hown1 hgrow1 hnil1 hat1)
    go_ret
    refine ⟨v1, rfl, by simpa using hown1, ((Below.refl _ _).alloc (Nat.le_refl _) _).grown hgrow1 (by simp) (fun j hj => ?_)⟩
    cases hj
    exact Nat.le_refl _

end Go.Proofs.YtiplgdkpnhamaaaGreatDoor

/- The program's transaction.write. -/
namespace Go.Proofs.YtiplgdkpnhamaaaGreatDoor
open Go.RowKit

set_option maxRecDepth 100000 in
set_option maxHeartbeats 2000000 in
theorem twrite_full (w : World) (tb : Nat) (began own : Value) (p : Place) (x : Wr) (hT : Blk w tb [began, .int .i64 16, own] 122) :
    Calls Tryz.prog 62 #[.pointer (some ⟨tb, 0, none⟩), p.val, x.val] w fun e w' => e = .returned (.int .i64 5) ∧ Below w.heap.size w w' := by
  obtain ⟨k, a, v⟩ := x
  obtain ⟨pk, pe⟩ := p
  simp only [Place.val] at *
  have c1 : w.cell? ⟨tb, 1, none⟩ = some (.int .i64 16) := hT.cell 1
  have hl := hT.lt
  clear hT
  go_enter Tryz.func62, Tryz.ntmps62
  go_wp2_with fail
  go_ret
  exact ⟨rfl, ((Below.refl _ _).alloc (Nat.le_refl _) _).alloc (by simp) _⟩

set_option maxRecDepth 100000 in
set_option maxHeartbeats 4000000 in
theorem twrite_ok (w : World) (tb mb n : Nat) (calls : Int) (began : Value) (m : Place → Option Wr) (p : Place) (x : Wr) (hT : Blk w tb [began, .int .i64 calls, .map (some mb)] 122) (hM : MapIn w 129 mb n Place.val Wr.val m) (hne : tb ≠ mb)
    (h0 : 0 ≤ calls) (h16 : calls < 16) (h1 : p.key.size ≤ maxLen) (h2 : p.el.size ≤ maxLen) (hn : n < maxLen) :
    Calls Tryz.prog 62 #[.pointer (some ⟨tb, 0, none⟩), p.val, x.val] w fun e w' => e = .returned (.int .i64 0) ∧ Blk w' tb [began, .int .i64 (calls + 1), .map (some mb)] 122 ∧
      MapIn w' 129 mb (n + 1) Place.val Wr.val (fun q => if q = p then some (putWr m p x) else m q) ∧ Touch (fun q => q = tb ∨ q = mb) w w' := by
  have HP : Hid (∀ W, W.heap[mb]? = w.heap[mb]? → Calls Tryz.prog 102 #[.map (some mb), p.val, x.val] W fun e w' => e = .returned (.tuple #[]) ∧ MapIn w' 129 mb (n + 1) Place.val Wr.val (fun q => if q = p then some (putWr m p x) else m q) ∧ Touch (fun q => q = mb) W w') := fun W hW => put_any W mb n m p x (hM.move hW) h1 h2 hn
  have hml := hM.lt
  have hl := hT.lt
  have hne' : mb ≠ tb := fun e => hne e.symm
  obtain ⟨k, a, v⟩ := x
  obtain ⟨pk, pe⟩ := p
  simp only [Place.val] at *
  have c1 : w.cell? ⟨tb, 1, none⟩ = some (.int .i64 calls) := hT.cell 1
  have c2 : w.cell? ⟨tb, 2, none⟩ = some (.map (some mb)) := hT.cell 2
  have f1 : w.frozen? ⟨tb, 1, none⟩ = false := hT.frozen 1
  have hc : (calls == 16) = false := beq_false_of_ne (by omega)
  have HT := hide hT
  clear hT hM
  go_enter Tryz.func62, Tryz.ntmps62
  have hWm : (((w.setCell ⟨tb, 1, none⟩ (.int .i64 (calls + 1))).alloc (.cells #[.string pk, .string pe] 129)).alloc (.cells #[.int .i64 k, .int .i64 a, .string v] 132)).heap[mb]? = w.heap[mb]? := by
    rw [Below.heap_alloc _ _ _ (by simp; omega), Below.heap_alloc _ _ _ (by simp; omega), Below.heap_setCell _ _ _ _ hne']
  have hWb : Blk (((w.setCell ⟨tb, 1, none⟩ (.int .i64 (calls + 1))).alloc (.cells #[.string pk, .string pe] 129)).alloc (.cells #[.int .i64 k, .int .i64 a, .string v] 132)) tb [began, .int .i64 (calls + 1), .map (some mb)] 122 := ((HT.out.set 1 _).alloc _).alloc _
  have hWt : Touch (fun q => q = tb ∨ q = mb) w (((w.setCell ⟨tb, 1, none⟩ (.int .i64 (calls + 1))).alloc (.cells #[.string pk, .string pe] 129)).alloc (.cells #[.int .i64 k, .int .i64 a, .string v] 132)) := (((Touch.refl _ _).setCell (p := ⟨tb, 1, none⟩) (Or.inl (Or.inl rfl)) _).alloc _).alloc _
  have HW := hide (⟨hWm, hWb, hWt⟩ : _ ∧ _ ∧ _)
  clear hWm hWb hWt
  go_wp2_with fail
  go_region_with (go_at_call 102; refine (HP.out _ (by exact HW.out.1)).mono ?_; rintro e w5 ⟨rfl, hM5, hT5⟩; have HM5 := hide hM5; have HT5 := hide hT5; clear hM5 hT5)
  all_goals go_wp2_with fail
  all_goals go_ret
  all_goals exact ⟨rfl, HW.out.2.1.move (HT5.out.block tb HW.out.2.1.lt hne), HM5.out, HW.out.2.2.drew.then (HT5.out.mono fun q _ e => Or.inr e)⟩

end Go.Proofs.YtiplgdkpnhamaaaGreatDoor
