/- The texts R10, L2, G5, joined. -/
import Derived.Test.YtiplgdkpnhamaaaGreatDoorW05
import Derived.Test.YtiplgdkpnhamaaaGreatDoorW02
import Derived.Deep.RegionLaw
import Derived.Deep.DeepCutAuto
import Derived.BigRegion

/- The reference's Group.Commit: what it answers, and what becomes of the group. -/
namespace Go.Proofs.YtiplgdkpnhamaaaGreatDoor
open Go.RowKit

theorem Tryz.infoTxC : (Tryz.prog.info? 217).map (fun i => (i.zero, i.size, i.bytes)) = some (some (.agg #[.bool false, .int .i64 0, .int .i64 0, .slice none 0 0, .slice none 0 0]), 5, 72) := by kernel_rfl

set_option maxHeartbeats 1000000 in
theorem rcommit_no (w : World) (gb b : Nat) (v : Value) (xs : List XTx) (tx : Int) (hn : xs.length ≤ 6)
    (hv : w.cell? ⟨b, 2, none⟩ = some v) (hrow : Row w 217 5 v xs.length (xs.flatMap XTx.cells)) (hop : isOpenAt xs tx = false) :
    Calls Tryz.prog 91 #[.pointer (some ⟨gb, 0, none⟩), .pointer (some ⟨b, 0, none⟩), .int .i64 tx] w fun e w' => e = .returned (.tuple #[.agg #[.int .i64 0, .int .i64 0], .int .i64 4]) ∧ Below w.heap.size w w' := by
  have HV : Hid ((w.alloc (.cells #[.int .i64 0, .int .i64 0] 62)).cell? ⟨b, 2, none⟩ = some v) := by
    unfold Hid; rw [World.cell?_alloc_past _ _ _ (World.block_lt_of_cell? w _ hv)]; exact hv
  have HR := hide (hrow.alloc (.cells #[.int .i64 0, .int .i64 0] 62))
  clear hrow hv
  go_enter Tryz.func91, Tryz.ntmps91
  go_wp2_with fail
  refine (is_any _ b v xs tx (by omega) HV.out HR.out).mono ?_
  rintro e w1 ⟨rfl, rfl⟩
  go_wp2_with fail
  exact bodyPost_ret (v := .tuple #[.agg #[.int .i64 0, .int .i64 0], .int .i64 4]) (by simp [results, Tryz.results91, go_sem]) rfl ⟨rfl, (Below.refl _ _).alloc (Nat.le_refl _) _⟩

set_option maxHeartbeats 1000000 in
theorem rcommit_empty (w : World) (gb b : Nat) (v : Value) (xs : List XTx) (k : Nat) (o1 : Option Addr) (ocap : Nat) (hn : xs.length ≤ 6) (hk : k < xs.length) (hb : b < w.heap.size)
    (hv : w.cell? ⟨b, 2, none⟩ = some v) (hrow : Row w 217 5 v xs.length (xs.flatMap XTx.cells)) (hop : xs[k].isOpen = true) (hov : xs[k].ov = .slice o1 0 ocap) (hbv : ¬ v.ownBlock = some b) :
    Calls Tryz.prog 91 #[.pointer (some ⟨gb, 0, none⟩), .pointer (some ⟨b, 0, none⟩), .int .i64 k] w fun e w' => e = .returned (.tuple #[.agg #[.int .i64 0, .int .i64 0], .int .i64 0]) ∧
      Row w' 217 5 v xs.length ((xs.set k { xs[k] with isOpen := false }).flatMap XTx.cells) ∧ Touch (fun k => v.ownBlock = some k) w w' := by
  obtain ⟨g, cap, rfl, hcap, hm, hg, hc, hf⟩ := hrow.pos (by omega)
  have h0 := hc (k * 5 + 0) (by omega)
  have h4 := hc (k * 5 + 4) (by omega)
  rw [flat_get _ 5 XTx.cells_len _ _ _ hk (by omega)] at h0 h4
  simp only [XTx.cells, List.getElem?_cons_zero, List.getElem?_cons_succ, Nat.add_zero] at h0 h4
  rw [hov] at h4
  have HI : Hid (isOpenAt xs k = true) := by simp [Hid, isOpenAt, hk, hop]
  have HFS := hide (flat_set XTx.cells 5 XTx.cells_len xs k 0 hk (.bool false) { xs[k] with isOpen := false } (by omega) rfl)
  have HV : Hid ((w.alloc (.cells #[.int .i64 0, .int .i64 0] 62)).cell? ⟨b, 2, none⟩ = some (.slice (some ⟨g, 0, none⟩) xs.length cap)) := by
    unfold Hid; rw [World.cell?_alloc_past _ _ _ hb]; exact hv
  have HR := hide (hrow.alloc (.cells #[.int .i64 0, .int .i64 0] 62))
  have hgb' : ¬ g = b := fun e => hbv (by simp [Value.ownBlock, e])
  have hgb2 : g ≠ b := hgb'
  have hgb3 : b ≠ g := fun e => hgb' e.symm
  have HW := hide hrow
  clear hrow hc hop hov hbv hgb'
  go_enter Tryz.func91, Tryz.ntmps91
  go_wp2_with fail
  refine (is_any _ b _ xs k (by omega) HV.out HR.out).mono ?_
  rintro e w1 ⟨he, rfl⟩
  rw [HI.out] at he
  subst he
  go_wp2_with fail
  refine bodyPost_ret (v := .tuple #[.agg #[.int .i64 0, .int .i64 0], .int .i64 0]) (by simp [results, Tryz.results91, go_sem]) rfl ⟨rfl, ?_, ?_⟩
  · have a := (World.ownsRow.stored HW.out (k * 5 + 0) (.bool false)).1
    rw [HFS.out] at a
    exact World.ownsRow.alloc a _
  · exact ((Touch.refl (fun k => (Value.slice (some ⟨g, 0, none⟩) xs.length cap).ownBlock = some k) _).setCell (p := ⟨g, k * 5, none⟩) (Or.inl rfl) _).alloc _

/-- The reference's group and one of its replicas in memory, behind what has been done to them since w0. -/
structure CoSt (A : Tag → Prop) (w0 : World) (o0 : Nat → Tag) (wr : World) (o : Nat → Tag) (tg ta tb tv tx : Tag) (gb b n idn : Nat) (rsv av vv v kv gv : Value) (vis : List Int) (axs xs : List XTx) : Prop where
  grp : Bl wr o tg gb [.int .i64 n, rsv, av] 89
  all : Pc wr o ta 217 5 av axs.length (axs.flatMap XTx.cells)
  rep : Bl wr o tb b [.int .i64 idn, vv, v, kv, gv] 165
  vis : Pc wr o tv 3 1 vv vis.length (ints vis)
  row : Pc wr o tx 217 5 v xs.length (xs.flatMap XTx.cells)
  touch : TouchT A w0 o0 wr o
structure Dist5 (tg ta tb tv tx : Tag) : Prop where
  ga : tg ≠ ta
  gb : tg ≠ tb
  gv : tg ≠ tv
  gx : tg ≠ tx
  ab : ta ≠ tb
  av : ta ≠ tv
  ax : ta ≠ tx
  bv : tb ≠ tv
  bx : tb ≠ tx
  vx : tv ≠ tx
structure Off (t tg ta tb tv tx : Tag) : Prop where
  g : t ≠ tg
  a : t ≠ ta
  b : t ≠ tb
  v : t ≠ tv
  x : t ≠ tx

section
variable {A : Tag → Prop} {w0 wr : World} {o0 o : Nat → Tag} {tg ta tb tv tx : Tag} {gb b n idn : Nat} {rsv av vv v kv gv : Value} {vis : List Int} {axs xs : List XTx}
theorem CoSt.new (h : CoSt A w0 o0 wr o tg ta tb tv tx gb b n idn rsv av vv v kv gv vis axs xs) (cs : List Value) (ty : TypeId) (t : Tag) :
    CoSt A w0 o0 (wr.alloc (.cells cs.toArray ty)) (upd o wr.heap.size t) tg ta tb tv tx gb b n idn rsv av vv v kv gv vis axs xs ∧ Bl (wr.alloc (.cells cs.toArray ty)) (upd o wr.heap.size t) t wr.heap.size cs ty := by
  have hg : (wr.alloc (.cells cs.toArray ty)).heap.size = wr.heap.size + 1 := by simp
  have hb : ∀ q, q < wr.heap.size → (wr.alloc (.cells cs.toArray ty)).heap[q]? = wr.heap[q]? := fun q hq => Below.heap_alloc wr _ q hq
  have ho : ∀ q, q < wr.heap.size → upd o wr.heap.size t q = o q := fun q hq => upd_other (by omega)
  exact ⟨⟨h.grp.move (fun q hq _ => hb q hq) ho, h.all.move (fun q hq _ => hb q hq) ho, h.rep.move (fun q hq _ => hb q hq) ho, h.vis.move (fun q hq _ => hb q hq) ho, h.row.move (fun q hq _ => hb q hq) ho, ⟨h.touch.touch.alloc _, fun q hq => (ho q (Nat.lt_of_lt_of_le hq h.touch.size)).trans (h.touch.same q hq)⟩⟩,
    ⟨heap_alloc_new wr (.cells cs.toArray ty), upd_same _ _ _⟩⟩
theorem Bl.new {t' : Tag} {b' : Nat} {cs' : List Value} {ty' : TypeId} (h : Bl wr o t' b' cs' ty') (ob : Obj) (t : Tag) : Bl (wr.alloc ob) (upd o wr.heap.size t) t' b' cs' ty' :=
  h.move (fun q hq _ => Below.heap_alloc wr ob q hq) (fun q hq => upd_other (by omega))
theorem CoSt.drew (h : CoSt A w0 o0 wr o tg ta tb tv tx gb b n idn rsv av vv v kv gv vis axs xs) : CoSt A w0 o0 wr.drew o tg ta tb tv tx gb b n idn rsv av vv v kv gv vis axs xs :=
  ⟨h.grp.drew, h.all.drew, h.rep.drew, h.vis.drew, h.row.drew, h.touch.drew⟩
theorem CoSt.close (D : Dist5 tg ta tb tv tx) {g cap k : Nat} (h : CoSt A w0 o0 wr o tg ta tb tv tx gb b n idn rsv av vv (.slice (some ⟨g, 0, none⟩) xs.length cap) kv gv vis axs xs) (hk : k < xs.length) (ha : A tx) :
    CoSt A w0 o0 (wr.setCell ⟨g, k * 5, none⟩ (.bool false)) o tg ta tb tv tx gb b n idn rsv av vv (.slice (some ⟨g, 0, none⟩) xs.length cap) kv gv vis axs (xs.set k { xs[k] with isOpen := false }) := by
  have e : o (⟨g, k * 5, none⟩ : Addr).block = tx := h.row.tag g rfl
  refine ⟨h.grp.other e D.gx _, h.all.set e D.ax _, h.rep.other e D.bx _, h.vis.set e D.vx _, ⟨?_, h.row.tag⟩, h.touch.set (by rw [e]; exact ha) _⟩
  have := (World.ownsRow.stored h.row.row (k * 5 + 0) (.bool false)).1
  rw [flat_set XTx.cells 5 XTx.cells_len xs k 0 hk (.bool false) { xs[k] with isOpen := false } (by omega) rfl] at this
  rw [List.length_set]
  exact this
theorem ints_set (l : List Int) (j : Nat) (x : Int) : (ints l).set j (.int .i64 x) = ints (l.set j x) := by simp [ints, List.map_set]
theorem CoSt.step (D : Dist5 tg ta tb tv tx) {gg vcap j : Nat} (h : CoSt A w0 o0 wr o tg ta tb tv tx gb b n idn rsv av (.slice (some ⟨gg, 0, none⟩) vis.length vcap) v kv gv vis axs xs) (x : Int) (ha : A tv) :
    CoSt A w0 o0 (wr.setCell ⟨gg, j, none⟩ (.int .i64 x)) o tg ta tb tv tx gb b n idn rsv av (.slice (some ⟨gg, 0, none⟩) vis.length vcap) v kv gv (vis.set j x) axs xs := by
  have e : o (⟨gg, j, none⟩ : Addr).block = tv := h.vis.tag gg rfl
  refine ⟨h.grp.other e D.gv _, h.all.set e D.av _, h.rep.other e D.bv _, ⟨?_, h.vis.tag⟩, h.row.set e D.vx.symm _, h.touch.set (by rw [e]; exact ha) _⟩
  have := (World.ownsRow.stored h.vis.row j (.int .i64 x)).1
  rw [ints_set] at this
  rw [List.length_set]
  exact this
theorem CoSt.app (D : Dist5 tg ta tb tv tx) {w1 : World} {v1 : Value} {ob : Obj} {x : XTx} (h : CoSt A w0 o0 wr o tg ta tb tv tx gb b n idn rsv av vv v kv gv vis axs xs) (ha : A ta ∧ A tg)
    (hown : w1.ownsRow 0 217 5 v1 (axs.length + 1) (axs.flatMap XTx.cells ++ x.cells)) (hg : (wr.alloc ob).grownBy w1 av.ownBlock) (hat : v1.ownBlock = av.ownBlock ∨ v1.ownBlock = some (wr.alloc ob).heap.size) :
    CoSt A w0 o0 (w1.setCell ⟨gb, 2, none⟩ v1) (upd o (wr.alloc ob).heap.size ta) tg ta tb tv tx gb b n idn rsv v1 vv v kv gv vis (axs ++ [x]) xs := by
  have g1 := (h.grp.alloc ob).grew hg h.all.tag D.ga
  have e : upd o (wr.alloc ob).heap.size ta (⟨gb, 2, none⟩ : Addr).block = tg := g1.tag
  refine ⟨g1.set 2 v1, ?_, ((h.rep.alloc ob).grew hg h.all.tag D.ab.symm).other e D.gb.symm v1, ((h.vis.alloc ob).grew hg h.all.tag D.av.symm).set e D.gv.symm v1, ((h.row.alloc ob).grew hg h.all.tag D.ax.symm).set e D.gx.symm v1, ((h.touch.alloc ob).grew hg h.all.tag ha.1).set (by rw [e]; exact ha.2) v1⟩
  have := ((h.all.alloc ob).app hown hat).set e D.ga.symm v1
  rw [flat_snoc, List.length_append]
  exact this
theorem CoSt.off {t : Tag} (F : Off t tg ta tb tv tx) {p : Addr} (hp : o p.block = t) (h : CoSt A w0 o0 wr o tg ta tb tv tx gb b n idn rsv av vv v kv gv vis axs xs) (hn : w0.heap.size ≤ p.block) (x : Value) :
    CoSt A w0 o0 (wr.setCell p x) o tg ta tb tv tx gb b n idn rsv av vv v kv gv vis axs xs :=
  ⟨h.grp.other hp F.g.symm x, h.all.set hp F.a.symm x, h.rep.other hp F.b.symm x, h.vis.set hp F.v.symm x, h.row.set hp F.x.symm x, ⟨h.touch.touch.setCell (Or.inr hn) x, h.touch.same⟩⟩
theorem Bl.app {ob : Obj} {w1 : World} {v1 : Value} {t' : Tag} {b' j : Nat} {cs' : List Value} {ty' : TypeId} (H : Bl wr o t' b' cs' ty') (h : CoSt A w0 o0 wr o tg ta tb tv tx gb b n idn rsv av vv v kv gv vis axs xs)
    (hg : (wr.alloc ob).grownBy w1 av.ownBlock) (hta : t' ≠ ta) (htg : t' ≠ tg) : Bl (w1.setCell ⟨gb, j, none⟩ v1) (upd o (wr.alloc ob).heap.size ta) t' b' cs' ty' :=
  ((H.alloc ob).grew hg h.all.tag hta).other (p := ⟨gb, j, none⟩) (by have := h.grp.blk.lt; show upd o (wr.alloc ob).heap.size ta gb = tg; rw [upd_other (by simp; omega)]; exact h.grp.tag) htg v1
end
theorem newsd (w : World) (cs : List Value) (t : TypeId) : ∀ j u, cs[j]? = some u → (w.alloc (.cells cs.toArray t)).drew.cell? ((⟨w.heap.size, 0, none⟩ : Addr).add j) = some u := by
  have h : Blk (w.alloc (.cells cs.toArray t)).drew w.heap.size cs t := heap_alloc_new w (.cells cs.toArray t)
  exact news_at h
theorem off_exists (tg ta tb tv tx : Tag) : ∃ tr td tt : Tag, Off tr tg ta tb tv tx ∧ Off td tg ta tb tv tx ∧ Off tt tg ta tb tv tx ∧ tr ≠ td ∧ tr ≠ tt ∧ td ≠ tt := by
  refine ⟨(tg.1 + ta.1 + tb.1 + tv.1 + tx.1 + 1, 0, 0), (tg.1 + ta.1 + tb.1 + tv.1 + tx.1 + 2, 0, 0), (tg.1 + ta.1 + tb.1 + tv.1 + tx.1 + 3, 0, 0), ?_, ?_, ?_, ?_, ?_, ?_⟩
  · constructor <;> (intro e; have := congrArg (fun t : Tag => t.1) e; simp at this; omega)
  · constructor <;> (intro e; have := congrArg (fun t : Tag => t.1) e; simp at this; omega)
  · constructor <;> (intro e; have := congrArg (fun t : Tag => t.1) e; simp at this; omega)
  all_goals (intro e; have := congrArg (fun t : Tag => t.1) e; simp at this)

set_option maxRecDepth 100000 in
set_option maxHeartbeats 4000000 in
theorem rcommit_ok (A : Tag → Prop) (w : World) (o : Nat → Tag) (tg ta tb tv tx : Tag) (D : Dist5 tg ta tb tv tx) (gb b n idn : Nat) (rsv av vv v kv gv : Value) (vis : List Int) (axs xs : List XTx) (k : Nat) (hn : xs.length ≤ 6) (hk : k < xs.length) (hid : idn < vis.length) (hvis : vis.length ≤ 5) (hmax : 0 ≤ vis[idn] ∧ vis[idn] ≤ 2000000)
    (hall : axs.length ≤ 2000000) (hst : CoSt A w o w o tg ta tb tv tx gb b n idn rsv av vv v kv gv vis axs xs) (ha : A tg ∧ A ta ∧ A tv ∧ A tx)
    (hop : xs[k].isOpen = true) (o1 s1 : Option Addr) (m ocap sn scap : Nat) (hov : xs[k].ov = .slice o1 (m + 1) ocap) (hsv : xs[k].sv = .slice s1 sn scap) (hm16 : m ≤ 16) :
    Calls Tryz.prog 91 #[.pointer (some ⟨gb, 0, none⟩), .pointer (some ⟨b, 0, none⟩), .int .i64 k] w fun e w' => e = .returned (.tuple #[.agg #[.int .i64 idn, .int .i64 (vis[idn] + 1)], .int .i64 0]) ∧
      ∃ o' av', CoSt A w o w' o' tg ta tb tv tx gb b n idn rsv av' vv v kv gv (vis.set idn (vis[idn] + 1)) (axs ++ [{ xs[k] with isOpen := false, rep := idn, seq := vis[idn] + 1 }]) (xs.set k { xs[k] with isOpen := false }) := by
  obtain ⟨tr, td, tt, hr, hd, ht, nrd, nrt, ndt⟩ := off_exists tg ta tb tv tx
  obtain ⟨g, cap, rfl, hcap, hm, hg, hc, hf⟩ := hst.row.row.pos (by omega)
  obtain ⟨gg, vcap, rfl, hvcap, hvm, hgg, hvc, hvf⟩ := hst.vis.row.pos (by omega)
  have h0 := hc (k * 5 + 0) (by omega)
  have h4 := hc (k * 5 + 4) (by omega)
  rw [flat_get _ 5 XTx.cells_len _ _ _ hk (by omega)] at h0 h4
  simp only [XTx.cells, List.getElem?_cons_zero, List.getElem?_cons_succ, Nat.add_zero] at h0 h4
  rw [hov] at h4
  have hb2 : w.cell? ⟨b, 2, none⟩ = some (.slice (some ⟨g, 0, none⟩) xs.length cap) := hst.rep.blk.cell 2
  have hbl := hst.rep.blk.lt
  have e6 : g ≠ b := fun e => D.bx (by rw [← hst.rep.tag, ← e]; exact hst.row.tag g rfl)
  have e6' : b ≠ g := fun e => e6 e.symm
  have HI : Hid (isOpenAt xs k = true) := by simp [Hid, isOpenAt, hk, hop]
  have HV : Hid ((w.alloc (.cells #[.int .i64 0, .int .i64 0] 62)).cell? ⟨b, 2, none⟩ = some (.slice (some ⟨g, 0, none⟩) xs.length cap)) := by
    unfold Hid; rw [World.cell?_alloc_past _ _ _ hbl]; exact hb2
  have HR := hide (World.ownsRow.alloc hst.row.row (.cells #[.int .i64 0, .int .i64 0] 62))
  have HST := hide hst
  have hlen : (xs.set k { xs[k] with isOpen := false }).length = xs.length := by simp
  have HX := hide (⟨hov, hsv⟩ : _ ∧ _)
  have HTG := hide (⟨D, ha, hr, hd, ht, nrd, nrt, ndt⟩ : _ ∧ _ ∧ _ ∧ _ ∧ _ ∧ _ ∧ _ ∧ _)
  have hfk := hf (k * 5)
  clear hst hc hop hov hsv hvc hf hvf D ha hr hd ht nrd nrt ndt
  go_enter Tryz.func91, Tryz.ntmps91
  go_wp2_with fail
  refine (is_any _ b _ xs k (by omega) HV.out HR.out).mono ?_
  rintro e w1 ⟨he, rfl⟩
  rw [HI.out] at he
  subst he
  go_upto_region 4 with (fail)
  go_cut [] (fun wc => ∃ oc, CoSt A w o wc oc tg ta tb tv tx gb b n idn rsv av (.slice (some ⟨gg, 0, none⟩) vis.length vcap) (.slice (some ⟨g, 0, none⟩) xs.length cap) kv gv vis axs (xs.set k { xs[k] with isOpen := false }) ∧ Bl wc oc tr w.heap.size [.int .i64 0, .int .i64 0] 62)
  case first =>
    go_wp2_with fail
    go_meet
    case rel =>
      have a := CoSt.close HTG.out.1 HST.out hk HTG.out.2.1.2.2.2
      have a1 := a.new [.int .i64 0, .int .i64 0] 62 tr
      rw [show (w.setCell ⟨g, k * 5, none⟩ (.bool false)).heap.size = w.heap.size by simp] at a1
      exact ⟨_, a1⟩
  case rest =>
    obtain ⟨oc, hst, hres⟩ := hcut
    clear HI HV HR HST h0 h4 hb2 hbl hfk hg hgg
    obtain ⟨_, _, e, -, -, hg, hc, -⟩ := hst.row.row.pos (by simp; omega)
    obtain ⟨e', -, -⟩ := Value.slice.inj e
    cases e'
    clear e
    obtain ⟨_, _, e, -, -, hgg, hvc, hvf⟩ := hst.vis.row.pos (by omega)
    obtain ⟨e', -, -⟩ := Value.slice.inj e
    cases e'
    clear e
    have h4 := hc (k * 5 + 4) (by simp; omega)
    rw [flat_get _ 5 XTx.cells_len _ _ _ (by simpa using hk) (by omega)] at h4
    simp only [XTx.cells, List.getElem?_cons_zero, List.getElem?_cons_succ, List.getElem_set_self] at h4
    rw [HX.out.1] at h4
    have hvi := hvc idn (by omega)
    rw [ints_get _ _ hid] at hvi
    have hvif := hvf idn
    have hb0 : wc.cell? ⟨b, 0, none⟩ = some (.int .i64 idn) := hst.rep.blk.cell 0
    have hb1 : wc.cell? ⟨b, 1, none⟩ = some (.slice (some ⟨gg, 0, none⟩) vis.length vcap) := hst.rep.blk.cell 1
    have hb2 : wc.cell? ⟨b, 2, none⟩ = some (.slice (some ⟨g, 0, none⟩) xs.length cap) := hst.rep.blk.cell 2
    have hbl := hst.rep.blk.lt
    have HST := hide hst
    have HRES := hide hres
    generalize hvx : vis[idn] = vx at *
    have HVX := hide hvx
    clear hst hres hc hvc hvf hvx
    go_upto_region 7 with (fail)
    go_cut [] (fun wd => ∃ od, CoSt A w o wd od tg ta tb tv tx gb b n idn rsv av (.slice (some ⟨gg, 0, none⟩) vis.length vcap) (.slice (some ⟨g, 0, none⟩) xs.length cap) kv gv (vis.set idn (vx + 1)) axs (xs.set k { xs[k] with isOpen := false }) ∧ Bl wd od tr w.heap.size [.int .i64 0, .int .i64 0] 62)
    case first =>
      go_region
      go_wp2_with fail
      go_meet
      case rel =>
        have e : oc (⟨gg, idn, none⟩ : Addr).block = tv := HST.out.vis.tag gg rfl
        exact ⟨oc, (CoSt.step HTG.out.1 HST.out (vx + 1) HTG.out.2.1.2.2.1).drew, (HRES.out.other e HTG.out.2.2.1.v _).drew⟩
    case rest =>
      clear h4 hvi hvif hb0 hb1 hb2 hbl HST HRES hg hgg
      obtain ⟨od, hst, hres⟩ := hcut
      obtain ⟨_, _, e, -, -, hgg, hvc, -⟩ := hst.vis.row.pos (by simp; omega)
      obtain ⟨e', -, -⟩ := Value.slice.inj e
      cases e'
      clear e
      have hvi := hvc idn (by simp; omega)
      rw [ints_get _ _ (by simpa using hid), List.getElem_set_self] at hvi
      have hb0 : wc.cell? ⟨b, 0, none⟩ = some (.int .i64 idn) := hst.rep.blk.cell 0
      have hb1 : wc.cell? ⟨b, 1, none⟩ = some (.slice (some ⟨gg, 0, none⟩) vis.length vcap) := hst.rep.blk.cell 1
      have hbl := hst.rep.blk.lt
      have HST := hide hst
      have HRES := hide hres
      clear hst hres hvc
      go_upto_region 8 with (fail)
      go_cut [9] (fun p wd => ∃ od db, p = .pointer (some ⟨db, 0, none⟩) ∧ w.heap.size ≤ db ∧ CoSt A w o wd od tg ta tb tv tx gb b n idn rsv av (.slice (some ⟨gg, 0, none⟩) vis.length vcap) (.slice (some ⟨g, 0, none⟩) xs.length cap) kv gv (vis.set idn (vx + 1)) axs (xs.set k { xs[k] with isOpen := false }) ∧ Bl wd od tr w.heap.size [.int .i64 0, .int .i64 0] 62 ∧ Bl wd od td db [.int .i64 idn, .int .i64 (vx + 1)] 62)
      case first =>
        go_region
        go_wp2_with fail
        go_meet
        case rel =>
          have a := HST.out.new [.int .i64 idn, .int .i64 (vx + 1)] 62 td
          exact ⟨_, _, rfl, HST.out.touch.size, a.1.drew, (HRES.out.new _ td).drew, a.2.drew⟩
      case rest =>
        clear hvi hb0 hb1 hbl HST HRES hgg
        obtain ⟨oe, db, rfl, hdb, hst, hres, hdot⟩ := hcut
        obtain ⟨_, _, e, -, -, hg, hc, -⟩ := hst.row.row.pos (by simp; omega)
        obtain ⟨e', -, -⟩ := Value.slice.inj e
        cases e'
        clear e
        have h0 := hc (k * 5 + 0) (by simp; omega)
        have h1 := hc (k * 5 + 1) (by simp; omega)
        have h2 := hc (k * 5 + 2) (by simp; omega)
        have h3 := hc (k * 5 + 3) (by simp; omega)
        have h4 := hc (k * 5 + 4) (by simp; omega)
        rw [flat_get _ 5 XTx.cells_len _ _ _ (by simpa using hk) (by omega)] at h0 h1 h2 h3 h4
        simp only [XTx.cells, List.getElem?_cons_zero, List.getElem?_cons_succ, List.getElem_set_self, Nat.add_zero] at h0 h1 h2 h3 h4
        rw [HX.out.1] at h4
        rw [HX.out.2] at h3
        have hb2 : wc.cell? ⟨b, 2, none⟩ = some (.slice (some ⟨g, 0, none⟩) xs.length cap) := hst.rep.blk.cell 2
        have hd0 : wc.cell? ⟨db, 0, none⟩ = some (.int .i64 idn) := hdot.blk.cell 0
        have hd1 : wc.cell? ⟨db, 1, none⟩ = some (.int .i64 (vx + 1)) := hdot.blk.cell 1
        have hbl := hst.rep.blk.lt
        have hdl := hdot.blk.lt
        have HST := hide hst
        have HRES := hide hres
        have HDOT := hide hdot
        clear hst hres hdot hc
        go_upto_region 9 with (fail)
        go_cut [10] (fun p wd => ∃ od tb', p = .pointer (some ⟨tb', 0, none⟩) ∧ w.heap.size ≤ tb' ∧ CoSt A w o wd od tg ta tb tv tx gb b n idn rsv av (.slice (some ⟨gg, 0, none⟩) vis.length vcap) (.slice (some ⟨g, 0, none⟩) xs.length cap) kv gv (vis.set idn (vx + 1)) axs (xs.set k { xs[k] with isOpen := false }) ∧ Bl wd od tr w.heap.size [.int .i64 0, .int .i64 0] 62 ∧ Bl wd od td db [.int .i64 idn, .int .i64 (vx + 1)] 62 ∧ Bl wd od tt tb' [.bool false, .int .i64 xs[k].rep, .int .i64 xs[k].seq, .slice s1 sn scap, .slice o1 (m + 1) ocap] 217)
        case first =>
          generalize xs[k].rep = x1 at *
          generalize xs[k].seq = x2 at *
          go_wp2_with fail
          go_meet
          case rel =>
            have a := HST.out.new [.bool false, .int .i64 x1, .int .i64 x2, .slice s1 sn scap, .slice o1 (m + 1) ocap] 217 tt
            exact ⟨_, _, rfl, HST.out.touch.size, a.1, HRES.out.new _ tt, HDOT.out.new _ tt, a.2⟩
        case rest =>
          clear h0 h1 h2 h3 h4 hb2 hd0 hd1 hbl hdl HST HRES HDOT hg
          obtain ⟨of, tb', rfl, htb, hst, hres, hdot, htx⟩ := hcut
          have hd0 : wc.cell? ⟨db, 0, none⟩ = some (.int .i64 idn) := hdot.blk.cell 0
          have hd1 : wc.cell? ⟨db, 1, none⟩ = some (.int .i64 (vx + 1)) := hdot.blk.cell 1
          have hq1 : wc.cell? ⟨tb', 1, none⟩ = some (.int .i64 xs[k].rep) := htx.blk.cell 1
          have hq2 : wc.cell? ⟨tb', 2, none⟩ = some (.int .i64 xs[k].seq) := htx.blk.cell 2
          have hf1 := htx.blk.frozen 1
          have hf2 := htx.blk.frozen 2
          have htl := htx.blk.lt
          have HST := hide hst
          have HRES := hide hres
          have HDOT := hide hdot
          have HTX := hide htx
          clear hst hres hdot htx
          go_upto_region 10 with (fail)
          go_cut [] (fun wd => CoSt A w o wd of tg ta tb tv tx gb b n idn rsv av (.slice (some ⟨gg, 0, none⟩) vis.length vcap) (.slice (some ⟨g, 0, none⟩) xs.length cap) kv gv (vis.set idn (vx + 1)) axs (xs.set k { xs[k] with isOpen := false }) ∧ Bl wd of tr w.heap.size [.int .i64 0, .int .i64 0] 62 ∧ Bl wd of td db [.int .i64 idn, .int .i64 (vx + 1)] 62 ∧ Bl wd of tt tb' [.bool false, .int .i64 idn, .int .i64 (vx + 1), .slice s1 sn scap, .slice o1 (m + 1) ocap] 217)
          case first =>
            generalize xs[k].rep = x1 at *
            generalize xs[k].seq = x2 at *
            go_wp2_with fail
            go_meet
            case rel =>
              have e1 : of (⟨tb', 1, none⟩ : Addr).block = tt := HTX.out.tag
              have e2 : of (⟨tb', 2, none⟩ : Addr).block = tt := HTX.out.tag
              have F := HTG.out.2.2.2.2.1
              exact ⟨CoSt.off F e2 (CoSt.off F e1 HST.out htb _) htb _, (HRES.out.other e1 HTG.out.2.2.2.2.2.2.1 _).other e2 HTG.out.2.2.2.2.2.2.1 _, (HDOT.out.other e1 HTG.out.2.2.2.2.2.2.2 _).other e2 HTG.out.2.2.2.2.2.2.2 _, (HTX.out.set 1 _).set 2 _⟩
          case rest =>
            clear hd0 hd1 hq1 hq2 hf1 hf2 htl HST HRES HDOT HTX
            obtain ⟨hst, hres, hdot, htx⟩ := hcut
            obtain ⟨ao, acap, rfl, -, -, -⟩ := hst.all.row.shape
            have hg2 : wc.cell? ⟨gb, 2, none⟩ = some (.slice ao axs.length acap) := hst.grp.blk.cell 2
            have t0 := htx.blk.cell 0
            have t1 := htx.blk.cell 1
            have t2 := htx.blk.cell 2
            have t3 := htx.blk.cell 3
            have t4 := htx.blk.cell 4
            simp only [List.getElem?_cons_zero, List.getElem?_cons_succ] at t0 t1 t2 t3 t4
            have htl := htx.blk.lt
            have hgl := hst.grp.blk.lt
            have HST := hide hst
            have HRES := hide hres
            have HDOT := hide hdot
            clear hst hres hdot htx
            obtain ⟨i0, hi, hz0, hz1, hz2⟩ := info_parts Tryz.infoTxC
            go_upto_region 11 with (fail)
            go_cut [] (fun wd => ∃ od av', CoSt A w o wd od tg ta tb tv tx gb b n idn rsv av' (.slice (some ⟨gg, 0, none⟩) vis.length vcap) (.slice (some ⟨g, 0, none⟩) xs.length cap) kv gv (vis.set idn (vx + 1)) (axs ++ [{ xs[k] with isOpen := false, rep := idn, seq := vx + 1 }]) (xs.set k { xs[k] with isOpen := false }) ∧ Bl wd od tr w.heap.size [.int .i64 0, .int .i64 0] 62 ∧ Bl wd od td db [.int .i64 idn, .int .i64 (vx + 1)] 62)
            case first =>
              go_region_law (refine step_append_own rfl _ _ 87 rfl 217 i0 (.agg #[.bool false, .int .i64 0, .int .i64 0, .slice none 0 0, .slice none 0 0]) 5 72 Tryz.underlying87 hi hz0 hz1 hz2 rfl (by decide) (.slice ao axs.length acap) axs.length (axs.flatMap XTx.cells) (by simp [Act.eval]) (by exact World.ownsRow.alloc HST.out.all.row _) ⟨wc.heap.size, 0, none⟩ 1 1 [.bool false, .int .i64 idn, .int .i64 (vx + 1), .slice s1 sn scap, .slice o1 (m + 1) ocap] (by simp [Act.eval]) rfl (by exact newsd _ _ _) (by intro u hu; simp at hu; rcases hu with rfl | rfl | rfl | rfl | rfl <;> rfl) (by unfold maxLen; omega) (by omega) ?_; intro v2 w2 hown2 hgrow2 hat2; obtain ⟨g2, cap2, rfl, -, -, -, -, -⟩ := Row.pos hown2 (by omega); have hg2 : (wc.alloc (.cells #[.bool false, .int .i64 idn, .int .i64 (vx + 1), .slice s1 sn scap, .slice o1 (m + 1) ocap] 217)).grownBy w2 (Value.slice ao axs.length acap).ownBlock := ⟨hgrow2.os, hgrow2.tape, hgrow2.output, hgrow2.size, hgrow2.block⟩; have hB1 := (HST.out.grp.alloc _).grew hg2 HST.out.all.tag HTG.out.1.ga; have q4 := hB1.blk.cell 2; have p4 := hB1.blk.frozen 2; have hl1 := hB1.blk.lt; clear hB1 hgrow2)
              all_goals go_wp2_with fail
              all_goals go_meet
              all_goals
                have hown3 : w2.ownsRow 0 217 5 (.slice (some ⟨g2, 0, none⟩) (axs.length + 1) cap2) (axs.length + 1) (axs.flatMap XTx.cells ++ ({ xs[k] with isOpen := false, rep := idn, seq := vx + 1 } : XTx).cells) := by
                  simp only [XTx.cells, HX.out.1, HX.out.2]; exact hown2
                exact ⟨_, _, CoSt.app HTG.out.1 HST.out ⟨HTG.out.2.1.2.1, HTG.out.2.1.1⟩ hown3 hg2 hat2, Bl.app HRES.out HST.out hg2 HTG.out.2.2.1.a HTG.out.2.2.1.g, Bl.app HDOT.out HST.out hg2 HTG.out.2.2.2.1.a HTG.out.2.2.2.1.g⟩
            case rest =>
              clear t0 t1 t2 t3 t4 hg2 htl hgl HST HRES HDOT hi hz0 hz1 hz2
              obtain ⟨og, av', hst, hres, hdot⟩ := hcut
              have hd0 : wc.cell? ⟨db, 0, none⟩ = some (.int .i64 idn) := hdot.blk.cell 0
              have hd1 : wc.cell? ⟨db, 1, none⟩ = some (.int .i64 (vx + 1)) := hdot.blk.cell 1
              have hr0 : wc.cell? ⟨w.heap.size, 0, none⟩ = some (.int .i64 0) := hres.blk.cell 0
              have hr1 : wc.cell? ⟨w.heap.size, 1, none⟩ = some (.int .i64 0) := hres.blk.cell 1
              have hrf : ∀ j, wc.frozen? ⟨w.heap.size, j, none⟩ = false := hres.blk.frozen
              have hrl := hres.blk.lt
              have hdl := hdot.blk.lt
              have HST := hide hst
              have HRES := hide hres
              clear hst hres hdot
              go_wp2_with fail
              refine bodyPost_ret (v := .tuple #[.agg #[.int .i64 idn, .int .i64 (vx + 1)], .int .i64 0]) (by simp [results, Tryz.results91, go_sem, hr0, hr1]) rfl ⟨by rw [HVX.out], og, av', ?_⟩
              rw [HVX.out]
              have F := HTG.out.2.2.1
              exact CoSt.off F (p := ⟨w.heap.size, 1, none⟩) HRES.out.tag (CoSt.off F (p := ⟨w.heap.size, 0, none⟩) HRES.out.tag HST.out (Nat.le_refl _) _) (Nat.le_refl _) _

end Go.Proofs.YtiplgdkpnhamaaaGreatDoor

/- The law's counts: a list of numbers is written over by its owner, and kept: what it leaves alone. -/
namespace Go.Proofs.YtiplgdkpnhamaaaGreatDoor
open Go.RowKit

theorem Tryz.infoIntsl : (Tryz.prog.info? 44).map (fun i => (i.zero, i.size, i.bytes)) = some (some (.slice none 0 0), 1, 24) := by kernel_rfl

/-- The law's group in memory, as far as takes and counts look at it. -/
structure CountSt (w0 : World) (o0 : Nat → Tag) (A : Tag → Prop) (wr : World) (o : Nat → Tag) (wb : Nat) (tb tt tm tl : Tag) (rs g way tv mv nv kv : Value) (cnt : Int) (m : Nat) (l : Value) (n : Nat) : Prop where
  blk : Bl wr o tb wb [rs, g, way, tv, mv, nv, kv, .int .i64 cnt] 94
  texts : ∃ ts, ts.length ≤ m ∧ Pc wr o tt 44 1 nv ts.length ts
  marks : ∃ ms, ms.length ≤ m ∧ Pc wr o tm 3 1 kv ms.length ms
  list : ∃ xs, Pc wr o tl 3 1 l n xs
  touch : TouchT A w0 o0 wr o

theorem CountSt.stored {w0 wr : World} {o0 o : Nat → Tag} {A : Tag → Prop} {wb : Nat} {tb tt tm tl : Tag} {rs g way tv mv nv kv : Value} {cnt : Int} {m n gl cap j : Nat}
    (h : CountSt w0 o0 A wr o wb tb tt tm tl rs g way tv mv nv kv cnt m (.slice (some ⟨gl, 0, none⟩) n cap) n) (d : tb ≠ tl ∧ tt ≠ tl ∧ tm ≠ tl) (ha : A tl) (x : Value) :
    CountSt w0 o0 A (wr.setCell ⟨gl, j, none⟩ x) o wb tb tt tm tl rs g way tv mv nv kv cnt m (.slice (some ⟨gl, 0, none⟩) n cap) n := by
  obtain ⟨hb, ⟨ts, htn, ht⟩, ⟨ms, hmn, hm⟩, ⟨xs, hx⟩, hto⟩ := h
  have e : o (⟨gl, j, none⟩ : Addr).block = tl := hx.tag gl rfl
  exact ⟨hb.other e d.1 x, ⟨ts, htn, ht.set e d.2.1 x⟩, ⟨ms, hmn, hm.set e d.2.2 x⟩, ⟨_, ⟨(World.ownsRow.stored hx.row j x).1, hx.tag⟩⟩, hto.set (by rw [e]; exact ha) x⟩

/-- One more in the list of lists. -/
theorem CountSt.kept {w0 wr w1 : World} {o0 o : Nat → Tag} {A : Tag → Prop} {wb : Nat} {tb tt tm tl : Tag} {rs g way tv mv nv kv v1 : Value} {cnt : Int} {m n : Nat} {l : Value} {ob : Obj} {ts news : List Value}
    (hB : Bl wr o tb wb [rs, g, way, tv, mv, nv, kv, .int .i64 cnt] 94) (hT : Pc wr o tt 44 1 nv ts.length ts) (hM : ∃ ms, ms.length ≤ m ∧ Pc wr o tm 3 1 kv ms.length ms)
    (hL : ∃ xs, Pc wr o tl 3 1 l n xs) (hto : TouchT A w0 o0 wr o) (htn : ts.length ≤ m) (hn1 : news.length = 1)
    (d : tb ≠ tt ∧ tm ≠ tt ∧ tl ≠ tt ∧ tt ≠ tb ∧ tm ≠ tb ∧ tl ≠ tb) (ha : A tt ∧ A tb)
    (hown : w1.ownsRow 0 44 1 v1 (ts.length + 1) (ts ++ news)) (hg : (wr.alloc ob).grownBy w1 nv.ownBlock) (hat : v1.ownBlock = nv.ownBlock ∨ v1.ownBlock = some (wr.alloc ob).heap.size) :
    CountSt w0 o0 A (w1.setCell ⟨wb, 5, none⟩ v1) (upd o (wr.alloc ob).heap.size tt) wb tb tt tm tl rs g way tv mv v1 kv cnt (m + 1) l n := by
  obtain ⟨ms, hmn, hM⟩ := hM
  obtain ⟨xs, hL⟩ := hL
  have hB1 := (hB.alloc ob).grew hg hT.tag d.1
  have hT1 := (hT.alloc ob).app hown hat
  have hM1 := (hM.alloc ob).grew hg hT.tag d.2.1
  have hL1 := (hL.alloc ob).grew hg hT.tag d.2.2.1
  have e : upd o (wr.alloc ob).heap.size tt (⟨wb, 5, none⟩ : Addr).block = tb := hB1.tag
  refine ⟨hB1.set 5 v1, ⟨ts ++ news, by simp [hn1]; omega, ?_⟩, ⟨ms, by omega, hM1.set e d.2.2.2.2.1 v1⟩, ⟨xs, hL1.set e d.2.2.2.2.2 v1⟩, ((hto.alloc ob).grew hg hT.tag ha.1).set (by rw [e]; exact ha.2) v1⟩
  rw [List.length_append, hn1]
  exact hT1.set e d.2.2.2.1 v1
/-- One more in the list of marks. -/
theorem CountSt.marked {w0 wr w1 : World} {o0 o : Nat → Tag} {A : Tag → Prop} {wb : Nat} {tb tt tm tl : Tag} {rs g way tv mv nv kv v1 : Value} {cnt : Int} {m n : Nat} {l : Value} {ob : Obj} {ms news : List Value}
    (hB : Bl wr o tb wb [rs, g, way, tv, mv, nv, kv, .int .i64 cnt] 94) (hT : ∃ ts, ts.length ≤ m ∧ Pc wr o tt 44 1 nv ts.length ts) (hM : Pc wr o tm 3 1 kv ms.length ms)
    (hL : ∃ xs, Pc wr o tl 3 1 l n xs) (hto : TouchT A w0 o0 wr o) (hmn : ms.length ≤ m) (hn1 : news.length = 1)
    (d : tb ≠ tm ∧ tt ≠ tm ∧ tl ≠ tm ∧ tm ≠ tb ∧ tt ≠ tb ∧ tl ≠ tb) (ha : A tm ∧ A tb)
    (hown : w1.ownsRow 0 3 1 v1 (ms.length + 1) (ms ++ news)) (hg : (wr.alloc ob).grownBy w1 kv.ownBlock) (hat : v1.ownBlock = kv.ownBlock ∨ v1.ownBlock = some (wr.alloc ob).heap.size) :
    CountSt w0 o0 A (w1.setCell ⟨wb, 6, none⟩ v1) (upd o (wr.alloc ob).heap.size tm) wb tb tt tm tl rs g way tv mv nv v1 cnt (m + 1) l n := by
  obtain ⟨ts, htn, hT⟩ := hT
  obtain ⟨xs, hL⟩ := hL
  have hB1 := (hB.alloc ob).grew hg hM.tag d.1
  have hM1 := (hM.alloc ob).app hown hat
  have hT1 := (hT.alloc ob).grew hg hM.tag d.2.1
  have hL1 := (hL.alloc ob).grew hg hM.tag d.2.2.1
  have e : upd o (wr.alloc ob).heap.size tm (⟨wb, 6, none⟩ : Addr).block = tb := hB1.tag
  refine ⟨hB1.set 6 v1, ⟨ts, by omega, hT1.set e d.2.2.2.2.1 v1⟩, ⟨ms ++ news, by simp [hn1]; omega, ?_⟩, ⟨xs, hL1.set e d.2.2.2.2.2 v1⟩, ((hto.alloc ob).grew hg hM.tag ha.1).set (by rw [e]; exact ha.2) v1⟩
  rw [List.length_append, hn1]
  exact hM1.set e d.2.2.2.1 v1
/-- The list grows. -/
theorem CountSt.longer {w0 wr w1 : World} {o0 o : Nat → Tag} {A : Tag → Prop} {wb : Nat} {tb tt tm tl : Tag} {rs g way tv mv nv kv v1 : Value} {cnt : Int} {m n : Nat} {l : Value} {ob : Obj} {xs ys : List Value}
    (hB : Bl wr o tb wb [rs, g, way, tv, mv, nv, kv, .int .i64 cnt] 94) (hT : ∃ ts, ts.length ≤ m ∧ Pc wr o tt 44 1 nv ts.length ts) (hM : ∃ ms, ms.length ≤ m ∧ Pc wr o tm 3 1 kv ms.length ms)
    (hL : Pc wr o tl 3 1 l n xs) (hto : TouchT A w0 o0 wr o)
    (d : tb ≠ tl ∧ tt ≠ tl ∧ tm ≠ tl) (ha : A tl)
    (hown : w1.ownsRow 0 3 1 v1 (n + 1) ys) (hg : (wr.alloc ob).grownBy w1 l.ownBlock) (hat : v1.ownBlock = l.ownBlock ∨ v1.ownBlock = some (wr.alloc ob).heap.size) :
    CountSt w0 o0 A w1 (upd o (wr.alloc ob).heap.size tl) wb tb tt tm tl rs g way tv mv nv kv cnt m v1 (n + 1) := by
  obtain ⟨ts, htn, hT⟩ := hT
  obtain ⟨ms, hmn, hM⟩ := hM
  exact ⟨(hB.alloc ob).grew hg hL.tag d.1, ⟨ts, htn, (hT.alloc ob).grew hg hL.tag d.2.1⟩, ⟨ms, hmn, (hM.alloc ob).grew hg hL.tag d.2.2⟩, ⟨ys, (hL.alloc ob).app hown hat⟩, (hto.alloc ob).grew hg hL.tag ha⟩
theorem CountSt.bound {w0 wr : World} {o0 o : Nat → Tag} {A : Tag → Prop} {wb : Nat} {tb tt tm tl : Tag} {rs g way tv mv nv kv : Value} {cnt : Int} {m m' n : Nat} {l : Value}
    (h : CountSt w0 o0 A wr o wb tb tt tm tl rs g way tv mv nv kv cnt m l n) (hm : m ≤ m') : CountSt w0 o0 A wr o wb tb tt tm tl rs g way tv mv nv kv cnt m' l n := by
  obtain ⟨hb, ⟨ts, htn, ht⟩, ⟨ms, hmn, hm'⟩, hx, hto⟩ := h
  exact ⟨hb, ⟨ts, by omega, ht⟩, ⟨ms, by omega, hm'⟩, hx, hto⟩
set_option maxRecDepth 100000 in
set_option maxHeartbeats 4000000 in
theorem counts_any (w : World) (o : Nat → Tag) (wb : Nat) (tb tt tm tl : Tag) (rs g way tv mv nv kv : Value) (cnt : Int) (m : Nat) (l : Value) (n : Nat)
    (d : tb ≠ tt ∧ tb ≠ tm ∧ tb ≠ tl ∧ tt ≠ tm ∧ tt ≠ tl ∧ tm ≠ tl) (hcnt : 0 ≤ cnt ∧ cnt ≤ 3000000000) (hm : m ≤ 1000000000) (hn : n ≤ 1000000000)
    (hst : CountSt w o (fun t => t = tb ∨ t = tt ∨ t = tm ∨ t = tl) w o wb tb tt tm tl rs g way tv mv nv kv cnt m l n) :
    Calls Tryz.prog 96 #[.pointer (some ⟨wb, 0, none⟩), l] w fun e w' => e = .returned (.tuple #[]) ∧ ∃ o' nv' kv' l', CountSt w o (fun t => t = tb ∨ t = tt ∨ t = tm ∨ t = tl) w' o' wb tb tt tm tl rs g way tv mv nv' kv' (cnt + 1) (m + 130) l' (n + 65) := by
  obtain ⟨d1, d2, d3, d4, d5, d6⟩ := d
  obtain ⟨i1, hi1, hy0, hy1, hy2⟩ := info_parts Tryz.infoIntsl
  obtain ⟨i2, hi2, hx0, hx1, hx2⟩ := info_parts Tryz.infoInt
  have HD : Hid ((tb ≠ tl ∧ tt ≠ tl ∧ tm ≠ tl) ∧ (tb ≠ tt ∧ tm ≠ tt ∧ tl ≠ tt ∧ tt ≠ tb ∧ tm ≠ tb ∧ tl ≠ tb) ∧ (tb ≠ tm ∧ tt ≠ tm ∧ tl ≠ tm ∧ tm ≠ tb ∧ tt ≠ tb ∧ tl ≠ tb)) :=
    ⟨⟨d3, d5, d6⟩, ⟨d1, d4.symm, d5.symm, d1.symm, d2.symm, d3.symm⟩, ⟨d2, d4, d6.symm, d2.symm, d1.symm, d3.symm⟩⟩
  clear d1 d2 d3 d4 d5 d6
  have c7 : w.cell? ⟨wb, 7, none⟩ = some (.int .i64 cnt) := hst.blk.blk.cell 7
  have f7 : w.frozen? ⟨wb, 7, none⟩ = false := hst.blk.blk.frozen 7
  have hwl := hst.blk.blk.lt
  have HS2 : Hid (CountSt w o (fun t => t = tb ∨ t = tt ∨ t = tm ∨ t = tl) (w.setCell ⟨wb, 7, none⟩ (.int .i64 (cnt + 1))) o wb tb tt tm tl rs g way tv mv nv kv (cnt + 1) m l n) := by
    obtain ⟨hb, ⟨ts, htn, ht⟩, ⟨ms, hmn, hm'⟩, ⟨xs, hx⟩, hto⟩ := hst
    have e : o (⟨wb, 7, none⟩ : Addr).block = tb := hb.tag
    exact ⟨hb.set 7 _, ⟨ts, htn, ht.set e HD.out.2.1.2.2.2.1 _⟩, ⟨ms, hmn, hm'.set e HD.out.2.1.2.2.2.2.1 _⟩, ⟨xs, hx.set e HD.out.2.1.2.2.2.2.2 _⟩, hto.set (Or.inl hb.tag) _⟩
  obtain ⟨lo, lcap, rfl, -, -, -⟩ := (hst.list.choose_spec).row.shape
  clear hst
  go_enter Tryz.func96, Tryz.ntmps96
  go_wp2_with fail
  go_loopw [4] (fun i wr => ∃ k : Nat, k ≤ n ∧ i = .int .i64 k ∧ CountSt w o (fun t => t = tb ∨ t = tt ∨ t = tm ∨ t = tl) wr o wb tb tt tm tl rs g way tv mv nv kv (cnt + 1) m (.slice lo n lcap) n) (fun i _ => n - (intOf i).toNat)
  case atStart => exact ⟨0, Nat.zero_le _, rfl, HS2.out⟩
  case round =>
    clear c7 f7 HS2
    obtain ⟨k, hk, rfl, hst⟩ := hrel
    by_cases hlk : k < n
    · obtain ⟨xs, hX⟩ := hst.list
      obtain ⟨gl, cap, e, -, -, hgl, hc, hf⟩ := hX.row.pos (by omega)
      obtain ⟨e', -, e''⟩ := Value.slice.inj e
      subst e' e''
      clear e
      have hck : ∃ y, wr.cell? ⟨gl, k, none⟩ = some y := by
        have hx1 : xs.length = n * 1 := hX.row.1
        exact ⟨xs[k]'(by omega), by rw [hc k (by omega)]; simp [show k < xs.length by omega]⟩
      obtain ⟨y, hck⟩ := hck
      have hfk := hf k
      have c7 : wr.cell? ⟨wb, 7, none⟩ = some (.int .i64 (cnt + 1)) := hst.blk.blk.cell 7
      have HST := hide (hst.stored (j := k) HD.out.1 (Or.inr (Or.inr (Or.inr rfl))) (.int .i64 (-(cnt + 1))))
      clear hc hf hX hst
      go_wp2_with fail
      exact ⟨⟨k + 1, by omega, by go_num, HST.out⟩, by simp [intOf]; omega⟩
    · have HST := hide hst
      clear hst
      go_wp2_with fail
      go_loopw [1, 5] (fun l i wr => ∃ (k : Nat) (o' : Nat → Tag) (nv' kv' : Value), k ≤ 65 ∧ i = .int .i64 k ∧ CountSt w o (fun t => t = tb ∨ t = tt ∨ t = tm ∨ t = tl) wr o' wb tb tt tm tl rs g way tv mv nv' kv' (cnt + 1) (m + 2 * k) l (n + k)) (fun _ i _ => 65 - (intOf i).toNat)
      case atStart => exact ⟨0, o, nv, kv, by omega, rfl, HST.out⟩
      case round =>
        obtain ⟨k, o', nv', kv', hk, rfl, hst⟩ := hrel
        by_cases hlk : k < 65
        · obtain ⟨hB, ⟨ts, htn, hT⟩, hM, ⟨xs, hX⟩, hTo⟩ := hst
          obtain ⟨to', tcap, rfl, -, -, -⟩ := hT.row.shape
          obtain ⟨lo', lcap', rfl, -, -, -⟩ := hX.row.shape
          have c5 : wr.cell? ⟨wb, 5, none⟩ = some (.slice to' ts.length tcap) := hB.blk.cell 5
          have hwl' := hB.blk.lt
          have HB := hide hB
          have HT := hide hT
          have HM := hide hM
          have HX := hide hX
          have HTo := hide hTo
          by_cases hkeep : k < 3 ∨ k = 64
          · clear hB hT hM hX hTo
            rcases hkeep with h3 | rfl
            all_goals go_wp2_with (at_builtin; refine wpList_append_own_at _ rfl _ _ 92 rfl 0 44 i1 (.slice none 0 0) 1 24 Tryz.underlying92 hi1 hy0 hy1 hy2 rfl (by decide) _ _ _ rfl (World.ownsRow.alloc HT.out.row _) ⟨wr.heap.size, 0, none⟩ 1 1 [.slice lo' _ lcap'] rfl rfl (cell_one_new _ _ _) (by intro u hu; simp at hu; subst hu; rfl) (by unfold maxLen; omega) (by omega) (Nat.zero_le _) ?_; intro v1 w1 hown1 hgrow1 hnil1 hat1; obtain ⟨g1, cap1, rfl, -, -, -, -, -⟩ := Row.pos hown1 (by omega); have hB1 := (HB.out.alloc _).grew hgrow1 HT.out.tag HD.out.2.1.1; have q3 := hB1.blk.cell 5; have p3 := hB1.blk.frozen 5; have hl1 := hB1.blk.lt; clear hB1)
            all_goals have HK := hide (CountSt.kept HB.out HT.out HM.out ⟨xs, HX.out⟩ HTo.out htn rfl HD.out.2.1 ⟨Or.inr (Or.inl rfl), Or.inl rfl⟩ hown1 hgrow1 hat1)
            all_goals clear hown1 hgrow1 hat1 hnil1 q3 p3 hl1 c5 hwl' HB HT HM HX HTo htn
            all_goals generalize World.setCell _ _ _ = W2 at *
            all_goals generalize upd o' _ tt = o2 at *
            all_goals obtain ⟨hB, hT, ⟨ms, hmn, hM⟩, hX, hTo⟩ := HK.out
            all_goals clear HK
            all_goals obtain ⟨mo, mcap, rfl, -, -, -⟩ := hM.row.shape
            all_goals have c6 : W2.cell? ⟨wb, 6, none⟩ = some (.slice mo ms.length mcap) := hB.blk.cell 6
            all_goals have c7 : W2.cell? ⟨wb, 7, none⟩ = some (.int .i64 (cnt + 1)) := hB.blk.cell 7
            all_goals have f6 : W2.frozen? ⟨wb, 6, none⟩ = false := hB.blk.frozen 6
            all_goals have hl2 := hB.blk.lt
            all_goals have HB := hide hB
            all_goals have HT := hide hT
            all_goals have HM := hide hM
            all_goals have HX := hide hX
            all_goals have HTo := hide hTo
            all_goals clear hB hT hM hX hTo
            all_goals go_region_law (refine step_append_own rfl _ _ 44 rfl 3 i2 (.int .i64 0) 1 8 Tryz.underlying44 hi2 hx0 hx1 hx2 rfl (by decide) (.slice mo ms.length mcap) ms.length ms (by simp [Act.eval]) (by exact World.ownsRow.alloc HM.out.row _) ⟨W2.heap.size, 0, none⟩ 1 1 [.int .i64 (IntKind.i64.wrap (-(cnt + 1)))] (by simp [Act.eval]) rfl (by exact news1 _ _ _) (by intro u hu; simp at hu; subst hu; rfl) (by unfold maxLen; omega) (by omega) ?_; intro v2 w2 hown2 hgrow2 hat2; obtain ⟨g2, cap2, rfl, -, -, -, -, -⟩ := Row.pos hown2 (by omega); have hg2 : (W2.alloc (.cells #[.int .i64 (IntKind.i64.wrap (-(cnt + 1)))] 3)).grownBy w2 (Value.slice mo ms.length mcap).ownBlock := ⟨hgrow2.os, hgrow2.tape, hgrow2.output, hgrow2.size, hgrow2.block⟩; have hB1 := (HB.out.alloc _).grew hg2 HM.out.tag HD.out.2.2.1; have q4 := hB1.blk.cell 6; have p4 := hB1.blk.frozen 6; have hl1 := hB1.blk.lt; clear hB1 hgrow2)
            all_goals have HK := hide (CountSt.marked HB.out HT.out HM.out HX.out HTo.out hmn rfl HD.out.2.2 ⟨Or.inr (Or.inr (Or.inl rfl)), Or.inl rfl⟩ hown2 hg2 hat2)
            all_goals clear hown2 hg2 hat2 q4 p4 hl1 c6 c7 f6 hl2 HB HT HM HX HTo hmn
            all_goals generalize World.setCell _ _ _ = W3 at *
            all_goals generalize upd o2 _ tm = o3 at *
            all_goals obtain ⟨hB, hT, hM, ⟨ys, hX⟩, hTo⟩ := HK.out
            all_goals clear HK
            all_goals have c7 : W3.cell? ⟨wb, 7, none⟩ = some (.int .i64 (cnt + 1)) := hB.blk.cell 7
            all_goals have HB := hide hB
            all_goals have HT := hide hT
            all_goals have HM := hide hM
            all_goals have HX := hide hX
            all_goals have HTo := hide hTo
            all_goals clear hB hT hM hX hTo
            all_goals go_wp2_with (at_builtin; refine wpList_append_own_at _ rfl _ _ 44 rfl 0 3 i2 (.int .i64 0) 1 8 Tryz.underlying44 hi2 hx0 hx1 hx2 rfl (by decide) _ _ _ rfl (World.ownsRow.alloc HX.out.row _) ⟨W3.heap.size, 0, none⟩ 1 1 [.int .i64 (-(cnt + 1))] rfl rfl (cell_one_new _ _ _) (by intro u hu; simp at hu; subst hu; rfl) (by unfold maxLen; omega) (by omega) (Nat.zero_le _) ?_; intro v3 w3 hown3 hgrow3 hnil3 hat3)
            all_goals first | exact ⟨⟨k + 1, _, _, _, by omega, by go_num, (CountSt.longer HB.out HT.out HM.out HX.out HTo.out HD.out.1 (Or.inr (Or.inr (Or.inr rfl))) hown3 hgrow3 hat3).bound (by omega)⟩, by simp [intOf]; omega⟩ | exact ⟨⟨65, _, _, _, by omega, by go_num, (CountSt.longer HB.out HT.out HM.out HX.out HTo.out HD.out.1 (Or.inr (Or.inr (Or.inr rfl))) hown3 hgrow3 hat3).bound (by omega)⟩, by simp [intOf]⟩
          · have c7 : wr.cell? ⟨wb, 7, none⟩ = some (.int .i64 (cnt + 1)) := hB.blk.cell 7
            clear hB hT hM hX hTo
            have h3 : ¬ k < 3 := fun h => hkeep (Or.inl h)
            have h64 : ¬ k = 64 := fun h => hkeep (Or.inr h)
            have h64' : ((k : Int) == 64) = false := by simp; omega
            clear hkeep
            go_wp2_with (at_builtin; refine wpList_append_own_at _ rfl _ _ 44 rfl 0 3 i2 (.int .i64 0) 1 8 Tryz.underlying44 hi2 hx0 hx1 hx2 rfl (by decide) _ _ _ rfl (World.ownsRow.alloc HX.out.row _) ⟨wr.heap.size, 0, none⟩ 1 1 [.int .i64 (-(cnt + 1))] rfl rfl (cell_one_new _ _ _) (by intro u hu; simp at hu; subst hu; rfl) (by unfold maxLen; omega) (by omega) (Nat.zero_le _) ?_; intro v1 w1 hown1 hgrow1 hnil1 hat1)
            exact ⟨⟨k + 1, _, _, _, by omega, by go_num, (CountSt.longer HB.out ⟨ts, htn, HT.out⟩ HM.out HX.out HTo.out HD.out.1 (Or.inr (Or.inr (Or.inr rfl))) hown1 hgrow1 hat1).bound (by omega)⟩, by simp [intOf]; omega⟩
        · have hk65 : k = 65 := by omega
          subst hk65
          have HST := hide hst
          clear hst
          go_wp2_with fail
          go_end0
          exact ⟨rfl, o', nv', kv', _, HST.out⟩

end Go.Proofs.YtiplgdkpnhamaaaGreatDoor

/- 'm[k] = f(m[k])': the entry is fetched, and filled later. -/
namespace Go.Proofs.YtiplgdkpnhamaaaGreatDoor
open Go.RowKit
open Go.Maps (Keyed)
open Go.ChangeMaps Go.MapKept
open Go.WideElems (Fit)

theorem modify_same {α : Type} (xs : Array α) (j : Nat) (f : α → α) (x : α) (hx : xs[j]? = some x) (hf : f x = x) : xs.modify j f = xs := by
  apply Array.ext_getElem?
  intro i
  rw [Array.getElem?_modify]
  by_cases c : j = i
  · subst c; rw [if_pos rfl, hx]; simp [hf]
  · rw [if_neg c]
theorem find_born {es : Array MapEntry} {j : Nat} {e0 : MapEntry} (hj : es[j]? = some e0) (hn : (es.toList.map (·.born)).Nodup) : es.findIdx? (fun e => (e.born : Int) == (e0.born : Int)) = some j := by
  obtain ⟨hl, he⟩ := Array.getElem?_eq_some_iff.1 hj
  rw [Array.findIdx?_eq_some_iff_getElem]
  refine ⟨hl, by simp [he], fun i hi => ?_⟩
  simp only [Bool.not_eq_true, beq_eq_false_iff_ne, ne_eq]
  intro c
  have hil : i < es.size := by omega
  have hp := List.pairwise_iff_getElem.1 hn i j (by simpa using hil) (by simpa using hl) hi
  simp only [List.getElem_map, Array.getElem_toList, he] at hp
  omega
theorem find_last {es : Array MapEntry} {clock : Nat} {x : MapEntry} (hb : ∀ y ∈ es.toList, y.born < clock) (hx : x.born = clock) : (es.push x).findIdx? (fun e => (e.born : Int) == (clock : Int)) = some es.size := by
  rw [Array.findIdx?_eq_some_iff_getElem]
  refine ⟨by simp, by simp [hx], fun i hi => ?_⟩
  simp only [Bool.not_eq_true, beq_eq_false_iff_ne, ne_eq, Array.getElem_push_lt hi]
  have := hb es[i] (by simp)
  omega
theorem modify_last (es : Array MapEntry) (x : MapEntry) (f : MapEntry → MapEntry) : (es.push x).modify es.size f = es.push (f x) := by
  apply Array.ext_getElem?
  intro i
  rw [Array.getElem?_modify, Array.getElem?_push, Array.getElem?_push]
  by_cases c : es.size = i
  · subst c; simp
  · rw [if_neg c]; rw [if_neg (fun e => c e.symm), if_neg (fun e => c e.symm)]

section
variable {α β : Type} {w : World} {k t e : TypeId} {b n : Nat} {kv : α → Value} {ev : β → Value} {m : α → Option β}
theorem setBlock_grown {w : World} {b : Nat} {es : Array MapEntry} {clock : Nat} {o : Obj} (hb : w.heap[b]? = some (.map es clock)) : w.grownBy (setBlock w b o) (some b) :=
  ⟨rfl, rfl, rfl, by simp [setBlock], fun i _ hi => heap_setBlock_other hb _ (fun e => hi (by rw [e]))⟩
/-- The entry is fetched: what lies there, and a stamp by which it is filled, whatever else has been written since. -/
theorem MapIn.entry [DecidableEq α] (h : MapIn w k b n kv ev m) (K : Keyed Tryz.prog k) (ht : Tryz.prog.underlying t = some (.map k e)) (hinj : ∀ a a', kv a = kv a' → a = a') {z : Value} (hz : (zeroValue e).run Tryz.prog w = .ok z w) (hn : n < maxLen) {a : α} {kl : Lit} (hkey : keyOf Tryz.prog k (kv a) = some kl) :
    ∃ (w1 : World) (st : Nat), (Instr.mapEntry t (.map (some b)) (kv a)).run Tryz.prog w = .ok (.tuple #[(m a).elim z ev, .int .i64 st]) w1 ∧ w.grownBy w1 (some b) ∧
      ∀ (W : World), W.heap[b]? = w1.heap[b]? → ∀ x : β, ∃ W2, (Instr.entryStore t (.map (some b)) (.int .i64 st) (ev x)).run Tryz.prog W = .ok () W2 ∧ MapIn W2 k b (n + 1) kv ev (fun a' => if a' = a then some x else m a') ∧ W.grownBy W2 (some b) := by
  have hlook := h.lookup K ht hz hkey
  have hst := fun x => h.store K ht hinj hn hkey x
  obtain ⟨D, ⟨es, clock, hb, F, hs, hD⟩, -⟩ := h.ex
  rcases K.find w hkey es.toList F.keys with ⟨h1, h2⟩ | ⟨j, e0, h1, h2, h3⟩
  · have hv : (m a).elim z ev = z := by
      have : (Instr.lookup t (.map (some b)) (kv a) false).run Tryz.prog w = .ok z w := by
        simp [Instr.lookup, run_underlying ht, MapKept.run_getObj_map hb, K.check w _ hkey, h1, hz, Result.andThen]
      rw [hlook] at this
      exact (Result.ok.inj this).1
    refine ⟨setBlock w b (.map (es.push ⟨kv a, z, clock⟩) (clock + 1)), clock, ?_, setBlock_grown hb, fun W hW x => ?_⟩
    · rw [hv]
      simp [Instr.mapEntry, run_underlying ht, MapKept.run_getObj_map hb, K.check w false hkey, h1, hz, MapKept.run_setObj_map _ hb, Result.andThen, setBlock, goInt]
    · rw [heap_setBlock_same hb] at hW
      obtain ⟨w2, hrun, hM, hg⟩ := hst x
      have e2 : w2 = setBlock w b (.map (es.push ⟨kv a, ev x, clock⟩) (clock + 1)) := by
        have : (Instr.mapUpdate t (.map (some b)) (kv a) (ev x)).run Tryz.prog w = .ok () (setBlock w b (.map (es.push ⟨kv a, ev x, clock⟩) (clock + 1))) := by
          simp [Instr.mapUpdate, run_underlying ht, MapKept.run_getObj_map hb, K.check w false hkey, h1, MapKept.run_setObj_map _ hb, Result.andThen, setBlock]
        rw [hrun] at this
        exact (Result.ok.inj this).2
      refine ⟨setBlock W b (.map (es.push ⟨kv a, ev x, clock⟩) (clock + 1)), ?_, hM.move ?_, setBlock_grown hW⟩
      · have hfi := find_last (es := es) (clock := clock) (x := ⟨kv a, z, clock⟩) F.stamped.1 rfl
        simp [Instr.entryStore, MapKept.run_getObj_map hW, asInt, asIntOf, Result.andThen, hfi, modify_last, MapKept.run_setObj_map _ hW, setBlock]
      · rw [e2, heap_setBlock_same hW, heap_setBlock_same hb]
  · have hj : es[j]? = some e0 := by simpa using h2
    have hv : (m a).elim z ev = e0.val := by
      have : (Instr.lookup t (.map (some b)) (kv a) false).run Tryz.prog w = .ok e0.val w := by
        simp [Instr.lookup, run_underlying ht, MapKept.run_getObj_map hb, K.check w _ hkey, h1, Result.andThen]
      rw [hlook] at this
      exact (Result.ok.inj this).1
    have hsame : es.modify j (fun e => { e with key := kv a }) = es := modify_same es j _ e0 hj (by rw [← h3])
    refine ⟨setBlock w b (.map es clock), e0.born, ?_, setBlock_grown hb, fun W hW x => ?_⟩
    · rw [hv]
      simp [Instr.mapEntry, run_underlying ht, MapKept.run_getObj_map hb, K.check w false hkey, h1, hj, h3, K.stays w hkey, hsame, MapKept.run_setObj_map _ hb, Result.andThen, setBlock, goInt]
    · rw [heap_setBlock_same hb] at hW
      obtain ⟨w2, hrun, hM, hg⟩ := hst x
      have e2 : w2 = setBlock w b (.map (es.modify j fun e => { e with key := kv a, val := ev x }) clock) := by
        have : (Instr.mapUpdate t (.map (some b)) (kv a) (ev x)).run Tryz.prog w = .ok () (setBlock w b (.map (es.modify j fun e => { e with key := kv a, val := ev x }) clock)) := by
          simp [Instr.mapUpdate, run_underlying ht, MapKept.run_getObj_map hb, K.check w false hkey, h1, hj, h3, K.stays w hkey, MapKept.run_setObj_map _ hb, Result.andThen, setBlock]
        rw [hrun] at this
        exact (Result.ok.inj this).2
      have e3 : (es.modify j fun e => { e with key := kv a, val := ev x }) = es.modify j fun e => { e with val := ev x } := by
        apply Array.ext_getElem?
        intro i
        rw [Array.getElem?_modify, Array.getElem?_modify]
        by_cases c : j = i
        · subst c; rw [if_pos rfl, if_pos rfl, hj]; simp [h3]
        · rw [if_neg c, if_neg c]
      refine ⟨setBlock W b (.map (es.modify j fun e => { e with val := ev x }) clock), ?_, hM.move ?_, setBlock_grown hW⟩
      · have hfi := find_born hj F.stamped.2.1
        simp [Instr.entryStore, MapKept.run_getObj_map hW, asInt, asIntOf, Result.andThen, hfi, MapKept.run_setObj_map _ hW, setBlock]
      · rw [e2, e3, heap_setBlock_same hW, heap_setBlock_same hb]
end

end Go.Proofs.YtiplgdkpnhamaaaGreatDoor
