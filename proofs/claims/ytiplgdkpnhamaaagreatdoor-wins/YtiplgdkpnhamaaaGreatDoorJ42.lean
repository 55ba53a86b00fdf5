/- The texts ZK18, ZP1, ZP2, ZK19, ZP3, ZN1, ZN2, ZK20, ZN3, ZK21, ZN4, ZN5, ZN6, ZN7, QK1, QW1, QW2, QK2, QK3, QK4, QK5, joined. -/
import Derived.Test.YtiplgdkpnhamaaaGreatDoorJ41
import Derived.Test.YtiplgdkpnhamaaaGreatDoorJ40
import Derived.Test.YtiplgdkpnhamaaaGreatDoorJ37
import Derived.Test.YtiplgdkpnhamaaaGreatDoorJ01
import Derived.Test.YtiplgdkpnhamaaaGreatDoorJ33
import Derived.Test.YtiplgdkpnhamaaaGreatDoorJ04
import Derived.Laws.AppendOwnNone

namespace Go.Proofs.YtiplgdkpnhamaaaGreatDoor.Tv
open Go.RowKit
abbrev filR (hs : List RTx) (r : Nat) : List RTx := hs.filter fun u => decide (u.rep = (r : Int))
theorem HistG.less {n : Nat} {hs : List RTx} {u : RTx} (h : HistG n (hs ++ [u])) : HistG n hs := ⟨h.n5, fun j hj => by
  have a := h.tx j (by simp; omega)
  rw [List.getElem_append_left hj, List.take_append_of_le_length (by omega)] at a
  exact a⟩
theorem HistG.last {n : Nat} {hs : List RTx} {u : RTx} (h : HistG n (hs ++ [u])) : NewOk n hs u := by
  have a := h.tx hs.length (by simp)
  rw [List.getElem_append_right (Nat.le_refl _), List.take_left' rfl] at a
  simpa using a
theorem fil_seq {n : Nat} : ∀ {hs : List RTx}, HistG n hs → ∀ (r j : Nat) (hj : j < (filR hs r).length), (filR hs r)[j].seq = (j : Int) + 1 ∧ (filR hs r)[j].rep = (r : Int) := by
  intro hs
  induction hs using snoc_ind with
  | h0 => intro _ r j hj; simp [filR] at hj
  | h1 hs u ih =>
    intro h r j hj
    have hf : filR (hs ++ [u]) r = filR hs r ++ if u.rep = (r : Int) then [u] else [] := by
      unfold filR
      rw [List.filter_append]
      by_cases c : u.rep = (r : Int) <;> simp [c]
    by_cases c : j < (filR hs r).length
    · have e : (filR (hs ++ [u]) r)[j] = (filR hs r)[j] := by simp only [hf, List.getElem_append_left c]
      rw [e]; exact ih h.less r j c
    · have hl := h.last
      by_cases c2 : u.rep = (r : Int)
      · have hj2 : j = (filR hs r).length := by
          rw [hf, if_pos c2, List.length_append, List.length_singleton] at hj
          omega
        have e : (filR (hs ++ [u]) r)[j] = u := by
          simp only [hf, if_pos c2]
          rw [List.getElem_append_right (by omega)]; simp
        rw [e, hl.seq, c2, Int.toNat_natCast]
        exact ⟨by rw [hj2]; rfl, rfl⟩
      · rw [hf, if_neg c2, List.append_nil] at hj; omega
def segB (hs : List RTx) (x : DX) (v : Vec) (r : Nat) : List RTx := heldOf hs r (max (x.gone r) (v.get r).toNat)
def beyondL (hs : List RTx) (x : DX) (v : Vec) : List RTx := (List.range 5).flatMap (segB hs x v)
def covK (hs : List RTx) (x : DX) (v : Vec) (r : Nat) : Nat := min (heldOf hs r (x.gone r)).length ((v.get r).toNat - x.gone r)
theorem held_len (hs : List RTx) (r g : Nat) : (heldOf hs r g).length = (filR hs r).length - g := List.length_drop
theorem held_get {hs : List RTx} {r g j : Nat} (hj : j < (heldOf hs r g).length) : (heldOf hs r g)[j] = (filR hs r)[g + j]'(by have := held_len hs r g; omega) := List.getElem_drop ..
theorem seg_drop (hs : List RTx) (x : DX) (v : Vec) (r : Nat) : (heldOf hs r (x.gone r)).drop (covK hs x v r) = segB hs x v r := by
  unfold covK
  rw [held_len]
  show ((filR hs r).drop (x.gone r)).drop _ = (filR hs r).drop _
  rw [List.drop_drop]
  generalize (filR hs r) = l
  by_cases c : (v.get r).toNat - x.gone r ≤ l.length - x.gone r
  · congr 1; omega
  · rw [List.drop_eq_nil_of_le, List.drop_eq_nil_of_le]
    · omega
    · omega
theorem cov_split {n : Nat} {hs : List RTx} (h : HistG n hs) (x : DX) (v : Vec) {r : Nat} (j : Nat) (hj : j < (heldOf hs r (x.gone r)).length) : v.covers (trOf (heldOf hs r (x.gone r))[j]).dot = decide (j < covK hs x v r) := by
  have hl := held_len hs r (x.gone r)
  have hj2 : x.gone r + j < (filR hs r).length := by omega
  obtain ⟨e1, e2⟩ := fil_seq h r _ hj2
  rw [held_get hj]
  show decide ((filR hs r)[x.gone r + j].seq ≤ v.get (((filR hs r)[x.gone r + j].rep.toNat : Nat) : Int)) = _
  rw [e1, e2, Int.toNat_natCast, Bool.eq_iff_iff, decide_eq_true_eq, decide_eq_true_eq]
  unfold covK
  constructor <;> intro c <;> omega
theorem held_few (hs : List RTx) (r g : Nat) : (heldOf hs r g).length ≤ hs.length := by
  unfold heldOf
  rw [List.length_drop]
  have := List.length_filter_le (fun u : RTx => decide (u.rep = (r : Int))) hs
  omega
theorem idxH_0 (v0 v1 v2 v3 v4 : Value) (W : World) : (Instr.index 107 (.agg #[v0, v1, v2, v3, v4]) (.int .i64 0)).run Tryz.prog W = .ok v0 W := by kernel_rfl
theorem idxH_1 (v0 v1 v2 v3 v4 : Value) (W : World) : (Instr.index 107 (.agg #[v0, v1, v2, v3, v4]) (.int .i64 1)).run Tryz.prog W = .ok v1 W := by kernel_rfl
theorem idxH_2 (v0 v1 v2 v3 v4 : Value) (W : World) : (Instr.index 107 (.agg #[v0, v1, v2, v3, v4]) (.int .i64 2)).run Tryz.prog W = .ok v2 W := by kernel_rfl
theorem idxH_3 (v0 v1 v2 v3 v4 : Value) (W : World) : (Instr.index 107 (.agg #[v0, v1, v2, v3, v4]) (.int .i64 3)).run Tryz.prog W = .ok v3 W := by kernel_rfl
theorem idxH_4 (v0 v1 v2 v3 v4 : Value) (W : World) : (Instr.index 107 (.agg #[v0, v1, v2, v3, v4]) (.int .i64 4)).run Tryz.prog W = .ok v4 W := by kernel_rfl
theorem idxH (hv : List Value) (v0 v1 v2 v3 v4 : Value) (e : hv = [v0, v1, v2, v3, v4]) (r : Nat) (hr : r < hv.length) (W : World) : (Instr.index 107 (.agg #[v0, v1, v2, v3, v4]) (.int .i64 r)).run Tryz.prog W = .ok hv[r] W := by
  subst e
  have : r = 0 ∨ r = 1 ∨ r = 2 ∨ r = 3 ∨ r = 4 := by simp at hr; omega
  rcases this with rfl | rfl | rfl | rfl | rfl
  · exact idxH_0 v0 v1 v2 v3 v4 W
  · exact idxH_1 v0 v1 v2 v3 v4 W
  · exact idxH_2 v0 v1 v2 v3 v4 W
  · exact idxH_3 v0 v1 v2 v3 v4 W
  · exact idxH_4 v0 v1 v2 v3 v4 W
end Go.Proofs.YtiplgdkpnhamaaaGreatDoor.Tv

namespace Go.Proofs.YtiplgdkpnhamaaaGreatDoor.Tv
open Go.RowKit
def RdN (m : Nat) (p : Place) (x : Wr) : Prop :=
  (kindOf p.key = 99 ∧ p.el = ⟨#[]⟩ ∧ x.kind = 0 ∧ x.value = ⟨#[]⟩ ∧ -(1000000 * (m : Int)) ≤ x.amount ∧ x.amount ≤ 1000000 * (m : Int)) ∨
  (kindOf p.key = 114 ∧ p.el = ⟨#[]⟩ ∧ x.kind = 1 ∧ x.amount = 0 ∧ x.value.size ≤ 8) ∨
  (kindOf p.key = 115 ∧ (x.kind = 2 ∨ x.kind = 3) ∧ x.amount = 0 ∧ x.value = ⟨#[]⟩ ∧ p.el.size ≤ 8)
theorem RdN.up {m k : Nat} {p : Place} {x : Wr} (h : RdN m p x) (hm : m ≤ k) : RdN k p x := by
  rcases h with ⟨a, b, c, d, e, f⟩ | h | h
  · exact Or.inl ⟨a, b, c, d, by omega, by omega⟩
  · exact Or.inr (Or.inl h)
  · exact Or.inr (Or.inr h)
theorem own_rdn : ∀ (ops : List ROp), ops.length ≤ 16 → (∀ o, o ∈ ops → OpOk o ∧ (¬ o.kind = 1 → o.value.size ≤ 8) ∧ (o.kind = 1 → -1000000 ≤ o.amount ∧ o.amount ≤ 1000000)) → ∀ p x, ownOf ops p = some x → RdN ops.length p x := by
  intro ops
  induction ops using snoc_ind with
  | h0 => intro _ _ p x hx; cases hx
  | h1 ops o ih =>
    intro hl h p x hx
    have hlen : (ops ++ [o]).length = ops.length + 1 := by simp
    have ih' := ih (by omega) fun o ho => h o (by simp [ho])
    obtain ⟨ho, hv, ha⟩ := h o (by simp)
    rw [hlen]
    rw [ownOf_snoc] at hx
    unfold putM at hx
    split at hx
    · rename_i c
      subst c
      cases hx
      have hk := ho.key
      rcases ho.kind with k | k | k | k
      · left
        have e1 : plOf o = ⟨o.key, noEl⟩ := by unfold plOf; rw [if_pos (Or.inl k)]
        have e2 : wrOf o = ⟨0, o.amount, noEl⟩ := by unfold wrOf; rw [if_pos k]
        rw [e1, e2]
        have ham := ha k
        refine ⟨by show kindOf o.key = 99; rw [hk, k]; rfl, rfl, by simp [putWr], by simp [putWr], ?_⟩
        unfold putWr
        rw [if_pos rfl]
        show -(1000000 * ((ops.length + 1 : Nat) : Int)) ≤ wrap64 (o.amount + (wrAt (ownOf ops) ⟨o.key, noEl⟩).amount) ∧ wrap64 (o.amount + (wrAt (ownOf ops) ⟨o.key, noEl⟩).amount) ≤ _
        have hb : -(1000000 * (ops.length : Int)) ≤ (wrAt (ownOf ops) ⟨o.key, noEl⟩).amount ∧ (wrAt (ownOf ops) ⟨o.key, noEl⟩).amount ≤ 1000000 * (ops.length : Int) := by
          unfold wrAt
          cases e : ownOf ops ⟨o.key, noEl⟩ with
          | none => show -(1000000 * (ops.length : Int)) ≤ 0 ∧ (0 : Int) ≤ _; omega
          | some y =>
            show -(1000000 * (ops.length : Int)) ≤ y.amount ∧ y.amount ≤ _
            rcases ih' _ _ e with ⟨_, _, _, _, a, b⟩ | ⟨_, _, _, a, _⟩ | ⟨_, _, a, _⟩ <;> omega
        have hw : wrap64 (o.amount + (wrAt (ownOf ops) ⟨o.key, noEl⟩).amount) = o.amount + (wrAt (ownOf ops) ⟨o.key, noEl⟩).amount := by unfold wrap64; omega
        rw [hw]
        omega
      · right; left
        have e1 : plOf o = ⟨o.key, noEl⟩ := by unfold plOf; rw [if_pos (Or.inr k)]
        have e2 : wrOf o = ⟨1, 0, o.value⟩ := by unfold wrOf; rw [if_neg (by omega), if_pos k]
        rw [e1, e2]
        exact ⟨by show kindOf o.key = 114; rw [hk, k]; rfl, rfl, by simp [putWr], by simp [putWr], by simpa [putWr] using hv (by omega)⟩
      · right; right
        have e1 : plOf o = ⟨o.key, o.value⟩ := by unfold plOf; rw [if_neg (by omega)]
        have e2 : wrOf o = ⟨2, 0, noEl⟩ := by unfold wrOf; rw [if_neg (by omega), if_neg (by omega), if_pos k]
        rw [e1, e2]
        exact ⟨by show kindOf o.key = 115; rw [hk, k]; rfl, by simp [putWr], by simp [putWr], by simp [putWr], hv (by omega)⟩
      · right; right
        have e1 : plOf o = ⟨o.key, o.value⟩ := by unfold plOf; rw [if_neg (by omega)]
        have e2 : wrOf o = ⟨3, 0, noEl⟩ := by unfold wrOf; rw [if_neg (by omega), if_neg (by omega), if_neg (by omega)]
        rw [e1, e2]
        exact ⟨by show kindOf o.key = 115; rw [hk, k]; rfl, by simp [putWr], by simp [putWr], by simp [putWr], hv (by omega)⟩
    · exact (ih' p x hx).up (by omega)
theorem OpsOk.rd {ops : List ROp} (h : OpsOk ops) : ∀ p x, ownOf ops p = some x → WrRd p x := fun p x hx => by
  have hl := h.few
  rcases own_rdn ops h.few h.ops p x hx with ⟨a, b, c, d, e, f⟩ | h | h
  · exact Or.inl ⟨a, b, c, d, by omega, by omega⟩
  · exact Or.inr (Or.inl h)
  · exact Or.inr (Or.inr h)
theorem sorted_places : ∀ (ks : List Place), ks.Nodup → ∃ ks' : List Place, ks'.Perm ks ∧ ks'.Pairwise placeLt
  | [], _ => ⟨[], List.Perm.refl _, by simp⟩
  | a :: ks, h => by
    rw [List.nodup_cons] at h
    obtain ⟨l, hl, hp⟩ := sorted_places ks h.2
    have hins : ∀ (l : List Place), l.Pairwise placeLt → a ∉ l → ∃ l' : List Place, l'.Perm (a :: l) ∧ l'.Pairwise placeLt := by
      intro l
      induction l with
      | nil => intro _ _; exact ⟨[a], List.Perm.refl _, by simp⟩
      | cons b l ih =>
        intro hp hn
        rw [List.pairwise_cons] at hp
        rw [List.mem_cons] at hn
        rcases placeLt_total a b with e | e | e
        · exact absurd (Or.inl e) hn
        · exact ⟨a :: b :: l, List.Perm.refl _, by
            rw [List.pairwise_cons, List.pairwise_cons]
            refine ⟨fun c hc => ?_, hp⟩
            rcases List.mem_cons.1 hc with rfl | hc
            · exact e
            · exact placeLt_trans e (hp.1 c hc)⟩
        · obtain ⟨l', h1, h2⟩ := ih hp.2 (fun c => hn (Or.inr c))
          refine ⟨b :: l', (List.Perm.cons b h1).trans (List.Perm.swap a b l), ?_⟩
          rw [List.pairwise_cons]
          refine ⟨fun c hc => ?_, h2⟩
          rcases List.mem_cons.1 (h1.mem_iff.1 hc) with rfl | hc
          · exact e
          · exact hp.1 c hc
    obtain ⟨l', h1, h2⟩ := hins l hp (fun c => h.1 (hl.mem_iff.1 c))
    exact ⟨l', h1.trans (List.Perm.cons a hl), h2⟩
theorem own_keys : ∀ (ops : List ROp), ∃ ks, KeysOf (ownOf ops) ks ∧ ks.length ≤ ops.length ∧ (1 ≤ ops.length → 1 ≤ ks.length) := by
  intro ops
  induction ops using snoc_ind with
  | h0 => exact ⟨[], ⟨by simp, fun p => by simp [ownOf]⟩, by simp, by simp⟩
  | h1 ops o ih =>
    obtain ⟨ks, ⟨h1, h2⟩, h3, -⟩ := ih
    have hs : ∀ p, (ownOf (ops ++ [o]) p).isSome ↔ p = plOf o ∨ (ownOf ops p).isSome := fun p => by
      rw [ownOf_snoc]; unfold putM
      by_cases c : p = plOf o
      · simp [c]
      · simp [c]
    by_cases c : plOf o ∈ ks
    · refine ⟨ks, ⟨h1, fun p => ?_⟩, by simp; omega, fun _ => List.length_pos_of_mem c⟩
      rw [hs, h2 p]
      constructor
      · exact Or.inr
      · rintro (rfl | h)
        · exact (h2 _).1 c
        · exact h
    · refine ⟨plOf o :: ks, ⟨List.nodup_cons.2 ⟨c, h1⟩, fun p => ?_⟩, by simp; omega, by simp⟩
      rw [hs, List.mem_cons, h2 p]
theorem own_keysOf {ops : List ROp} (h : OpsOk ops) (h1 : 1 ≤ ops.length) : KeysOf (ownOf ops) (keysOf (ownOf ops)) ∧ (keysOf (ownOf ops)).Pairwise placeLt ∧ 1 ≤ (keysOf (ownOf ops)).length ∧ (keysOf (ownOf ops)).length ≤ 16 := by
  obtain ⟨ks, hk, hl, hp⟩ := own_keys ops
  obtain ⟨ks', h2, h3⟩ := sorted_places ks hk.1
  have hk' : KeysOf (ownOf ops) ks' := ⟨h2.nodup_iff.2 hk.1, fun p => by rw [h2.mem_iff]; exact hk.2 p⟩
  rw [keysOf_eq hk' h3]
  have := h2.length_eq
  have := h.few
  exact ⟨hk', h3, by have := hp h1; omega, by omega⟩
end Go.Proofs.YtiplgdkpnhamaaaGreatDoor.Tv

namespace Go.Proofs.YtiplgdkpnhamaaaGreatDoor.Tv
open Go.RowKit
theorem tr_saw {n : Nat} {hs : List RTx} {u : RTx} (h5 : n ≤ 5) (h : NewOk n hs u) (k : Nat) : (trOf u).saw.get k = u.saw.getD k 0 := by
  show (vecOf u.saw).get k = _
  rw [vecOf_get (by rw [h.saw.len]; exact h5), Int.toNat_natCast]
theorem tr_fit {n : Nat} {hs : List RTx} (h : HistG n hs) (hN : hs.length ≤ 1100000) {u : RTx} (hu : u ∈ hs) : (trOf u).Fit := by
  obtain ⟨j, hj, rfl⟩ := List.mem_iff_getElem.1 hu
  have hk := h.tx j hj
  have h5 := h.n5
  refine ⟨by have := hk.rN; show hs[j].rep.toNat < 5; omega, fun k hk' => ?_, fun p x hx => (hk.ops.rd p x hx).fit⟩
  obtain ⟨r, -, rfl⟩ := vec_mem hk'
  rw [tr_saw h5 hk r]
  have h1 := hk.saw.pos r
  have h2 := hk.saw.le r
  have h3 := cntR_le (hs.take j) r
  rw [List.length_take] at h3
  omega
theorem tr_rd {n : Nat} {hs : List RTx} (h : HistG n hs) (hN : hs.length ≤ 1100000) {j : Nat} (hj : j < hs.length) : TrRd n (vecOf (visOf n hs)) (trOf hs[j]) := by
  have hk := h.tx j hj
  have h5 := h.n5
  have hrn := hk.rN
  obtain ⟨k1, k2, k3, k4⟩ := own_keysOf hk.ops hk.one
  have hvis : ∀ k : Nat, (vecOf (visOf n hs)).get k = if k < n then (cntR hs k : Int) else 0 := fun k => by
    rw [vecOf_get (by rw [visOf_len]; exact h5), Int.toNat_natCast]
    by_cases c : k < n
    · rw [visOf_get c, if_pos c]
    · rw [visOf_out (by omega), if_neg c]
  have hseq : (trOf hs[j]).seq = (cntR (hs.take j) hs[j].rep.toNat : Int) + 1 := hk.seq
  refine ⟨hrn, by rw [hseq]; omega, fun k hk5 => ?_, fun k hkn => ?_, k1, k2, k3, k4, hk.ops.rd⟩
  · rw [tr_saw h5 hk k]
    have h1 := hk.saw.pos k
    have h2 := hk.saw.le k
    have h3 := cntR_take_all hs (T := j) k
    have h4 := cntR_le hs k
    refine ⟨h1, ?_, by unfold maxSeq; omega⟩
    rw [show ((trOf hs[j]).rep : Int) = ((hs[j].rep.toNat : Nat) : Int) from rfl, vec_put_get _ (by omega)]
    split
    · rename_i c; rw [hseq, ← c]; omega
    · rw [hvis]
      split
      · omega
      · rename_i c; rw [getD_out (by rw [hk.saw.len]; omega)]; omega
  · rw [tr_saw h5 hk k, getD_out (by rw [hk.saw.len]; omega)]
theorem fil_mem {hs : List RTx} {r : Nat} {u : RTx} (h : u ∈ filR hs r) : u ∈ hs ∧ u.rep = (r : Int) := by
  obtain ⟨a, b⟩ := List.mem_filter.1 h
  exact ⟨a, of_decide_eq_true b⟩
theorem fil_len (hs : List RTx) (r : Nat) : (filR hs r).length = cntR hs r := rfl
theorem fil_none {n : Nat} {hs : List RTx} (h : HistG n hs) {r : Nat} (hr : n ≤ r) : filR hs r = [] := by
  cases e : filR hs r with
  | nil => rfl
  | cons u l =>
    have hu : u ∈ filR hs r := by rw [e]; simp
    obtain ⟨h1, h2⟩ := fil_mem hu
    obtain ⟨j, hj, rfl⟩ := List.mem_iff_getElem.1 h1
    have := (h.tx j hj).rn
    omega
def ansF (hs : List RTx) (x : DX) (v : Vec) (r j : Nat) : Tr := trOf ((segB hs x v r).getD j ⟨0, 0, [], []⟩)
def ansC (hs : List RTx) (x : DX) (v : Vec) (r : Nat) : Nat := (segB hs x v r).length
theorem ans_seg (hs : List RTx) (x : DX) (v : Vec) (r : Nat) : segL (ansF hs x v) (ansC hs x v) r = (segB hs x v r).map trOf := by
  apply List.ext_getElem?
  intro j
  unfold segL ansF ansC
  by_cases c : j < (segB hs x v r).length
  · simp [c]
  · simp [c]
theorem ans_list (hs : List RTx) (x : DX) (v : Vec) : upToL (ansF hs x v) (ansC hs x v) 5 = (beyondL hs x v).map trOf := by
  unfold upToL beyondL
  rw [List.map_flatMap]
  congr 1
  funext r
  exact ans_seg hs x v r
theorem seg_get {n : Nat} {hs : List RTx} (h : HistG n hs) (x : DX) (v : Vec) {r j : Nat} (hj : j < ansC hs x v r) : ∃ m, ∃ hm : m < hs.length, ansF hs x v r j = trOf hs[m] ∧ hs[m].rep = (r : Int) ∧ hs[m].seq = (cntR hs r : Int) - ansC hs x v r + 1 + j := by
  have hl := held_len hs r (max (x.gone r) (v.get r).toNat)
  have hc : ansC hs x v r = (filR hs r).length - max (x.gone r) (v.get r).toNat := hl
  have hjs : j < (segB hs x v r).length := hj
  have e1 : (segB hs x v r)[j] = (filR hs r)[max (x.gone r) (v.get r).toNat + j]'(by omega) := held_get hjs
  obtain ⟨s1, s2⟩ := fil_seq h r (max (x.gone r) (v.get r).toNat + j) (by omega)
  have hu := (fil_mem (List.getElem_mem (show max (x.gone r) (v.get r).toNat + j < (filR hs r).length by omega))).1
  obtain ⟨m, hm, em⟩ := List.mem_iff_getElem.1 hu
  refine ⟨m, hm, ?_, by rw [em]; exact s2, ?_⟩
  · unfold ansF
    rw [em, ← e1, List.getD_eq_getElem?_getD, List.getElem?_eq_getElem hjs]; rfl
  · rw [em, s1, ← fil_len]; omega
end Go.Proofs.YtiplgdkpnhamaaaGreatDoor.Tv

namespace Go.Proofs.YtiplgdkpnhamaaaGreatDoor.Tv
open Go.RowKit
structure BeyAt (w W0 : World) (hs : List RTx) (x : DX) (v : Vec) (r : Nat) (bv : Value) (wr : World) : Prop where
  bel : Below W0.heap.size W0 wr
  ex : ∃ zs : List (Tr × Nat), zs.map Prod.fst = ((List.range r).flatMap (segB hs x v)).map trOf ∧ wr.ownsRow W0.heap.size 139 8 bv zs.length (zs.flatMap trCells) ∧ ∀ z, z ∈ zs → TrIn w z
theorem segs_few (hs : List RTx) (x : DX) (v : Vec) : ∀ r, ((List.range r).flatMap (segB hs x v)).length ≤ r * hs.length := by
  intro r
  induction r with
  | zero => simp
  | succ r ih =>
    rw [List.range_succ, List.flatMap_append, List.length_append, List.flatMap_cons, List.flatMap_nil, List.append_nil, Nat.add_mul]
    have := held_few hs r (max (x.gone r) (v.get r).toNat)
    unfold segB at *
    omega
def BeyEnd (w : World) (hs : List RTx) (x : DX) (v : Vec) (e : Ending) (w' : World) : Prop := ∃ (lv : Value) (zs : List (Tr × Nat)), e = .returned lv ∧ w'.ownsRow w.heap.size 139 8 lv zs.length (zs.flatMap trCells) ∧ zs.map Prod.fst = (beyondL hs x v).map trOf ∧ (∀ z, z ∈ zs → TrIn w z) ∧ Below w.heap.size w w'
theorem flat_drop {α : Type} (f : α → List Value) (s : Nat) (hf : ∀ a, (f a).length = s) : ∀ (l : List α) (m : Nat), (l.drop m).flatMap f = (l.flatMap f).drop (m * s)
  | [], m => by simp
  | a :: l, 0 => by simp
  | a :: l, m + 1 => by
    rw [List.drop_succ_cons, List.flatMap_cons, flat_drop f s hf l m, show (m + 1) * s = (f a).length + m * s by rw [hf, Nat.add_mul]; omega, List.drop_append]
    simp
set_option maxRecDepth 100000 in
set_option maxHeartbeats 4000000 in
theorem beyond_any {xq : DX} {w : World} {p : Nat → Own} {b n i : Nat} {d : DRep} {sb : Nat} {st : St} {sl tbs mbs : Nat → Nat} {hv kn : List Value} (h : RepP xq w p b n i d sb st sl tbs mbs hv kn) (hR : d.hs.length ≤ 1100000) (v : Vec) :
    Calls Tryz.prog 78 #[.pointer (some ⟨b, 3, none⟩), v.val] w (BeyEnd w d.hs xq v) := by
  obtain ⟨i0, hi, hz0, hz1, hz2⟩ := info_parts Tryz.infoTrx
  have HI := hide (⟨hi, hz0, hz1, hz2⟩ : _ ∧ _ ∧ _ ∧ _)
  clear hi hz0 hz1 hz2
  obtain ⟨v0, v1, v2, v3, v4, hve⟩ : ∃ v0 v1 v2 v3 v4, hv = [v0, v1, v2, v3, v4] := by
    have := h.hlen
    match hv, this with
    | [a, b, c, d, e], _ => exact ⟨a, b, c, d, e, rfl⟩
  generalize hW0 : w.alloc (.cells #[.int .i64 v.a, .int .i64 v.b, .int .i64 v.c, .int .i64 v.d, .int .i64 v.e] 104) = W0
  have hB0 : Below w.heap.size w W0 := by rw [← hW0]; exact (Below.refl _ _).alloc (Nat.le_refl _) _
  have bx : Blk W0 w.heap.size v.cells 104 := by rw [← hW0]; exact heap_alloc_new w _
  have h0 := h.below hB0
  have ch : ∀ k (hk : k < 5), W0.cell? ⟨b, 3 + k, none⟩ = hv[k]? := fun k hk => by rw [h0.blk.blk.cell (3 + k), repCells_hv h.hlen k hk]
  rw [hve] at ch
  have c0 : W0.cell? ⟨b, 3, none⟩ = some v0 := ch 0 (by omega)
  have c1 : W0.cell? ⟨b, 4, none⟩ = some v1 := ch 1 (by omega)
  have c2 : W0.cell? ⟨b, 5, none⟩ = some v2 := ch 2 (by omega)
  have c3 : W0.cell? ⟨b, 6, none⟩ = some v3 := ch 3 (by omega)
  have c4 : W0.cell? ⟨b, 7, none⟩ = some v4 := ch 4 (by omega)
  have hlb := h0.blk.blk.lt
  have HX := hide (idxH hv v0 v1 v2 v3 v4 hve)
  have HH := hide (⟨h, hR, hB0, bx⟩ : _ ∧ _ ∧ _ ∧ _)
  have HW0 := hide hW0
  have hs0 : w.heap.size < W0.heap.size := bx.lt
  clear h hR hB0 bx h0 ch hW0
  go_enter Tryz.func78, Tryz.ntmps78
  go_upto_region 2 with (fail)
  rw [HW0.out]
  go_wp2_with fail
  clear c0 c1 c2 c3 c4 hlb
  go_loopw [5, 12] (fun bv rv wr => ∃ r : Nat, r ≤ 5 ∧ rv = .int .i64 r ∧ Hid (BeyAt w W0 d.hs xq v r bv wr)) (fun _ rv _ => 5 - (intOf rv).toNat)
  case atStart => exact ⟨0, Nat.zero_le _, rfl, Below.refl _ _, [], by simp, World.ownsRow_nil _ _ _ _, by simp⟩
  case round =>
    obtain ⟨r, hr5, rfl, HB⟩ := hrel
    obtain ⟨zs, e1, e2, e3⟩ := HB.out.ex
    by_cases hr : r < 5
    · obtain ⟨h, hR, hB0, bx⟩ := HH.out
      have hrl : r < hv.length := by rw [h.hlen]; exact hr
      obtain ⟨ys, y1, y2, y3⟩ := (h.held r hrl).ex
      have hB := hB0.trans (HB.out.bel.mono hB0.size)
      have hrow : wr.ownsRow 0 139 8 hv[r] ys.length (ys.flatMap trCells) := ownsRow_below y2.row hB
      have hyl : ys.length = (heldOf d.hs r (xq.gone r)).length := by have := congrArg List.length y1; simpa using this
      have hfew := held_few d.hs r (xq.gone r)
      have hyd : ∀ i (hi : i < ys.length), ys[i].1 = trOf ((heldOf d.hs r (xq.gone r))[i]'(by omega)) := fun i hi => by
        have := congrArg (fun l => l[i]?) y1
        simp only [List.getElem?_map, List.getElem?_eq_getElem hi, List.getElem?_eq_getElem (show i < (heldOf d.hs r (xq.gone r)).length by omega), Option.map_some, Option.some.injEq] at this
        exact this
      obtain ⟨k, hk⟩ : ∃ k, covK d.hs xq v r = k := ⟨_, rfl⟩
      have hkl : k ≤ ys.length := by rw [← hk, hyl]; unfold covK; omega
      have hcov := covered_any wr 0 v ys hv[r] hrow (by omega) (fun y hy => by
        obtain ⟨i, hi, rfl⟩ := List.mem_iff_getElem.1 hy
        rw [hyd i hi]
        have hj : i < (heldOf d.hs r (xq.gone r)).length := by omega
        have hl := held_len d.hs r (xq.gone r)
        show (heldOf d.hs r (xq.gone r))[i].rep.toNat < 5
        rw [held_get hj, (fil_seq h.ok.hist r _ (by omega)).2, Int.toNat_natCast]
        exact hr) k hkl (fun i hi c => by rw [hyd i hi, cov_split h.ok.hist xq v i (by omega), hk]; simpa using c) (fun i hi c => by rw [hyd i hi, cov_split h.ok.hist xq v i (by omega), hk]; simpa using c)
      have hix := HX.out r hrl
      have bxr := (bx.below HB.out.bel)
      have z0 : wr.cell? ⟨w.heap.size, 0, none⟩ = some (.int .i64 v.a) := bxr.cell 0
      have z1 : wr.cell? ⟨w.heap.size, 1, none⟩ = some (.int .i64 v.b) := bxr.cell 1
      have z2 : wr.cell? ⟨w.heap.size, 2, none⟩ = some (.int .i64 v.c) := bxr.cell 2
      have z3 : wr.cell? ⟨w.heap.size, 3, none⟩ = some (.int .i64 v.d) := bxr.cell 3
      have z4 : wr.cell? ⟨w.heap.size, 4, none⟩ = some (.int .i64 v.e) := bxr.cell 4
      have hlx := bxr.lt
      have hseg : (ys.drop k).map Prod.fst = (segB d.hs xq v r).map trOf := by rw [← seg_drop, hk, List.map_drop, y1, List.map_drop]
      have hzl : zs.length ≤ 5500000 := by
        have a := congrArg List.length e1
        have := segs_few d.hs xq v r
        simp only [List.length_map] at a
        have : r * d.hs.length ≤ 5 * d.hs.length := Nat.mul_le_mul_right _ (by omega)
        omega
      have hstep : (zs ++ ys.drop k).map Prod.fst = ((List.range (r + 1)).flatMap (segB d.hs xq v)).map trOf := by
        rw [List.map_append, e1, hseg, List.range_succ, List.flatMap_append, List.map_append, List.flatMap_cons, List.flatMap_nil, List.append_nil]
      have hmem : ∀ z, z ∈ zs ++ ys.drop k → TrIn w z := fun z hz => by
        rw [List.mem_append] at hz
        rcases hz with hz | hz
        · exact e3 z hz
        · exact (y3 z (List.mem_of_mem_drop hz)).2
      have HCV := hide hcov
      have HS := hide (⟨hstep, hmem, hkl, hzl, e2, hrow⟩ : _ ∧ _ ∧ _ ∧ _ ∧ _ ∧ _)
      have hyf : ys.length ≤ 1100000 := by omega
      generalize hv[r] = lr at *
      clear h bx hB hyl hyd hcov hseg hstep hmem y1 y2 y3 e1 e3 bxr hk
      rcases hrow.2 with ⟨rfl, hn0⟩ | ⟨g, cap, cur, rfl, -, hg, hcc, -⟩
      · have hk0 : k = 0 := by omega
        subst hk0
        go_wp2_with (first | (go_at_call 121; refine HCV.out.mono ?_; rintro e w1 ⟨rfl, hB1⟩; have HB1 := hide hB1; clear hB1) | (at_builtin; refine wpList_append_own_none rfl _ _ 106 rfl W0.heap.size 139 i0 8 Tryz.underlying106 HI.out.1 _ zs.length _ rfl (ownsRow_below HS.out.2.2.2.2.1 HB1.out) (by simp [Act.eval]) ?_))
        obtain ⟨hstep, hmem, -, -, -, -⟩ := HS.out
        have hy0 : ys = [] := List.length_eq_zero_iff.1 hn0
        rw [hy0, List.drop_nil, List.append_nil] at hstep hmem
        exact ⟨⟨r + 1, by omega, by simp, ⟨HB.out.bel.trans (HB1.out.mono HB.out.bel.size), zs, hstep, ownsRow_below HS.out.2.2.2.2.1 HB1.out, hmem⟩⟩, by simp only [intOf]; omega⟩
      · have hcl : ∀ (w1 : World) (hB1 : Below wr.heap.size wr w1) j u, ((ys.drop k).flatMap trCells)[j]? = some u → w1.cell? ((⟨g, k * 8, none⟩ : Addr).add j) = some u := fun w1 hB1 j u hu => by
          have e := flat_drop trCells 8 (fun _ => rfl) ys k
          rw [e, List.getElem?_drop] at hu
          have hlt : k * 8 + j < ys.length * 8 := by
            have := (List.getElem?_eq_some_iff.1 hu).1
            rw [flat_len trCells 8 (fun _ => rfl)] at this
            exact this
          have a := World.ownsRow.cellAt hrow (k * 8 + j) hlt
          rw [hu] at a
          have e2 : (⟨g, k * 8, none⟩ : Addr).add j = ⟨g, k * 8 + j, none⟩ := by rw [Addr.add_lit]
          rw [e2]
          exact cell_later hB1 a
        have h1c : ∀ u ∈ (ys.drop k).flatMap trCells, u.oneCell' = true := fun u hu => by
          obtain ⟨y, -, hy⟩ := List.mem_flatMap.1 hu
          simp only [trCells, List.mem_cons, List.not_mem_nil, or_false] at hy
          rcases hy with rfl | rfl | rfl | rfl | rfl | rfl | rfl | rfl <;> rfl
        have hln : ((ys.drop k).flatMap trCells).length = (ys.length - k) * 8 := by rw [flat_len trCells 8 (fun _ => rfl), List.length_drop]
        have HCL := hide (⟨hcl, h1c, hln⟩ : _ ∧ _ ∧ _)
        clear hcl h1c hln hrow e2
        by_cases hck : cap = k
        · have HKK : Hid (ys.length = cap) := (by omega : ys.length = cap)
          subst hck
          go_wp2_with (first | (go_at_call 121; refine HCV.out.mono ?_; rintro e w1 ⟨rfl, hB1⟩; have HB1 := hide hB1; clear hB1) | (at_builtin; refine wpList_append_own _ rfl _ _ 106 rfl W0.heap.size 139 i0 (.agg #[.int .i64 0, .int .i64 0, .int .i64 0, .int .i64 0, .int .i64 0, .int .i64 0, .int .i64 0, .map none]) 8 64 Tryz.underlying106 HI.out.1 HI.out.2.1 HI.out.2.2.1 HI.out.2.2.2 rfl (by decide) _ zs.length _ rfl (ownsRow_below HS.out.2.2.2.2.1 HB1.out) ⟨g, 0, none⟩ 0 0 [] (by simp [Act.eval]) rfl (by intro j u hj; simp at hj) (by simp) (by unfold maxLen; omega) (by omega) (by have := HB.out.bel.size; have := HB1.out.size; omega) ?_; intro v5 w5 r1 r2 r3; have HR5 := hide (⟨r1, r2⟩ : _ ∧ _); clear r1 r2 r3))
          obtain ⟨hstep, hmem, -, -, e2, -⟩ := HS.out
          obtain ⟨r1, r2⟩ := HR5.out
          have hbw := HB.out.bel.trans (HB1.out.mono HB.out.bel.size)
          refine ⟨⟨r + 1, by omega, by simp, ⟨hbw.grown r2 hbw.size fun q hq => (e2.lt q hq).1, zs ++ ys.drop cap, hstep, ?_, hmem⟩⟩, by simp only [intOf]; omega⟩
          have hkk := HKK.out
          have hd0 : ys.drop cap = [] := List.drop_eq_nil_of_le (by omega)
          rw [hd0, List.append_nil]
          rw [List.append_nil, Nat.add_zero] at r1
          exact r1
        · go_wp2_with (first | (go_at_call 121; refine HCV.out.mono ?_; rintro e w1 ⟨rfl, hB1⟩; have HB1 := hide hB1; clear hB1) | (at_builtin; refine wpList_append_own _ rfl _ _ 106 rfl W0.heap.size 139 i0 (.agg #[.int .i64 0, .int .i64 0, .int .i64 0, .int .i64 0, .int .i64 0, .int .i64 0, .int .i64 0, .map none]) 8 64 Tryz.underlying106 HI.out.1 HI.out.2.1 HI.out.2.2.1 HI.out.2.2.2 rfl (by decide) _ zs.length _ rfl (ownsRow_below HS.out.2.2.2.2.1 HB1.out) ⟨g, k * 8, none⟩ (ys.length - k) (cap - k) ((ys.drop k).flatMap trCells) (by simp [Act.eval]) HCL.out.2.2 (HCL.out.1 _ HB1.out) HCL.out.2.1 (by unfold maxLen; omega) (by omega) (by have := HB.out.bel.size; have := HB1.out.size; omega) ?_; intro v5 w5 r1 r2 r3; have HR5 := hide (⟨r1, r2⟩ : _ ∧ _); clear r1 r2 r3))
          obtain ⟨hstep, hmem, -, -, e2, -⟩ := HS.out
          obtain ⟨r1, r2⟩ := HR5.out
          have hbw := HB.out.bel.trans (HB1.out.mono HB.out.bel.size)
          refine ⟨⟨r + 1, by omega, by simp, ⟨hbw.grown r2 hbw.size fun q hq => (e2.lt q hq).1, zs ++ ys.drop k, hstep, ?_, hmem⟩⟩, by simp only [intOf]; omega⟩
          rw [List.length_append, List.length_drop, List.flatMap_append]
          exact r1
    · have hre : r = 5 := by omega
      subst hre
      go_wp2_with fail
      go_ret
      obtain ⟨h, hR, hB0, bx⟩ := HH.out
      exact ⟨_, zs, rfl, ownsRow_low e2 hB0.size, e1, e3, hB0.trans (HB.out.bel.mono hB0.size)⟩
end Go.Proofs.YtiplgdkpnhamaaaGreatDoor.Tv

namespace Go.Proofs.YtiplgdkpnhamaaaGreatDoor.Tv
open Go.RowKit
theorem no_get (k : Nat) : noVec.get k = 0 := by
  by_cases h : k < 5
  · have : k = 0 ∨ k = 1 ∨ k = 2 ∨ k = 3 ∨ k = 4 := by omega
    rcases this with rfl | rfl | rfl | rfl | rfl <;> rfl
  · unfold Vec.get Vec.list
    rw [Int.toNat_natCast, List.getD_eq_getElem?_getD, List.getElem?_eq_none (by simp; omega)]; rfl
theorem lat_le (r : Nat) {k : Nat} (hk : k < 5) (hkr : k ≠ r) {B : Int} (hB : 0 ≤ B) : ∀ l : List Tr, (∀ p, p ∈ l → p.rep < 5 ∧ (p.rep = r → p.saw.get k ≤ B)) → (latFold noLat l r).get k ≤ B := by
  intro l
  induction l using snoc_ind with
  | h0 => intro _; show noVec.get k ≤ B; rw [no_get]; exact hB
  | h1 l t ih =>
    intro h
    have ih' := ih fun p hp => h p (by simp [hp])
    rw [latFold_snoc]
    unfold latUpd
    split
    · rename_i c
      obtain ⟨h1, h2⟩ := h t (by simp)
      rw [need_get h1 hk, if_neg (by omega)]
      have := h2 c.symm
      rw [← c]
      omega
    · exact ih'
theorem needMap_some : ∀ {l : List (Dot × Vec)} {d : Dot} {v : Vec}, needMap l d = some v → (d, v) ∈ l
  | [], _, _, h => by cases h
  | x :: l, d, v, h => by
    have h' : (needMap l d).or (if d = x.1 then some x.2 else none) = some v := h
    cases e : needMap l d with
    | some y =>
      rw [e] at h'
      cases h'
      exact List.mem_cons_of_mem _ (needMap_some e)
    | none =>
      rw [e, Option.none_or] at h'
      split at h'
      · rename_i c
        cases h'
        rw [c]; simp
      · cases h'
theorem bey_mem {hs : List RTx} {x : DX} {v : Vec} {u : RTx} (h : u ∈ beyondL hs x v) : u ∈ hs := by
  obtain ⟨r, -, h2⟩ := List.mem_flatMap.1 h
  exact (fil_mem (List.mem_of_mem_drop h2)).1
theorem bey_up {n : Nat} {hs : List RTx} (h : HistG n hs) (x : DX) (v : Vec) : UpL ((beyondL hs x v).map trOf) := by
  have h5 := h.n5
  constructor
  · intro t ht
    obtain ⟨u, hu, rfl⟩ := List.mem_map.1 ht
    obtain ⟨j, hj, rfl⟩ := List.mem_iff_getElem.1 (bey_mem hu)
    have hk := h.tx j hj
    have := hk.rN
    refine ⟨by show hs[j].rep.toNat < 5; omega, by show 1 ≤ hs[j].seq; rw [hk.seq]; omega, ?_⟩
    rw [tr_saw h5 hk]
    show hs[j].saw.getD hs[j].rep.toNat 0 ≤ hs[j].seq - 1
    have := hk.saw.le hs[j].rep.toNat
    rw [hk.seq]; omega
  · rw [List.pairwise_map]
    have : (beyondL hs x v).Pairwise fun a b => a.rep = b.rep → a.seq < b.seq := by
      unfold beyondL
      rw [List.pairwise_flatMap]
      refine ⟨fun r _ => ?_, ?_⟩
      · rw [List.pairwise_iff_getElem]
        intro i j hi hj hij _
        have hl := held_len hs r (max (x.gone r) (v.get r).toNat)
        have hi' : i < (heldOf hs r (max (x.gone r) (v.get r).toNat)).length := hi
        have hj' : j < (heldOf hs r (max (x.gone r) (v.get r).toNat)).length := hj
        have e1 : (segB hs x v r)[i] = (filR hs r)[max (x.gone r) (v.get r).toNat + i]'(by omega) := held_get hi
        have e2 : (segB hs x v r)[j] = (filR hs r)[max (x.gone r) (v.get r).toNat + j]'(by omega) := held_get hj
        have f1 := (fil_seq h r _ (show max (x.gone r) (v.get r).toNat + i < (filR hs r).length by omega)).1
        have f2 := (fil_seq h r _ (show max (x.gone r) (v.get r).toNat + j < (filR hs r).length by omega)).1
        have g1 := (congrArg RTx.seq e1).trans f1
        have g2 := (congrArg RTx.seq e2).trans f2
        exact Int.lt_of_le_of_lt (Int.le_of_eq g1) (Int.lt_of_lt_of_le (by omega) (Int.le_of_eq g2.symm))
      · refine List.Pairwise.imp_of_mem ?_ (List.pairwise_lt_range (n := 5))
        intro a b _ _ hab p hp q hq e
        have e1 := (fil_mem (List.mem_of_mem_drop hp)).2
        have e2 := (fil_mem (List.mem_of_mem_drop hq)).2
        rw [e1, e2] at e
        omega
    refine List.Pairwise.imp_of_mem ?_ this
    intro a b ha hb hab e
    obtain ⟨i, hi, rfl⟩ := List.mem_iff_getElem.1 (bey_mem ha)
    obtain ⟨j, hj, rfl⟩ := List.mem_iff_getElem.1 (bey_mem hb)
    have h1 := (h.tx i hi).r0
    have h2 := (h.tx j hj).r0
    have e' : hs[i].rep.toNat = hs[j].rep.toNat := e
    exact hab (by omega)
theorem need_at {l : List Tr} {v : Vec} {d : Dot} (h : (d, v) ∈ dotNeeds l) : ∃ m, ∃ hm : m < l.length, l[m].dot = d ∧ v = needAt l m hm := by
  obtain ⟨m, hm⟩ := List.mem_iff_getElem?.1 h
  unfold dotNeeds at hm
  rw [List.getElem?_zip_eq_some] at hm
  obtain ⟨h1, h2⟩ := hm
  rw [List.getElem?_map] at h1
  cases e : l[m]? with
  | none => rw [e] at h1; cases h1
  | some t =>
    obtain ⟨hlt, e'⟩ := List.getElem?_eq_some_iff.1 e
    rw [e] at h1
    have h3 := needs_get l noLat m hlt
    refine ⟨m, hlt, ?_, ?_⟩
    · rw [e']; exact Option.some.inj h1
    · exact Option.some.inj (h2.symm.trans h3)
theorem bey_sawOk {n : Nat} {hs : List RTx} (h : HistG n hs) (x : DX) (v : Vec) : SawOk ((beyondL hs x v).map trOf) := by
  have h5 := h.n5
  have hU := bey_up h x v
  intro t ht r hr
  obtain ⟨u, hu, rfl⟩ := List.mem_map.1 ht
  obtain ⟨a, ha, rfl⟩ := List.mem_iff_getElem.1 (bey_mem hu)
  have hk := h.tx a ha
  rw [incl_iff]
  intro k hk5
  cases e : needMap (dotNeeds ((beyondL hs x v).map trOf)) ⟨r, (trOf hs[a]).saw.get r⟩ with
  | none => show noVec.get k ≤ _; rw [no_get, tr_saw h5 hk]; exact hk.saw.pos k
  | some nd =>
    show nd.get k ≤ _
    obtain ⟨m, hm, ed, rfl⟩ := need_at (needMap_some e)
    have er : (((beyondL hs x v).map trOf)[m].rep : Int) = (r : Int) := congrArg Dot.rep ed
    have er' : ((beyondL hs x v).map trOf)[m].rep = r := by omega
    have es : ((beyondL hs x v).map trOf)[m].seq = (trOf hs[a]).saw.get r := congrArg Dot.seq ed
    by_cases c : k = r
    · subst c
      have := hU.ownNeed hm
      rw [er'] at this
      rw [this, es]; omega
    · rw [needAt_eq, er']
      refine lat_le r hk5 c (by rw [tr_saw h5 hk]; exact hk.saw.pos k) _ fun p hp => ?_
      obtain ⟨i, hi, rfl⟩ := List.mem_iff_getElem.1 hp
      have him : i < m + 1 := by rw [List.length_take] at hi; omega
      have hil : i < ((beyondL hs x v).map trOf).length := by rw [List.length_take] at hi; omega
      rw [List.getElem_take]
      have hin := List.getElem_mem hil
      obtain ⟨w, hw, ew⟩ := List.mem_map.1 hin
      obtain ⟨b, hb, rfl⟩ := List.mem_iff_getElem.1 (bey_mem hw)
      have hkb := h.tx b hb
      refine ⟨(hU.ok _ hin).1, fun e1 => ?_⟩
      have hsq : ((beyondL hs x v).map trOf)[i].seq ≤ ((beyondL hs x v).map trOf)[m].seq := by
        by_cases c2 : i = m
        · subst c2; exact Int.le_refl _
        · exact Int.le_of_lt (hU.lt (by omega) hm (by rw [e1, er']))
      rw [es, ← ew] at hsq
      rw [← ew] at e1 ⊢
      rw [tr_saw h5 hk] at hsq
      rw [tr_saw h5 hkb, tr_saw h5 hk]
      have e1' : hs[b].rep.toNat = r := e1
      have hsee : seesV hs[a].saw hs[b].rep hs[b].seq = true := sees_le.2 (by rw [e1']; exact hsq)
      have hba := h.back ha hb hsee
      exact hk.saw.clo hs[b] (List.mem_iff_getElem.2 ⟨b, by simp; omega, by simp⟩) hsee k
theorem bey_small {n : Nat} {hs : List RTx} (h : HistG n hs) (hN : hs.length ≤ 1100000) (x : DX) (v : Vec) : ∀ nd, nd ∈ needsOf ((beyondL hs x v).map trOf) → nd.small := by
  have h5 := h.n5
  have hU := bey_up h x v
  intro nd hnd
  obtain ⟨m, hm⟩ := List.mem_iff_getElem?.1 hnd
  have hml : m < ((beyondL hs x v).map trOf).length := by
    have := (List.getElem?_eq_some_iff.1 hm).1
    have e : (needsOf ((beyondL hs x v).map trOf)).length = ((beyondL hs x v).map trOf).length := needs_length _ _
    omega
  have hnd' : nd = needAt _ m hml := Option.some.inj (hm.symm.trans (needs_get _ noLat m hml))
  have hb : ∀ u, u ∈ beyondL hs x v → u.seq ≤ 1100000 ∧ ∀ k : Nat, (trOf u).saw.get k ≤ 1100000 := fun u hu => by
    obtain ⟨j, hj, rfl⟩ := List.mem_iff_getElem.1 (bey_mem hu)
    have hk := h.tx j hj
    refine ⟨?_, fun k => ?_⟩
    · have := cntR_le (hs.take j) hs[j].rep.toNat
      rw [List.length_take] at this
      rw [hk.seq]; omega
    · rw [tr_saw h5 hk]
      have h2 := hk.saw.le k
      have h3 := cntR_le (hs.take j) k
      rw [List.length_take] at h3
      omega
  intro k hk
  rw [hnd']
  refine ⟨?_, ?_⟩
  · rw [needAt_eq]
    have := hU.mono (((beyondL hs x v).map trOf)[m].rep) hk (Nat.zero_le (m + 1)) (by omega)
    rw [List.take_zero] at this
    have e0 : (latFold noLat [] (((beyondL hs x v).map trOf)[m].rep)).get k = 0 := no_get k
    omega
  · unfold maxSeq
    by_cases c : k = ((beyondL hs x v).map trOf)[m].rep
    · rw [c, hU.ownNeed hml]
      obtain ⟨u, hu, e⟩ := List.mem_map.1 (List.getElem_mem hml)
      rw [← e]
      have := (hb u hu).1
      show u.seq - 1 ≤ _
      omega
    · rw [needAt_eq]
      refine Int.le_trans (lat_le _ hk c (B := 1100000) (by omega) _ fun p hp => ?_) (by omega)
      have hp' := List.mem_of_mem_take hp
      obtain ⟨u, hu, e⟩ := List.mem_map.1 hp'
      refine ⟨(hU.ok p hp').1, fun _ => ?_⟩
      rw [← e]; exact (hb u hu).2 k
theorem bey_ans {n i : Nat} (hi : i < n) {hs : List RTx} (h : HistG n hs) (hN : hs.length ≤ 1100000) (x : DX) (v : Vec) : AnsOk n i (vecOf (visOf n hs)) (ansF hs x v) (ansC hs x v) := by
  have h5 := h.n5
  have hvis : ∀ k : Nat, (vecOf (visOf n hs)).get k = if k < n then (cntR hs k : Int) else 0 := fun k => by
    rw [vecOf_get (by rw [visOf_len]; exact h5), Int.toNat_natCast]
    by_cases c : k < n
    · rw [visOf_get c, if_pos c]
    · rw [visOf_out (by omega), if_neg c]
  refine ⟨h5, hi, fun k _ => ?_, fun k hk => by rw [hvis, if_neg (by omega)], fun k _ => ?_, fun r j hr hj => ?_, by rw [ans_list]; exact bey_sawOk h x v, ?_⟩
  · rw [hvis]
    have := cntR_le hs k
    unfold maxSeq
    split <;> omega
  · have hl := held_len hs k (max (x.gone k) (v.get k).toNat)
    have hc : ansC hs x v k = (filR hs k).length - max (x.gone k) (v.get k).toNat := hl
    rw [hvis]
    split
    · rw [fil_len] at hc; omega
    · rename_i c
      rw [fil_none h (by omega)] at hc
      simp at hc
      omega
  · obtain ⟨m, hm, e1, e2, e3⟩ := seg_get h x v hj
    have hk := h.tx m hm
    have hrn : r < n := by have := hk.rn; omega
    rw [e1]
    refine ⟨tr_rd h hN hm, by show hs[m].rep.toNat = r; rw [e2]; simp, ?_⟩
    show hs[m].seq = _
    rw [e3, hvis, if_pos hrn]
  · rw [ans_list, List.length_map]
    have : (beyondL hs x v).length ≤ 5 * hs.length := segs_few hs x v 5
    omega
end Go.Proofs.YtiplgdkpnhamaaaGreatDoor.Tv

namespace Go.Proofs.YtiplgdkpnhamaaaGreatDoor.Tv
open Go.RowKit
theorem bey_gt {n : Nat} {hs : List RTx} (h : HistG n hs) (x : DX) (v : Vec) {u : RTx} (hu : u ∈ beyondL hs x v) : u.rep.toNat < 5 ∧ ((max (x.gone u.rep.toNat) (v.get u.rep.toNat).toNat : Nat) : Int) < u.seq := by
  obtain ⟨r, hr, hu⟩ := List.mem_flatMap.1 hu
  have hr5 : r < 5 := List.mem_range.1 hr
  have e := (fil_mem (List.mem_of_mem_drop hu)).2
  have er : u.rep.toNat = r := by rw [e]; simp
  rw [er]
  refine ⟨hr5, ?_⟩
  obtain ⟨i, hi, rfl⟩ := List.mem_iff_getElem.1 hu
  have hl := held_len hs r (max (x.gone r) (v.get r).toNat)
  have hi' : i < (heldOf hs r (max (x.gone r) (v.get r).toNat)).length := hi
  have e1 : (segB hs x v r)[i] = (filR hs r)[max (x.gone r) (v.get r).toNat + i]'(by omega) := held_get hi
  have f1 := (fil_seq h r _ (show max (x.gone r) (v.get r).toNat + i < (filR hs r).length by omega)).1
  have g1 := (congrArg RTx.seq e1).trans f1
  exact Int.lt_of_lt_of_le (by omega) (Int.le_of_eq g1.symm)
theorem bey_has {n : Nat} {hs : List RTx} (h : HistG n hs) (x : DX) (v : Vec) {r : Nat} (hr : r < 5) {s : Int} (h1 : ((max (x.gone r) (v.get r).toNat : Nat) : Int) < s) (h2 : s ≤ cntR hs r) : ∃ u, u ∈ beyondL hs x v ∧ u.rep = (r : Int) ∧ u.seq = s := by
  have hl := held_len hs r (max (x.gone r) (v.get r).toNat)
  rw [fil_len] at hl
  have hi : s.toNat - 1 - max (x.gone r) (v.get r).toNat < (segB hs x v r).length := by
    show _ < (heldOf hs r _).length
    omega
  have hk : max (x.gone r) (v.get r).toNat + (s.toNat - 1 - max (x.gone r) (v.get r).toNat) < (filR hs r).length := by rw [fil_len]; omega
  have e1 : (segB hs x v r)[s.toNat - 1 - max (x.gone r) (v.get r).toNat] = (filR hs r)[max (x.gone r) (v.get r).toNat + (s.toNat - 1 - max (x.gone r) (v.get r).toNat)] := held_get hi
  have f1 := fil_seq h r _ hk
  refine ⟨_, List.mem_flatMap.2 ⟨r, List.mem_range.2 hr, List.getElem_mem hi⟩, ?_, ?_⟩
  · rw [e1]; exact f1.2
  · rw [e1, f1.1]; omega
theorem bey_full {n : Nat} {hs : List RTx} (h : HistG n hs) (x : DX) (v : Vec) : ∀ a, a ∈ (beyondL hs x v).map trOf → ∀ b, b ∈ (beyondL hs x v).map trOf → b.seq ≤ a.saw.get b.rep → ∃ c, c ∈ (beyondL hs x v).map trOf ∧ c.rep = b.rep ∧ c.seq = a.saw.get b.rep := by
  have h5 := h.n5
  intro a ha b hb hab
  obtain ⟨u, hu, rfl⟩ := List.mem_map.1 ha
  obtain ⟨y, hy, rfl⟩ := List.mem_map.1 hb
  obtain ⟨j, hj, rfl⟩ := List.mem_iff_getElem.1 (bey_mem hu)
  have hk := h.tx j hj
  have hg := bey_gt h x v hy
  have hab' : y.seq ≤ (trOf hs[j]).saw.get (y.rep.toNat : Nat) := hab
  have hs1 := tr_saw h5 hk y.rep.toNat
  have h2 := hk.saw.le y.rep.toNat
  have h3 := cntR_take_all hs (T := j) y.rep.toNat
  obtain ⟨c, hc, c1, c2⟩ := bey_has h x v hg.1 (s := (trOf hs[j]).saw.get (y.rep.toNat : Nat)) (by omega) (by omega)
  refine ⟨trOf c, List.mem_map.2 ⟨c, hc, rfl⟩, ?_, c2⟩
  show c.rep.toNat = y.rep.toNat
  omega
theorem bey_dots {n : Nat} {hs : List RTx} (h : HistG n hs) (x : DX) (v : Vec) : (beyondL hs x v).Pairwise fun a b => ¬ (a.rep.toNat = b.rep.toNat ∧ a.seq = b.seq) := by
  have := (bey_up h x v).up
  rw [List.pairwise_map] at this
  refine this.imp fun {a b} hab ⟨e1, e2⟩ => ?_
  have : a.seq < b.seq := hab e1
  omega
theorem txIn_at {us : List RTx} {ys : List (Tr × Nat)} (hys : ys.map Prod.fst = us.map trOf) (hdots : us.Pairwise fun a b => ¬ (a.rep.toNat = b.rep.toNat ∧ a.seq = b.seq)) {k : Nat} (hk : k < us.length) (hw : k < (wtsOf ys).length) : txIn us (wtsOf ys)[k] = us[k] := by
  have hlen : ys.length = us.length := by have := congrArg List.length hys; simpa using this
  obtain ⟨-, h2, h3⟩ := txIn_ok hys hdots (List.getElem_mem hw)
  have ex : ((wtsOf ys)[k]).x = ys[k]'(by omega) := by simp [wtsOf]
  have e1 : (ys[k]'(by omega)).1 = trOf us[k] := by
    have := congrArg (fun l => l[k]?) hys
    simp only [List.getElem?_map, List.getElem?_eq_getElem hk, List.getElem?_eq_getElem (show k < ys.length by omega), Option.map_some, Option.some.injEq] at this
    exact this
  rw [ex, e1] at h3
  obtain ⟨m, hm, em⟩ := List.mem_iff_getElem.1 h2
  rw [← em] at h3 ⊢
  have a1 : us[m].rep.toNat = us[k].rep.toNat := congrArg Tr.rep h3
  have a2 : us[m].seq = us[k].seq := congrArg Tr.seq h3
  have hpw := List.pairwise_iff_getElem.1 hdots
  by_cases c : m = k
  · subst c; rfl
  · by_cases c2 : m < k
    · exact absurd ⟨a1, a2⟩ (hpw m k hm hk c2)
    · exact absurd ⟨a1.symm, a2.symm⟩ (hpw k m hk hm (by omega))
def wantsT (a b : RTx) : Prop := (b.rep.toNat = a.rep.toNat ∧ b.seq < a.seq) ∨ b.seq ≤ a.saw.getD b.rep.toNat 0
def RecD (d : DRep) (us : List RTx) (d' : DRep) : Prop := ∃ zs : List RTx, d' = passD d zs ∧ zs.Perm us ∧ zs.Pairwise fun a b => ¬ wantsT a b
theorem bey_rec {n : Nat} {hs : List RTx} (h : HistG n hs) (x : DX) (v : Vec) {us : List RTx} (hus : us = beyondL hs x v) (d : DRep) {ys : List (Tr × Nat)} {xs : List Wt} (hys : ys.map Prod.fst = us.map trOf) (hp : xs.Perm (wtsOf ys)) (hsort : xs.Pairwise fun a b => wLt b a = false) : RecD d us (passD d (xs.map (txIn us))) := by
  have h5 := h.n5
  have hdots : us.Pairwise fun a b => ¬ (a.rep.toNat = b.rep.toNat ∧ a.seq = b.seq) := by rw [hus]; exact bey_dots h x v
  have hlen : ys.length = us.length := by have := congrArg List.length hys; simpa using this
  have hmap : (wtsOf ys).map (txIn us) = us := by
    apply List.ext_getElem
    · rw [List.length_map, wts_len, hlen]
    · intro k h1 h2
      rw [List.getElem_map]
      exact txIn_at hys hdots h2 (by rw [wts_len]; omega)
  refine ⟨_, rfl, by have := hp.map (txIn us); rwa [hmap] at this, ?_⟩
  rw [List.pairwise_map]
  refine List.Pairwise.imp_of_mem ?_ hsort
  intro a b ha hb hab hw
  obtain ⟨i, hi, rfl⟩ := List.mem_iff_getElem.1 (hp.mem_iff.1 ha)
  obtain ⟨j, hj, rfl⟩ := List.mem_iff_getElem.1 (hp.mem_iff.1 hb)
  have hiu : i < us.length := by rw [wts_len] at hi; omega
  have hju : j < us.length := by rw [wts_len] at hj; omega
  rw [txIn_at hys hdots hiu hi, txIn_at hys hdots hju hj] at hw
  have hU : UpL (us.map trOf) := by rw [hus]; exact bey_up h x v
  have hS : SawOk (us.map trOf) := by rw [hus]; exact bey_sawOk h x v
  have hF : ∀ a, a ∈ us.map trOf → ∀ b, b ∈ us.map trOf → b.seq ≤ a.saw.get b.rep → ∃ c, c ∈ us.map trOf ∧ c.rep = b.rep ∧ c.seq = a.saw.get b.rep := by rw [hus]; exact bey_full h x v
  have hi2 : i < (us.map trOf).length := by simpa using hiu
  have hj2 : j < (us.map trOf).length := by simpa using hju
  have key := hU.less hS hF hi2 hj2 (by
    rw [List.getElem_map, List.getElem_map]
    rcases hw with hw | hw
    · exact Or.inl hw
    · refine Or.inr ?_
      have hm : us[i] ∈ hs := bey_mem (x := x) (v := v) (hus ▸ List.getElem_mem hiu)
      obtain ⟨m, hm', em⟩ := List.mem_iff_getElem.1 hm
      have hk := h.tx m hm'
      rw [em] at hk
      show us[j].seq ≤ (trOf us[i]).saw.get ((us[j].rep.toNat : Nat) : Int)
      rw [tr_saw h5 hk]; exact hw)
  have nd : ∀ k (hk : k < (wtsOf ys).length) (hk2 : k < (us.map trOf).length), ((wtsOf ys)[k]).nd = (needAt (us.map trOf) k hk2).count := fun k hk hk2 => by
    have h3 := needs_get (us.map trOf) noLat k hk2
    unfold needAt
    have : (needsOf (ys.map Prod.fst))[k]? = some (needOf (latFold noLat ((us.map trOf).take k)) (us.map trOf)[k]) := by rw [hys]; exact h3
    obtain ⟨hk3, e3⟩ := List.getElem?_eq_some_iff.1 this
    rw [← e3]
    simp [wtsOf]
  rw [wLt_no] at hab
  apply hab
  left
  rw [nd i hi hi2, nd j hj hj2]
  exact key
end Go.Proofs.YtiplgdkpnhamaaaGreatDoor.Tv

namespace Go.Proofs.YtiplgdkpnhamaaaGreatDoor.Tv
open Go.RowKit
theorem can_iff {d : DRep} {u : RTx} (h5 : u.saw.length ≤ 5) (hv : d.vis.length ≤ 5) : canD d u = true ↔ (d.vis.getD u.rep.toNat 0 + 1 = u.seq ∧ ∀ k, u.saw.getD k 0 ≤ d.vis.getD k 0) := by
  unfold canD canF
  rw [Bool.and_eq_true, decide_eq_true_eq, incl_iff, vecOf_get hv, Int.toNat_natCast]
  constructor
  · rintro ⟨h1, h2⟩
    refine ⟨h1.symm, fun k => ?_⟩
    by_cases c : k < 5
    · have := h2 k c
      rwa [vecOf_get h5, vecOf_get hv, Int.toNat_natCast] at this
    · rw [getD_out (by omega), getD_out (by omega)]; exact Int.le_refl _
  · rintro ⟨h1, h2⟩
    refine ⟨h1.symm, fun k _ => ?_⟩
    rw [vecOf_get h5, vecOf_get hv, Int.toNat_natCast]
    exact h2 k
theorem passD_cons (d : DRep) (u : RTx) (us : List RTx) : passD d (u :: us) = passD (stepD d u) us := rfl
theorem passD_mem (us : List RTx) : ∀ (d : DRep) (v : RTx), v ∈ (passD d us).hs → v ∈ d.hs ∨ v ∈ us := by
  induction us with
  | nil => intro d v hv; exact Or.inl hv
  | cons u us ih =>
    intro d v hv
    rw [passD_cons] at hv
    rcases ih _ v hv with h | h
    · unfold stepD at h
      split at h
      · unfold showD at h
        rcases List.mem_append.1 h with h | h
        · exact Or.inl h
        · exact Or.inr (by rw [List.mem_singleton.1 h]; simp)
      · exact Or.inl h
    · exact Or.inr (List.mem_cons_of_mem _ h)
theorem passD_pre (us : List RTx) : ∀ d : DRep, ∃ l, (passD d us).hs = d.hs ++ l := by
  induction us with
  | nil => intro d; exact ⟨[], by simp [passD]⟩
  | cons u us ih =>
    intro d
    rw [passD_cons]
    obtain ⟨l, hl⟩ := ih (stepD d u)
    rw [hl]
    unfold stepD
    split
    · exact ⟨u :: l, by simp [showD]⟩
    · exact ⟨l, rfl⟩
theorem new_of_can {n : Nat} {ts hs : List RTx} (hT : HistG n ts) (hm : ∀ v, v ∈ hs → v ∈ ts) {u : RTx} (hu : u ∈ ts) (c1 : (visOf n hs).getD u.rep.toNat 0 + 1 = u.seq) (c2 : ∀ k, u.saw.getD k 0 ≤ (visOf n hs).getD k 0) : NewOk n hs u := by
  obtain ⟨a, ha, rfl⟩ := List.mem_iff_getElem.1 hu
  have hk := hT.tx a ha
  refine ⟨hk.r0, hk.rn, ?_, ⟨hk.saw.len, hk.saw.pos, fun r => ?_, fun v hv hs' r => ?_⟩, hk.ops, hk.one⟩
  · rw [visOf_get hk.rN] at c1; omega
  · have := c2 r
    by_cases c : r < n
    · rwa [visOf_get c] at this
    · rw [visOf_out (by omega)] at this; omega
  · obtain ⟨b, hb, rfl⟩ := List.mem_iff_getElem.1 (hm v hv)
    have hba := hT.back ha hb hs'
    exact hk.saw.clo ts[b] (List.mem_iff_getElem.2 ⟨b, by simp; omega, by simp⟩) hs' r
theorem hnew_of {n : Nat} {ts : List RTx} (hT : HistG n ts) {d : DRep} (hd : ∀ v, v ∈ d.hs → v ∈ ts) {us : List RTx} (hus : ∀ v, v ∈ us → v ∈ ts) : ∀ vs u, (∀ v, v ∈ vs → v ∈ us) → u ∈ us → HistG n (passD d vs).hs → (passD d vs).vis = visOf n (passD d vs).hs → canD (passD d vs) u = true → NewOk n (passD d vs).hs u := by
  intro vs u hvs hu hH hvis hc
  have hsub : ∀ v, v ∈ (passD d vs).hs → v ∈ ts := fun v hv => (passD_mem vs d v hv).elim (hd v) fun h => hus v (hvs v h)
  obtain ⟨a, ha, e⟩ := List.mem_iff_getElem.1 (hus u hu)
  have hk := hT.tx a ha
  rw [e] at hk
  have := (can_iff (by rw [hk.saw.len]; exact hT.n5) (by rw [hvis, visOf_len]; exact hT.n5)).1 hc
  rw [hvis] at this
  exact new_of_can hT hsub (hus u hu) this.1 this.2
theorem HistG.one_ {n : Nat} {ts : List RTx} (hT : HistG n ts) {u v : RTx} (hu : u ∈ ts) (hv : v ∈ ts) (e1 : u.rep.toNat = v.rep.toNat) (e2 : u.seq = v.seq) : u = v := by
  obtain ⟨a, ha, rfl⟩ := List.mem_iff_getElem.1 hu
  obtain ⟨b, hb, rfl⟩ := List.mem_iff_getElem.1 hv
  have r1 := (hT.tx a ha).r0
  have r2 := (hT.tx b hb).r0
  have := hT.inj ha hb (by omega) e2
  subst this; rfl
end Go.Proofs.YtiplgdkpnhamaaaGreatDoor.Tv

namespace Go.Proofs.YtiplgdkpnhamaaaGreatDoor.Tv
open Go.RowKit
def AnsEnd (xq : DX) (w : World) (p : Nat → Own) (b n i : Nat) (d : DRep) (v : Vec) (e : Ending) (w' : World) : Prop :=
  e = .returned (.tuple #[.string ⟨(ansT n i (vecOf d.vis) ((beyondL d.hs xq v).map trOf)).toArray⟩, .int .i64 0]) ∧ RepIn xq w' p b n i d ∧ QT (fun t => t = Own.rep) w p w' p
set_option maxRecDepth 100000 in
set_option maxHeartbeats 8000000 in
theorem answer_ok {xq : DX} {w : World} {p : Nat → Own} {b n i : Nat} {d : DRep} (h : RepIn xq w p b n i d) (hR : d.hs.length ≤ 1100000) (t : ByteArray) (j : Nat) (v : Vec) (hj : j < 5) (ht : Tabs w) (h6 : ∀ q, q < 6 → p q = .other)
    (hfit : ∀ u, u ∈ d.hs → (trOf u).Fit)
    (hread : Calls Tryz.prog 74 #[.func (.func 75) #[] #[], .string t, .int .i64 n] w fun e w' => Below w.heap.size w w' ∧ e = .returned (.tuple #[headVal j v, .int .i64 0])) :
    Calls Tryz.prog 40 #[bptr b, .string t] w (AnsEnd (learnX xq j v) w p b n i d v) := by
  obtain ⟨sb, st, sl, tbs, mbs, hv, kn, h⟩ := h
  obtain ⟨-, c1, -⟩ := h.cellOf
  have hlb := h.blk.blk.lt
  have HRD := hide hread
  have HH := hide (⟨h, hR, hfit, ht, h6⟩ : _ ∧ _ ∧ _ ∧ _ ∧ _)
  clear h hread hR hfit ht h6
  go_enter Tryz.func40, Tryz.ntmps40
  go_upto_region 2 with (go_at_call 74; refine HRD.out.mono ?_; rintro e w2 ⟨hB2, rfl⟩; have H2 := hide hB2; clear hB2)
  generalize hW3 : w2.alloc (.cells #[.int .i64 j, .int .i64 v.a, .int .i64 v.b, .int .i64 v.c, .int .i64 v.d, .int .i64 v.e] 144) = W3
  have hB3 : Below w2.heap.size w2 W3 := by rw [← hW3]; exact (Below.refl _ _).alloc (Nat.le_refl _) _
  have bA : Blk W3 w2.heap.size [.int .i64 j, .int .i64 v.a, .int .i64 v.b, .int .i64 v.c, .int .i64 v.d, .int .i64 v.e] 144 := by rw [← hW3]; exact heap_alloc_new w2 _
  have hB03 : Below w.heap.size w W3 := H2.out.trans (hB3.mono H2.out.size)
  have hP3 : RepP xq W3 (own2q p w.heap.size others) b n i d sb st sl tbs mbs hv kn := HH.out.1.move fun q hq _ => ⟨hB03.block q hq, own2q_low hq⟩
  have hln := learn_any hP3 hj v
  have HLN := hide hln
  have a0 : W3.cell? ⟨w2.heap.size, 0, none⟩ = some (.int .i64 j) := bA.cell 0
  have a1 : W3.cell? ⟨w2.heap.size, 1, none⟩ = some (.int .i64 v.a) := bA.cell 1
  have a2 : W3.cell? ⟨w2.heap.size, 2, none⟩ = some (.int .i64 v.b) := bA.cell 2
  have a3 : W3.cell? ⟨w2.heap.size, 3, none⟩ = some (.int .i64 v.c) := bA.cell 3
  have a4 : W3.cell? ⟨w2.heap.size, 4, none⟩ = some (.int .i64 v.d) := bA.cell 4
  have a5 : W3.cell? ⟨w2.heap.size, 5, none⟩ = some (.int .i64 v.e) := bA.cell 5
  have l3 := bA.lt
  have H3 := hide (⟨bA, hB03, hB3⟩ : _ ∧ _ ∧ _)
  clear hln hB3 bA hB03 hP3 hW3 c1 hlb HRD
  go_upto_region 5 with (go_at_call 76; refine HLN.out.mono ?_; rintro e w4 ⟨rfl, hI4, hq4⟩; refine Hid.out ?_)
  refine Lib.hid ?_
  obtain ⟨bA, hB03, hB3⟩ := H3.out
  have hs2 : w.heap.size ≤ w2.heap.size := H2.out.size
  have bA4 := bA.move (hq4.touch.block _ bA.lt (by rw [own2q_high hs2]; simp [others]))
  obtain ⟨sb4, st4, sl4, tbs4, mbs4, hv4, kn4, hP4⟩ := hI4
  obtain ⟨-, c1, -⟩ := hP4.cellOf
  have hlb := hP4.blk.blk.lt
  have z0 : w4.cell? ⟨w2.heap.size, 1, none⟩ = some (.int .i64 v.a) := bA4.cell 1
  have z1 : w4.cell? ⟨w2.heap.size, 2, none⟩ = some (.int .i64 v.b) := bA4.cell 2
  have z2 : w4.cell? ⟨w2.heap.size, 3, none⟩ = some (.int .i64 v.c) := bA4.cell 3
  have z3 : w4.cell? ⟨w2.heap.size, 4, none⟩ = some (.int .i64 v.d) := bA4.cell 4
  have z4 : w4.cell? ⟨w2.heap.size, 5, none⟩ = some (.int .i64 v.e) := bA4.cell 5
  have hlz := bA4.lt
  obtain ⟨-, hR, hfit, ht, h6⟩ := HH.out
  have hroom := ht.room
  have ht4 : Tabs w4 := by
    refine (ht.later hB03).kept fun q hq => hq4.touch.block q (Nat.lt_of_lt_of_le (by omega) hB03.size) ?_
    rw [own2q_low (by omega), h6 q hq]; simp
  have hn5 := hP4.ok.hist.n5
  have hi4 := hP4.ok.hi
  have hv64 := fun k => hP4.vis64 hR k
  have HHD : Hid (Calls Tryz.prog 72 #[bptr b] w4.drew fun e w' => e = .returned (headVal i (vecOf d.vis)) ∧ (w'.cell? ⟨b, 1, none⟩ = some (.int .i64 n) ∧ b < w'.heap.size ∧ w'.cell? ⟨w2.heap.size, 1, none⟩ = some (.int .i64 v.a) ∧ w'.cell? ⟨w2.heap.size, 2, none⟩ = some (.int .i64 v.b) ∧ w'.cell? ⟨w2.heap.size, 3, none⟩ = some (.int .i64 v.c) ∧ w'.cell? ⟨w2.heap.size, 4, none⟩ = some (.int .i64 v.d) ∧ w'.cell? ⟨w2.heap.size, 5, none⟩ = some (.int .i64 v.e) ∧ w2.heap.size < w'.heap.size) ∧ Hid (Below w4.heap.size w4 w')) :=
    (head_any (hP4.below (Below.refl _ _).drew)).mono (by
      rintro e w' ⟨rfl, hB⟩
      have hB' : Below w4.heap.size w4 w' := (Below.refl _ _).drew.trans hB
      have b' := bA4.below hB'
      exact ⟨rfl, ⟨cell_later hB' c1, Nat.lt_of_lt_of_le hlb hB'.size, b'.cell 1, b'.cell 2, b'.cell 3, b'.cell 4, b'.cell 5, b'.lt⟩, hB'⟩)
  have HBY : Hid (∀ w6, Below w4.heap.size w4 w6 → Calls Tryz.prog 78 #[.pointer (some ⟨b, 3, none⟩), v.val] w6 fun e w' => ∃ ao m cp, e = .returned (.slice ao m cp) ∧ (w'.cell? ⟨b, 1, none⟩ = some (.int .i64 n) ∧ b < w'.heap.size) ∧ Hid (Below w4.heap.size w4 w') ∧ Hid (Calls Tryz.prog 77 #[.int .i64 n, .agg #[.int .i64 i, .int .i64 (vecOf d.vis).a, .int .i64 (vecOf d.vis).b, .int .i64 (vecOf d.vis).c, .int .i64 (vecOf d.vis).d, .int .i64 (vecOf d.vis).e, .slice ao m cp]] w' fun e w'' => e = .returned (.string ⟨(ansT n i (vecOf d.vis) ((beyondL d.hs xq v).map trOf)).toArray⟩) ∧ Hid (Below w'.heap.size w' w''))) := fun w6 hB6 => by
    refine (beyond_any (hP4.below hB6) hR v).mono ?_
    rintro e w7 ⟨lv, zs, rfl, hz1, hz2, hz3, hB7⟩
    obtain ⟨ao, cp, rfl, -⟩ := Row.shape (ownsRow_low hz1 (Nat.zero_le _))
    have hB' : Below w4.heap.size w4 w7 := hB6.trans (hB7.mono hB6.size)
    have hzl : zs.length ≤ 50000000 := by
      have a := congrArg List.length hz2
      have c := segs_few d.hs (learnX xq j v) v 5
      simp only [List.length_map] at a
      have e5 : (beyondL d.hs (learnX xq j v) v).length ≤ 5 * d.hs.length := c
      omega
    have hwa := write_answer w7 n i w6.heap.size (vecOf d.vis) zs (.slice ao zs.length cp) hn5 (by omega) (fun k hk => by
      obtain ⟨r, -, rfl⟩ := vec_mem hk
      have := hv64 r; omega) hz1 hzl (fun x hx => by
      have hx1 : x.1 ∈ (beyondL d.hs (learnX xq j v) v).map trOf := by rw [← hz2]; exact List.mem_map.2 ⟨x, hx, rfl⟩
      obtain ⟨u, hu, e⟩ := List.mem_map.1 hx1
      obtain ⟨r, -, hu2⟩ := List.mem_flatMap.1 hu
      have hu3 : u ∈ d.hs := (List.mem_filter.1 (List.mem_of_mem_drop hu2)).1
      exact ⟨by rw [← e]; exact hfit u hu3, (hz3 x hx).later hB7⟩) (ht4.later hB')
    rw [hz2] at hwa
    exact ⟨ao, zs.length, cp, rfl, ⟨cell_later hB' c1, Nat.lt_of_lt_of_le hlb hB'.size⟩, hB', hwa⟩
  generalize hTT : (ansT n i (vecOf d.vis) ((beyondL d.hs xq v).map trOf)) = tt at HBY
  obtain ⟨vv, hvv⟩ : ∃ vv, vecOf d.vis = vv := ⟨_, rfl⟩
  rw [hvv] at HHD HBY
  have HPost : Hid (∀ w', Below w4.heap.size w4 w' → AnsEnd (learnX xq j v) w p b n i d v (.returned (.tuple #[.string ⟨tt.toArray⟩, .int .i64 0])) w') := fun w' hB => by
    have eb : beyondL d.hs (learnX xq j v) v = beyondL d.hs xq v := rfl
    refine ⟨by rw [eb, hTT], RepIn.move (p := own2q p w.heap.size others) ⟨sb4, st4, sl4, tbs4, mbs4, hv4, kn4, hP4⟩ fun q hq hne => ⟨hB.block q hq, ?_⟩, ⟨?_, fun _ _ => rfl⟩⟩
    · by_cases c : q < w.heap.size
      · rw [own2q_low c]
      · rw [own2q_high (by omega)] at hne; exact absurd rfl hne
    · refine ((Touch.ofBelow hB03).trans (hq4.touch.mono fun q hq e => ?_)).trans (Touch.ofBelow hB)
      by_cases c : q < w.heap.size
      · left; rw [own2q_low c] at e; exact e
      · exact Or.inr (by omega)
  clear hP4 hq4 bA bA4 hB03 hB3 ht4 hv64 hR hfit ht h6 hTT hvv
  go_upto_region 5 with (fail)
  go_region_with (first | (go_at_call 72; refine HHD.out.mono ?_; rintro e w6 ⟨rfl, ⟨k1, k2, k3, k4, k5, k6, k7, k8⟩, hB6⟩) | (go_at_call 78; refine (HBY.out _ hB6.out).mono ?_; rintro e w7 ⟨ao, m, cp, rfl, ⟨q1, q2⟩, hB7, hW7⟩) | (go_at_call 77; refine hW7.out.mono ?_; rintro e w8 ⟨rfl, hB8⟩))
  all_goals
    have HB9 := hide (hB7.out.trans (hB8.out.mono hB7.out.size))
    clear hB6 hB7 hB8 hW7 k1 k2 k3 k4 k5 k6 k7 k8 q1 q2 z0 z1 z2 z3 z4 c1
    go_wp2_with fail
    go_ret2
    exact HPost.out _ HB9.out
end Go.Proofs.YtiplgdkpnhamaaaGreatDoor.Tv

namespace Go.Proofs.YtiplgdkpnhamaaaGreatDoor.Tv
open Go.RowKit
theorem HistG.seq_le {n : Nat} {hs : List RTx} (h : HistG n hs) {u : RTx} (hu : u ∈ hs) : 1 ≤ u.seq ∧ u.seq ≤ cntR hs u.rep.toNat := by
  obtain ⟨a, ha, rfl⟩ := List.mem_iff_getElem.1 hu
  have h1 := (h.tx a ha).seq
  have h2 := (h.seqLt (T := hs.length) ha).2 ha
  rw [List.take_length] at h2
  exact ⟨by omega, h2⟩
theorem HistG.has {n : Nat} {hs : List RTx} (h : HistG n hs) {r : Nat} {s : Int} (h1 : 1 ≤ s) (h2 : s ≤ cntR hs r) : ∃ u, u ∈ hs ∧ u.rep = (r : Int) ∧ u.seq = s := by
  have hk : s.toNat - 1 < (filR hs r).length := by rw [fil_len]; omega
  have f := fil_seq h r _ hk
  exact ⟨_, (fil_mem (List.getElem_mem hk)).1, f.2, by rw [f.1]; omega⟩
theorem mem_seen {n : Nat} {ts hs : List RTx} (hT : HistG n ts) (hH : HistG n hs) (hm : ∀ v, v ∈ hs → v ∈ ts) {u : RTx} (hu : u ∈ ts) : u ∈ hs ↔ u.seq ≤ cntR hs u.rep.toNat := by
  constructor
  · exact fun h => (hH.seq_le h).2
  · intro h
    obtain ⟨v, h1, h2, h3⟩ := hH.has (hT.seq_le hu).1 h
    rw [hT.one_ hu (hm v h1) (by omega) h3.symm]
    exact h1
theorem HistG.few {n : Nat} {hs ts : List RTx} (h : HistG n hs) (hm : ∀ u, u ∈ hs → u ∈ ts) : hs.length ≤ ts.length := by
  classical
  refine nodup_len (l := hs) (m := ts) ?_ hm
  rw [List.Nodup, List.pairwise_iff_getElem]
  intro i j hi hj hij e
  have := h.inj hi hj (by rw [e]) (by rw [e])
  omega
end Go.Proofs.YtiplgdkpnhamaaaGreatDoor.Tv

namespace Go.Proofs.YtiplgdkpnhamaaaGreatDoor.Tv
open Go.RowKit
end Go.Proofs.YtiplgdkpnhamaaaGreatDoor.Tv

namespace Go.Proofs.YtiplgdkpnhamaaaGreatDoor.Tv
open Go.RowKit
theorem PR.hist {xq : DX} {w : World} {o : Nat → Tag} {t : Tag} {b n i : Nat} {d : DRep} (h : PR xq w o t b n i d) : HistG n d.hs ∧ d.vis = visOf n d.hs ∧ i < n := by
  obtain ⟨p, h1, sb, st, sl, tbs, mbs, hv, kn, h2⟩ := h
  exact ⟨h2.ok.hist, h2.ok.vis, h2.ok.hi⟩
theorem summary_pr {xq : DX} {w : World} {o : Nat → Tag} {t : Tag} {b n i : Nat} {d : DRep} (h : PR xq w o t b n i d) (hR : d.hs.length ≤ 1100000) (ht : Tabs w) :
    Calls Tryz.prog 37 #[bptr b] w fun e w' => e = .returned (.string ⟨(sumT n i d.vis).toArray⟩) ∧ Below w.heap.size w w' := by
  obtain ⟨p, h1, h2⟩ := h
  exact summary_call h2 hR ht
theorem answer_pr {xq : DX} {w : World} {o : Nat → Tag} {t : Tag} {b n i : Nat} {d : DRep} (h : PR xq w o t b n i d) (hR : d.hs.length ≤ 1100000) {j : Nat} (hj : j < n) (l : List Int) (hl : l.length = n) (hmo : ∀ k (hk : k < l.length), 0 ≤ l[k] ∧ l[k] ≤ maxSeq) (hsz : (sumT n j l).length ≤ 200000000000) (ht : Tabs w) (h6 : ∀ q, q < 6 → o q ≠ t) :
    Calls Tryz.prog 40 #[bptr b, .string ⟨(sumT n j l).toArray⟩] w fun e w' => e = .returned (.tuple #[.string ⟨(ansT n i (vecOf d.vis) ((beyondL d.hs xq (vecOf l)).map trOf)).toArray⟩, .int .i64 0]) ∧ ∃ o', PR (learnX xq j (vecOf l)) w' o' t b n i d ∧ TouchT (· = t) w o w' o' := by
  obtain ⟨hist, -, -⟩ := h.hist
  obtain ⟨p, h1, h2⟩ := h
  have hn5 := hist.n5
  have hrd := read_text_sum w n j ⟨(sumT n j l).toArray⟩ l true hn5 hj hl (by show (sumT n j l).toArray.size ≤ _; simpa using hsz) (by unfold Rem; rw [if_pos rfl]; exact ⟨_, by show (sumT n j l).toArray.toList = _; rw [List.toList_toArray]; rfl⟩) hmo ht
  refine (answer_ok h2 hR _ j (vecOf l) (by omega) ht (fun q hq => ?_) (fun u hu => tr_fit hist hR hu) (hrd.mono ?_)).mono ?_
  · by_cases c : p q = .other
    · exact c
    · exact absurd (h1 q (by have := ht.room; omega) c) (h6 q hq)
  · rintro e w' ⟨hB, ⟨-, rfl⟩ | ⟨hno, -⟩⟩
    · exact ⟨hB, rfl⟩
    · exact absurd (by show (sumT n j l).toArray.toList = _; rw [List.toList_toArray]) hno
  · rintro e w' ⟨rfl, h3, h4⟩
    exact ⟨rfl, PR.outW h1 h3 ⟨h4.touch.mono fun q _ e => by rw [e]; simp, fun q hq e => by rw [← h4.same q hq]; exact e⟩⟩
theorem receive_pr {xq : DX} {w : World} {o : Nat → Tag} {t : Tag} {b n i : Nat} {d : DRep} (h : PR xq w o t b n i d) {ts hs us : List RTx} (hT : HistG n ts) (hd : ∀ u, u ∈ d.hs → u ∈ ts) (hH : HistG n hs) (hm : ∀ u, u ∈ hs → u ∈ ts) (x : DX) (v : Vec) (hus : us = beyondL hs x v) (hM : ts.length ≤ 1100000) {j : Nat} (hj : j < n)
    (hsz : (ansT n j (vecOf (visOf n hs)) (us.map trOf)).length ≤ 200000000000) (ht : Tabs w) :
    Calls Tryz.prog 41 #[bptr b, .string ⟨(ansT n j (vecOf (visOf n hs)) (us.map trOf)).toArray⟩] w fun e w' => e = .returned (.int .i64 0) ∧ ∃ o' d', PR (learnX xq j (vecOf (visOf n hs))) w' o' t b n i d' ∧ TouchT (· = t) w o w' o' ∧ RecD d us d' := by
  obtain ⟨p, h1, h2⟩ := h
  have hn5 := hT.n5
  have husT : ∀ u, u ∈ us → u ∈ ts := fun u hu => hm u (bey_mem (x := x) (v := v) (hus ▸ hu))
  have hN : hs.length ≤ 1100000 := Nat.le_trans (hH.few hm) hM
  have hA : AnsOk n j (vecOf (visOf n hs)) (ansF hs x v) (ansC hs x v) := bey_ans hj hH hN x v
  have hL : upToL (ansF hs x v) (ansC hs x v) 5 = us.map trOf := by rw [hus]; exact ans_list hs x v
  have hrd : ∀ W, Below w.heap.size w W → Calls Tryz.prog 79 #[.func (.func 80) #[] #[], .string ⟨(ansT n j (vecOf (visOf n hs)) (us.map trOf)).toArray⟩, .int .i64 n] W fun e w' => Below W.heap.size W w' ∧ ∃ lv, e = .returned (.tuple #[ansVal j (vecOf (visOf n hs)) lv, .int .i64 0]) ∧ GotL W (us.map trOf) lv w' := fun W hB => by
    refine (read_text_ans W n j _ (vecOf (visOf n hs)) (us.map trOf) (((ansT n j (vecOf (visOf n hs)) (us.map trOf)).toArray).toList = ansT n j (vecOf (visOf n hs)) (us.map trOf)) fun W' hB' => ?_).mono ?_
    · have := read_answer W' n j ⟨(ansT n j (vecOf (visOf n hs)) (us.map trOf)).toArray⟩ (vecOf (visOf n hs)) (ansF hs x v) (ansC hs x v) true hA (by show (ansT n j (vecOf (visOf n hs)) (us.map trOf)).toArray.size ≤ _; simpa using hsz) (by unfold Rem; rw [if_pos rfl, hL]; exact ⟨_, by show (ansT n j (vecOf (visOf n hs)) (us.map trOf)).toArray.toList = _; rw [List.toList_toArray]; exact ansT_eq ..⟩) ((ht.later hB).later hB')
      rw [hL] at this
      exact this
    · rintro e w' ⟨hB', ⟨-, lv, rfl, hg⟩ | ⟨hno, -⟩⟩
      · exact ⟨hB', lv, rfl, hg⟩
      · exact absurd (by rw [List.toList_toArray]) hno
  have hR : ∀ vs, (∀ v, v ∈ vs → v ∈ us) → HistG n (passD d vs).hs → (passD d vs).hs.length ≤ 1100000 := fun vs hvs hp => Nat.le_trans (hp.few fun u hu => (passD_mem vs d u hu).elim (hd u) fun h => husT u (hvs u h)) hM
  have hU : us.length ≤ 50000000 := by
    have h1 := segs_few hs x v 5
    rw [hus]
    exact Nat.le_trans h1 (by omega)
  refine (receive_ok h2 us hU hR _ j (vecOf (visOf n hs)) (by omega) hrd (fun u hu => ?_) (fun nd hnd => ?_) (by rw [hus]; exact bey_dots hH x v) (hnew_of hT hd husT)).mono ?_
  · obtain ⟨a, ha, e⟩ := List.mem_iff_getElem.1 (bey_mem (x := x) (v := v) (hus ▸ hu))
    have hk := hH.tx a ha
    have h3 := cntR_le (hs.take a) hs[a].rep.toNat
    rw [List.length_take] at h3
    have h4 := hk.seq
    have h5 := hk.rN
    rw [e] at h3 h4 h5
    omega
  · exact bey_small hH hN x v nd (by rw [← hus]; exact hnd)
  · rintro e w' ⟨rfl, p', ys, xs, h3, h4, h5, h6, h7⟩
    obtain ⟨o', h8, h9⟩ := PR.outW h1 h6 h7
    exact ⟨rfl, o', _, h8, h9, bey_rec hH x v hus d h3 h4 h5⟩
end Go.Proofs.YtiplgdkpnhamaaaGreatDoor.Tv

namespace Go.Proofs.YtiplgdkpnhamaaaGreatDoor.Tv
open Go.RowKit
theorem sum_size {n j : Nat} {l : List Int} (hn : n ≤ 5) (hj : j < n) (hl : l.length = n) (h : ∀ k, k ∈ l → -9223372036854775808 ≤ k ∧ k ≤ 9223372036854775807) : (sumT n j l).length ≤ 200 := by
  have h1 := seal_len (headT 115 n j l)
  have h2 := vec_len l h
  have h3 := num_len (k := (n : Int)) (by omega) (by omega)
  have h4 := num_len (k := (j : Int)) (by omega) (by omega)
  show (headT 115 n j l ++ sealT (headT 115 n j l)).length ≤ _
  rw [List.length_append]
  have h5 : (headT 115 n j l).length = (numT n).length + ((numT j).length + (vecT l).length) + 1 := by simp [headT]
  omega
theorem tr_len {n : Nat} {hs : List RTx} (h : HistG n hs) (hN : hs.length ≤ 1100000) {u : RTx} (hu : u ∈ hs) : (txT n (trOf u).saw (trOf u).wr).length ≤ 1300 := by
  have hf := tr_fit h hN hu
  obtain ⟨j, hj, e⟩ := List.mem_iff_getElem.1 hu
  have hk := h.tx j hj
  rw [e] at hk
  obtain ⟨k1, -, -, k4⟩ := own_keysOf hk.ops hk.one
  have h1 := vec_take_len hf.saw (k := n) h.n5
  have hw : (trOf u).wr = ownOf u.ops := rfl
  rw [← hw] at k1 k4
  have h2 := num_len (k := ((keysOf (trOf u).wr).length : Int)) (by omega) (by omega)
  have h3 := wrs_len (m := (trOf u).wr) (ks := keysOf (trOf u).wr) fun p hp => by
    obtain ⟨x, e⟩ := Option.isSome_iff_exists.1 ((k1.2 p).1 hp)
    exact ⟨x, e, hf.wr p x e⟩
  simp only [txT, List.length_append]
  omega
theorem trs_len {n : Nat} {hs : List RTx} (h : HistG n hs) (hN : hs.length ≤ 1100000) : ∀ {us : List RTx}, (∀ u, u ∈ us → u ∈ hs) → (txsT n (us.map trOf)).length ≤ 1300 * us.length
  | [], _ => by simp [txsT]
  | a :: l, hu => by
    have h1 := trs_len h hN (us := l) fun x hx => hu x (by simp [hx])
    have h2 := tr_len h hN (hu a (by simp))
    simp only [txsT, List.map_cons, List.flatMap_cons, List.length_append, List.length_cons] at h1 ⊢
    omega
theorem bey_few (hs : List RTx) (x : DX) (v : Vec) : (beyondL hs x v).length ≤ 5 * hs.length := segs_few hs x v 5
theorem ans_size {n j : Nat} {hs us : List RTx} (h : HistG n hs) (hN : hs.length ≤ 1100000) (hj : j < n) (hu : ∀ u, u ∈ us → u ∈ hs) (hl : us.length ≤ 5 * hs.length) : (ansT n j (vecOf (visOf n hs)) (us.map trOf)).length ≤ 200000000000 := by
  have hn5 := h.n5
  have hvis : ∀ k, k ∈ (vecOf (visOf n hs)).list → -9223372036854775808 ≤ k ∧ k ≤ 9223372036854775807 := fun k hk => by
    obtain ⟨r, hr, rfl⟩ := vec_mem hk
    rw [vecOf_get (by rw [visOf_len]; exact hn5), Int.toNat_natCast]
    have := cntR_le hs r
    by_cases c : r < n
    · rw [visOf_get c]; omega
    · rw [visOf_out (by omega)]; omega
  have hrep : ∀ t, t ∈ us.map trOf → t.rep < 5 := fun t ht => by
    obtain ⟨u, hu', rfl⟩ := List.mem_map.1 ht
    exact (tr_fit h hN (hu u hu')).rep
  have hcnt : ∀ k, k ∈ (countsOf (us.map trOf)).list → -9223372036854775808 ≤ k ∧ k ≤ 9223372036854775807 := fun k hk => by
    obtain ⟨r, hr, rfl⟩ := vec_mem hk
    have := counts_small (us.map trOf) hrep r
    rw [List.length_map] at this
    omega
  have h1 := vec_take_len hvis (k := n) hn5
  have h2 := vec_take_len hcnt (k := n) hn5
  have h3 := num_len (k := (n : Int)) (by omega) (by omega)
  have h4 := num_len (k := (j : Int)) (by omega) (by omega)
  have h5 := trs_len h hN hu
  have h7 : (ansBody n j (vecOf (visOf n hs)) (us.map trOf)).length = (numT n).length + ((numT j).length + (vecT ((vecOf (visOf n hs)).list.take n)).length) + 1 + ((vecT ((countsOf (us.map trOf)).list.take n)).length + (txsT n (us.map trOf)).length) := by simp [ansBody, headT]; omega
  rw [ansT_eq, List.length_append]
  have h6 := seal_len (ansBody n j (vecOf (visOf n hs)) (us.map trOf))
  omega
theorem vis_small {n : Nat} {hs : List RTx} (hN : hs.length ≤ 1100000) : ∀ k (hk : k < (visOf n hs).length), 0 ≤ (visOf n hs)[k] ∧ (visOf n hs)[k] ≤ maxSeq := fun k hk => by
  have hkn : k < n := by rwa [visOf_len] at hk
  have h1 := visOf_get (hs := hs) hkn
  rw [List.getD_eq_getElem?_getD, List.getElem?_eq_getElem hk] at h1
  have h2 : (visOf n hs)[k] = cntR hs k := h1
  have := cntR_le hs k
  unfold maxSeq
  omega
theorem answer_of {xq : DX} {w : World} {o : Nat → Tag} {t : Tag} {b n i : Nat} {d : DRep} (h : PR xq w o t b n i d) (hR : d.hs.length ≤ 1100000) {j : Nat} (hj : j < n) {hs : List RTx} (hN : hs.length ≤ 1100000) (ht : Tabs w) (h6 : ∀ q, q < 6 → o q ≠ t) :
    Calls Tryz.prog 40 #[bptr b, .string ⟨(sumT n j (visOf n hs)).toArray⟩] w fun e w' => e = .returned (.tuple #[.string ⟨(ansT n i (vecOf (visOf n d.hs)) ((beyondL d.hs xq (vecOf (visOf n hs))).map trOf)).toArray⟩, .int .i64 0]) ∧ ∃ o', PR (learnX xq j (vecOf (visOf n hs))) w' o' t b n i d ∧ TouchT (· = t) w o w' o' := by
  obtain ⟨hist, hv, -⟩ := h.hist
  have hs1 := vis_small (n := n) hN
  have hsz := sum_size (j := j) hist.n5 hj (visOf_len n hs) fun k hk => by
    obtain ⟨a, ha, rfl⟩ := List.mem_iff_getElem.1 hk
    have := hs1 a ha
    unfold maxSeq at this
    omega
  have := answer_pr h hR hj (visOf n hs) (visOf_len n hs) hs1 (by omega) ht h6
  rwa [hv] at this
theorem receive_of {xq : DX} {w : World} {o : Nat → Tag} {t : Tag} {b n i : Nat} {d : DRep} (h : PR xq w o t b n i d) {ts hs : List RTx} (hT : HistG n ts) (hd : ∀ u, u ∈ d.hs → u ∈ ts) (hH : HistG n hs) (hm : ∀ u, u ∈ hs → u ∈ ts) (x : DX) (v : Vec) (hM : ts.length ≤ 1100000) {j : Nat} (hj : j < n) (ht : Tabs w) :
    Calls Tryz.prog 41 #[bptr b, .string ⟨(ansT n j (vecOf (visOf n hs)) ((beyondL hs x v).map trOf)).toArray⟩] w fun e w' => e = .returned (.int .i64 0) ∧ ∃ o' d', PR (learnX xq j (vecOf (visOf n hs))) w' o' t b n i d' ∧ TouchT (· = t) w o w' o' ∧ RecD d (beyondL hs x v) d' :=
  receive_pr h hT hd hH hm x v rfl hM hj (ans_size hH (Nat.le_trans (hH.few hm) hM) hj (fun _ hu => bey_mem hu) (bey_few hs x v)) ht
end Go.Proofs.YtiplgdkpnhamaaaGreatDoor.Tv

namespace Go.Proofs.YtiplgdkpnhamaaaGreatDoor.Tv
open Go.RowKit
def put {α : Type} (f : Nat → α) (i : Nat) (x : α) : Nat → α := fun j => if j = i then x else f j
theorem put_same {α : Type} (f : Nat → α) (i : Nat) (x : α) : put f i x i = x := by simp [put]
theorem put_other {α : Type} {f : Nat → α} {i j : Nat} {x : α} (h : j ≠ i) : put f i x j = f j := by simp [put, h]
theorem cnt_sub {n : Nat} {hs ts : List RTx} (hT : HistG n ts) (h : HistG n hs) (hm : ∀ u, u ∈ hs → u ∈ ts) (k : Nat) : cntR hs k ≤ cntR ts k := by
  by_cases c : cntR hs k = 0
  · omega
  · obtain ⟨u, h1, h2, h3⟩ := h.has (r := k) (s := cntR hs k) (by omega) (Int.le_refl _)
    have := (hT.seq_le (hm u h1)).2
    rw [show u.rep.toNat = k by omega, h3] at this
    omega
theorem cntR_app (a b : List RTx) (k : Nat) : cntR (a ++ b) k = cntR a k + cntR b k := by simp [cntR]
theorem RecD.more {d d' : DRep} {us : List RTx} (h : RecD d us d') : (∃ l, d'.hs = d.hs ++ l) ∧ d'.opn = d.opn ∧ ∀ u, u ∈ d'.hs → u ∈ d.hs ∨ u ∈ us := by
  obtain ⟨zs, rfl, hp, -⟩ := h
  exact ⟨passD_pre zs d, passD_opn d zs, fun u hu => (passD_mem zs d u hu).imp id fun h => hp.mem_iff.1 h⟩
theorem RecD.cnt {d d' : DRep} {us : List RTx} (h : RecD d us d') (k : Nat) : cntR d.hs k ≤ cntR d'.hs k := by
  obtain ⟨⟨l, e⟩, -, -⟩ := h.more
  rw [e, cntR_app]; omega
structure Net (n : Nat) (w : World) (o : Nat → Tag) (T : Nat → Tag) (B : Nat → Nat) (ts : List RTx) (D : Nat → DRep) (X : Nat → DX) : Prop where
  hist : HistG n ts
  few : ts.length ≤ 1100000
  dif : ∀ i j, i < n → j < n → T i = T j → i = j
  pr : ∀ i, i < n → PR (X i) w o (T i) (B i) n i (D i)
  sub : ∀ i, i < n → ∀ u, u ∈ (D i).hs → u ∈ ts
  own : ∀ i, i < n → cntR ts i = cntR (D i).hs i
  tabs : Tabs w
  low : ∀ q, q < 6 → ∀ i, i < n → o q ≠ T i
  gone : ∀ i k r, i < n → k < n → (X i).gone r ≤ cntR (D k).hs r
def grp (n : Nat) (T : Nat → Tag) (t : Tag) : Prop := ∃ i, i < n ∧ t = T i
section
variable {n : Nat} {w w' : World} {o o' : Nat → Tag} {T : Nat → Tag} {B : Nat → Nat} {ts ts' : List RTx} {D : Nat → DRep} {X : Nat → DX}
theorem Net.move (h : Net n w o T B ts D X) (hm : ∀ q, q < w.heap.size → (q < 6 ∨ grp n T (o q)) → w'.heap[q]? = w.heap[q]? ∧ o' q = o q) : Net n w' o' T B ts D X :=
  ⟨h.hist, h.few, h.dif, fun i hi => (h.pr i hi).move fun q hq e => by
    obtain ⟨a, b⟩ := hm q hq (Or.inr ⟨i, hi, e⟩)
    exact ⟨a, b.trans e⟩, h.sub, h.own, h.tabs.kept fun q hq => (hm q (by have := h.tabs.room; omega) (Or.inl hq)).1, fun q hq i hi => by
    rw [(hm q (by have := h.tabs.room; omega) (Or.inl hq)).2]; exact h.low q hq i hi, h.gone⟩
theorem Net.below (h : Net n w o T B ts D X) (hb : Below w.heap.size w w') : Net n w' o T B ts D X := h.move fun q hq _ => ⟨hb.block q hq, rfl⟩
theorem Net.len (h : Net n w o T B ts D X) {i : Nat} (hi : i < n) : (D i).hs.length ≤ 1100000 := Nat.le_trans ((h.pr i hi).hist.1.few (h.sub i hi)) h.few
theorem Net.turn (h : Net n w o T B ts D X) {i : Nat} (hi : i < n) {d' : DRep} {x' : DX} (hp : PR x' w' o' (T i) (B i) n i d') (ht : TouchT (· = T i) w o w' o') (hT : HistG n ts') (hf : ts'.length ≤ 1100000) (hsub : ∀ u, u ∈ ts → u ∈ ts') (hd : ∀ u, u ∈ d'.hs → u ∈ ts') (hown : cntR ts' i = cntR d'.hs i) (hoth : ∀ k, k < n → k ≠ i → cntR ts' k = cntR ts k) (hmono : ∀ r, cntR (D i).hs r ≤ cntR d'.hs r) (hg : ∀ k r, k < n → x'.gone r ≤ cntR (put D i d' k).hs r) : Net n w' o' T B ts' (put D i d') (put X i x') := by
  have hroom := h.tabs.room
  refine ⟨hT, hf, h.dif, fun k hk => ?_, fun k hk u hu => ?_, fun k hk => ?_, h.tabs.kept fun q hq => ht.touch.block q (by omega) (h.low q hq i hi), fun q hq k hk => by rw [ht.same q (by omega)]; exact h.low q hq k hk, fun a k r ha hk => ?_⟩
  · by_cases c : k = i
    · subst c; rw [put_same, put_same]; exact hp
    · rw [put_other c, put_other c]
      exact (h.pr k hk).move fun q hq e => ⟨ht.touch.block q hq (by rw [e]; exact fun x => c (h.dif k i hk hi x)), (ht.same q hq).trans e⟩
  · by_cases c : k = i
    · subst c; rw [put_same] at hu; exact hd u hu
    · rw [put_other c] at hu; exact hsub u (h.sub k hk u hu)
  · by_cases c : k = i
    · subst c; rw [put_same]; exact hown
    · rw [put_other c, hoth k hk c]; exact h.own k hk
  · by_cases c : a = i
    · subst c; rw [put_same]; exact hg k r hk
    · rw [put_other c]
      have := h.gone a k r ha hk
      by_cases c2 : k = i
      · subst c2; rw [put_same]; have := hmono r; omega
      · rw [put_other c2]; exact this
theorem Net.still (h : Net n w o T B ts D X) {i : Nat} (hi : i < n) {d' : DRep} {x' : DX} (hp : PR x' w' o' (T i) (B i) n i d') (ht : TouchT (· = T i) w o w' o') (he : d'.hs = (D i).hs) (hx : x'.gone = (X i).gone) : Net n w' o' T B ts (put D i d') (put X i x') :=
  h.turn hi hp ht h.hist h.few (fun _ hu => hu) (by rw [he]; exact h.sub i hi) (by rw [he]; exact h.own i hi) (fun _ _ _ => rfl) (fun r => by rw [he]; exact Nat.le_refl _) (fun k r hk => by
    rw [hx]
    by_cases c : k = i
    · subst c; rw [put_same, he]; exact h.gone k k r hi hi
    · rw [put_other c]; exact h.gone i k r hi hk)
theorem Net.more (h : Net n w o T B ts D X) {i : Nat} (hi : i < n) {d' : DRep} {x' : DX} {u : RTx} (hp : PR x' w' o' (T i) (B i) n i d') (ht : TouchT (· = T i) w o w' o') (he : d'.hs = (D i).hs ++ [u]) (hr : u.rep = i) (hx : x'.gone = (X i).gone) (hf : ts.length + 1 ≤ 1100000) : Net n w' o' T B (ts ++ [u]) (put D i d') (put X i x') := by
  have hD := (h.pr i hi).hist.1
  have hnew : NewOk n (D i).hs u := by
    have hH := hp.hist.1
    rw [he] at hH
    have := hH.tx (D i).hs.length (by simp)
    rwa [List.take_left' rfl, List.getElem_append_right (Nat.le_refl _), List.getElem_singleton] at this
  have hrn : u.rep.toNat = i := by omega
  have hn : NewOk n ts u := by
    refine ⟨hnew.r0, hnew.rn, ?_, ⟨hnew.saw.len, hnew.saw.pos, fun r => ?_, fun v hv hs r => ?_⟩, hnew.ops, hnew.one⟩
    · have := hnew.seq
      rw [hrn] at this ⊢
      rw [this, h.own i hi]
    · have := hnew.saw.le r
      have := cnt_sub h.hist hD (h.sub i hi) r
      omega
    · refine hnew.saw.clo v ?_ hs r
      rw [mem_seen h.hist hD (h.sub i hi) hv]
      exact Int.le_trans (sees_le.1 hs) (hnew.saw.le _)
  refine h.turn hi hp ht (h.hist.snoc hn) (by simpa using hf) (fun v hv => by simp [hv]) (fun v hv => ?_) ?_ (fun k _ hk => ?_) (fun r => ?_) (fun k r hk => ?_)
  · rw [he] at hv
    rcases List.mem_append.1 hv with hv | hv
    · simp [h.sub i hi v hv]
    · simp [List.mem_singleton.1 hv]
  · rw [he, cntR_snoc, cntR_snoc, h.own i hi]
  · rw [cntR_snoc, if_neg (by omega)]; rfl
  · rw [he, cntR_snoc]; omega
  · rw [hx]
    by_cases c : k = i
    · subst c; rw [put_same, he, cntR_snoc]; have := h.gone k k r hi hi; omega
    · rw [put_other c]; exact h.gone i k r hi hk
theorem touch_grp {i : Nat} (h : TouchT (· = T i) w o w' o') (hi : i < n) : TouchT (grp n T) w o w' o' := h.mono fun _ e => ⟨i, hi, e⟩
theorem Net.summary (h : Net n w o T B ts D X) {b : Nat} (hb : b < n) : Calls Tryz.prog 37 #[bptr (B b)] w fun e w' => e = .returned (.string ⟨(sumT n b (visOf n (D b).hs)).toArray⟩) ∧ Net n w' o T B ts D X ∧ TouchT (grp n T) w o w' o := by
  have a := summary_pr (h.pr b hb) (h.len hb) h.tabs
  rw [(h.pr b hb).hist.2.1] at a
  refine a.mono ?_
  rintro e w' ⟨rfl, hB⟩
  exact ⟨rfl, h.below hB, (TouchT.refl _ _ _).below hB⟩
theorem Net.answer (h : Net n w o T B ts D X) {a : Nat} (ha : a < n) {hs : List RTx} (hH : HistG n hs) (hm : ∀ u, u ∈ hs → u ∈ ts) {b : Nat} (hb : b < n) : Calls Tryz.prog 40 #[bptr (B a), .string ⟨(sumT n b (visOf n hs)).toArray⟩] w fun e w' => e = .returned (.tuple #[.string ⟨(ansT n a (vecOf (visOf n (D a).hs)) ((beyondL (D a).hs (X a) (vecOf (visOf n hs))).map trOf)).toArray⟩, .int .i64 0]) ∧ ∃ o', Net n w' o' T B ts D (put X a (learnX (X a) b (vecOf (visOf n hs)))) ∧ TouchT (grp n T) w o w' o' := by
  refine (answer_of (h.pr a ha) (h.len ha) hb (Nat.le_trans (hH.few hm) h.few) h.tabs fun q hq => h.low q hq a ha).mono ?_
  rintro e w' ⟨rfl, o', h1, h2⟩
  refine ⟨rfl, o', ?_, touch_grp h2 ha⟩
  have := h.still ha h1 h2 rfl rfl
  have e : put D a (D a) = D := by funext k; by_cases c : k = a <;> simp [put, c]
  rwa [e] at this
theorem Net.receive (h : Net n w o T B ts D X) {b : Nat} (hb : b < n) {hs : List RTx} (hH : HistG n hs) (hm : ∀ u, u ∈ hs → u ∈ ts) (x : DX) (v : Vec) {a : Nat} (ha : a < n) : Calls Tryz.prog 41 #[bptr (B b), .string ⟨(ansT n a (vecOf (visOf n hs)) ((beyondL hs x v).map trOf)).toArray⟩] w fun e w' => e = .returned (.int .i64 0) ∧ ∃ o' d', Net n w' o' T B ts (put D b d') (put X b (learnX (X b) a (vecOf (visOf n hs)))) ∧ TouchT (grp n T) w o w' o' ∧ RecD (D b) (beyondL hs x v) d' := by
  refine (receive_of (h.pr b hb) h.hist (h.sub b hb) hH hm x v h.few ha h.tabs).mono ?_
  rintro e w' ⟨rfl, o', d', h1, h2, h3⟩
  refine ⟨rfl, o', d', ?_, touch_grp h2 hb, h3⟩
  have hsub : ∀ u, u ∈ d'.hs → u ∈ ts := fun u hu => (h3.more.2.2 u hu).elim (h.sub b hb u) fun hu => hm u (bey_mem hu)
  have hc := h3.cnt
  refine h.turn hb h1 h2 h.hist h.few (fun _ hu => hu) hsub ?_ (fun _ _ _ => rfl) hc (fun k r hk => ?_)
  · have h4 := cnt_sub h.hist h1.hist.1 hsub b
    have h5 := hc b
    have h6 := h.own b hb
    omega
  · show (X b).gone r ≤ _
    by_cases c : k = b
    · subst c; rw [put_same]; have := h.gone k k r hb hb; have := hc r; omega
    · rw [put_other c]; exact h.gone b k r hb hk
end
end Go.Proofs.YtiplgdkpnhamaaaGreatDoor.Tv

namespace Go.Proofs.YtiplgdkpnhamaaaGreatDoor.Tv
open Go.RowKit
def TellEnd (n : Nat) (w : World) (o : Nat → Tag) (T : Nat → Tag) (B : Nat → Nat) (ts : List RTx) (D : Nat → DRep) (X : Nat → DX) (a b : Nat) (e : Ending) (w' : World) : Prop :=
  e = .returned (.bool true) ∧ ∃ o' d' X', Net n w' o' T B ts (put D b d') X' ∧ TouchT (grp n T) w o w' o' ∧ RecD (D b) (beyondL (D a).hs (X a) (vecOf (visOf n (D b).hs))) d' ∧ ∀ k, (X' k).gone = (X k).gone
set_option maxRecDepth 100000 in
set_option maxHeartbeats 4000000 in
theorem tells_any {n : Nat} {w : World} {o : Nat → Tag} {T : Nat → Tag} {B : Nat → Nat} {ts : List RTx} {D : Nat → DRep} {X : Nat → DX} (h : Net n w o T B ts D X) {a b : Nat} (ha : a < n) (hb : b < n) :
    Calls Tryz.prog 39 #[bptr (B a), bptr (B b)] w (TellEnd n w o T B ts D X a b) := by
  have hA := (h.pr a ha).hist.1
  have hB := (h.pr b hb).hist.1
  have hc1 := h.summary hb
  have hc2 : ∀ w1, Net n w1 o T B ts D X → _ := fun w1 (h1 : Net n w1 o T B ts D X) => h1.answer ha hB (h.sub b hb) hb
  have hc3 : ∀ w2 o2, Net n w2 o2 T B ts D (put X a (learnX (X a) b (vecOf (visOf n (D b).hs)))) → _ := fun w2 o2 (h2 : Net n w2 o2 T B ts D (put X a (learnX (X a) b (vecOf (visOf n (D b).hs))))) => h2.receive hb hA (h.sub a ha) (X a) (vecOf (visOf n (D b).hs)) ha
  have hE : ∀ w3 o2 o3 d' w1 w2, TouchT (grp n T) w o w1 o → TouchT (grp n T) w1 o w2 o2 → Net n w3 o3 T B ts (put D b d') (put (put X a (learnX (X a) b (vecOf (visOf n (D b).hs)))) b (learnX (put X a (learnX (X a) b (vecOf (visOf n (D b).hs))) b) a (vecOf (visOf n (D a).hs)))) → TouchT (grp n T) w2 o2 w3 o3 → RecD (D b) (beyondL (D a).hs (X a) (vecOf (visOf n (D b).hs))) d' → TellEnd n w o T B ts D X a b (.returned (.bool true)) w3 := fun w3 o2 o3 d' w1 w2 t1 t2 hN t3 hr => by
    refine ⟨rfl, o3, d', _, hN, (t1.trans t2).trans t3, hr, fun k => ?_⟩
    have e1 : ∀ k, (put X a (learnX (X a) b (vecOf (visOf n (D b).hs))) k).gone = (X k).gone := fun k => by
      by_cases c : k = a
      · subst c; rw [put_same]; rfl
      · rw [put_other c]
    by_cases c : k = b
    · subst c; rw [put_same]; exact e1 k
    · rw [put_other c]; exact e1 k
  generalize (⟨(sumT n b (visOf n (D b).hs)).toArray⟩ : ByteArray) = s at hc1 hc2
  generalize (⟨(ansT n a (vecOf (visOf n (D a).hs)) ((beyondL (D a).hs (X a) (vecOf (visOf n (D b).hs))).map trOf)).toArray⟩ : ByteArray) = t at hc2 hc3
  have H1 := hide hc1
  have H2 := hide hc2
  have H3 := hide hc3
  have HE := hide hE
  clear hc1 hc2 hc3 hE hA hB h
  go_enter Tryz.func39, Tryz.ntmps39
  go_wp2_with first
    | (go_at_call 37; refine H1.out.mono ?_; rintro e w1 ⟨rfl, hn1, t1⟩; have G1 := hide (⟨hn1, t1⟩ : _ ∧ _); clear hn1 t1)
    | (go_at_call 40; refine (H2.out _ G1.out.1).mono ?_; rintro e w2 ⟨rfl, o2, hn2, t2⟩; have G2 := hide (⟨hn2, t2⟩ : _ ∧ _); clear hn2 t2)
    | (go_at_call 41; refine (H3.out _ _ G2.out.1).mono ?_; rintro e w3 ⟨rfl, o3, d3, hn3, t3, hr3⟩; have G3 := hide (⟨hn3, t3, hr3⟩ : _ ∧ _ ∧ _); clear hn3 t3 hr3)
  go_ret
  exact HE.out _ _ _ _ _ _ G1.out.2 G2.out.2 G3.out.1 G3.out.2.1 G3.out.2.2
end Go.Proofs.YtiplgdkpnhamaaaGreatDoor.Tv

namespace Go.Proofs.YtiplgdkpnhamaaaGreatDoor.Tv
open Go.RowKit
set_option maxHeartbeats 400000 in
theorem kpick_any (c : Int) (n : Nat) (w : World) (hn : 0 < n) (hn' : n ≤ 1000000) (hc : -9223372036854775808 ≤ c) (hc' : c ≤ 9223372036854775807) :
    Calls Tryz.prog 29 #[.int .i64 c, .int .i64 n] w fun e w' => e = .returned (.int .i64 (pickOf c n)) ∧ w' = w := by
  by_cases h : c < 0
  · have HS : Hid ((pickOf c n : Int) = (-(c + 1)) % n) := by
      have h3 := Int.emod_nonneg (-(c + 1)) (show (n : Int) ≠ 0 by omega)
      unfold Hid pickOf; rw [if_pos h]; omega
    go_enter Tryz.func29, Tryz.ntmps29
    go_wp2
    all_goals go_ret
    all_goals refine ⟨ret_int ?_, rfl⟩
    all_goals rw [HS.out, ← Int.neg_tmod, Int.tmod_eq_emod_of_nonneg (by omega)]
  · have HS : Hid ((pickOf c n : Int) = c % n) := by
      have h3 := Int.emod_nonneg c (show (n : Int) ≠ 0 by omega)
      unfold Hid pickOf; rw [if_neg h]; omega
    go_enter Tryz.func29, Tryz.ntmps29
    go_wp2
    all_goals go_ret
    all_goals refine ⟨ret_int ?_, rfl⟩
    all_goals rw [HS.out]
set_option maxRecDepth 100000 in
set_option maxHeartbeats 1000000 in
theorem ksame_any (w : World) (a b : Int) (lv mv : Value) (l m : List ByteArray) (hl : Row w 9 1 lv l.length (strs l)) (hm : Row w 9 1 mv m.length (strs m)) (hb : l.length ≤ 100000000) (hb' : m.length ≤ 100000000) :
    Calls Tryz.prog 35 #[.agg #[.int .i64 a, lv], .agg #[.int .i64 b, mv]] w fun e w' => e = .returned (.bool (sameB a b l m)) ∧ Below w.heap.size w w' := by
  obtain ⟨lo, lcap, rfl, -, -, lc⟩ := hl.shape
  obtain ⟨mo, mcap, rfl, -, -, mc⟩ := hm.shape
  have llt := fun q hq => hl.lt (k := q) hq
  have mlt := fun q hq => hm.lt (k := q) hq
  clear hl hm
  have hB0 : Below w.heap.size w ((w.alloc (.cells #[.int .i64 a, .slice lo l.length lcap] 66)).alloc (.cells #[.int .i64 b, .slice mo m.length mcap] 66)) := ((Below.refl _ _).alloc (Nat.le_refl _) _).alloc (by simp) _
  by_cases hab : a = b
  · have hab' : (a != b) = false := by rw [hab]; simp
    by_cases hlen : l.length = m.length
    · have hlen' : ((l.length : Int) != m.length) = false := by rw [hlen]; simp
      have HL := hide hlen
      have HAB := hide hab
      clear hlen hab
      go_enter Tryz.func35, Tryz.ntmps35
      go_wp2_with fail
      go_loopw [5] (fun i wr => ∃ k : Nat, k ≤ l.length ∧ i = .int .i64 k ∧ (∀ j (hj : j < l.length) (hj' : j < m.length), j < k → l[j] = m[j]) ∧ Below (w.heap.size + 2) ((w.alloc (.cells #[.int .i64 a, .slice lo l.length lcap] 66)).alloc (.cells #[.int .i64 b, .slice mo m.length mcap] 66)) wr) (fun i _ => l.length - (intOf i).toNat)
      case atStart => exact ⟨0, Nat.zero_le _, rfl, fun j _ _ h => by omega, Below.refl _ _⟩
      case round =>
        obtain ⟨k, hk, rfl, hal, hbe⟩ := hrel
        have HA := hide hal
        have hB : Hid (Below w.heap.size w wr) := hB0.trans (hbe.mono (by omega))
        have c1 : wr.cell? ⟨w.heap.size, 1, none⟩ = some (.slice lo l.length lcap) := by rw [hbe.cell (p := ⟨w.heap.size, 1, none⟩) (by simp)]; simp [go_sem]
        have c2 : wr.cell? ⟨w.heap.size + 1, 1, none⟩ = some (.slice mo m.length mcap) := by rw [hbe.cell (p := ⟨w.heap.size + 1, 1, none⟩) (by simp)]; simp [go_sem]
        clear hal
        by_cases hlk : k < l.length
        · have hmk : k < m.length := by have := HL.out; omega
          obtain ⟨g1, rfl, u1⟩ := lc k (by omega)
          obtain ⟨g2, rfl, u2⟩ := mc k (by omega)
          rw [strs_get _ _ hlk] at u1
          rw [strs_get _ _ hmk] at u2
          have v1 := cell_later hB.out u1
          have v2 := cell_later hB.out u2
          clear lc mc u1 u2
          by_cases he : l[k] = m[k]
          · have he' : (l[k].toList == m[k].toList) = true := str_eq.2 he
            have HA' : Hid (∀ j (hj : j < l.length) (hj' : j < m.length), j < k + 1 → l[j] = m[j]) := fun j hj hj' h => by
              by_cases e : j = k
              · subst e; exact he
              · exact HA.out j hj hj' (by omega)
            clear he HA
            generalize l[k] = x at *
            generalize m[k] = y at *
            go_wp2
            go_quiet (fail)
            go_wp2
            exact ⟨⟨k + 1, by omega, by go_num, HA'.out, below_drewN hbe _⟩, by simp [intOf]; omega⟩
          · have he' : (l[k].toList == m[k].toList) = false := str_ne.2 he
            have HS : Hid (sameB a b l m = false) := decide_eq_false (fun h => by obtain ⟨_, rfl⟩ := h; exact he rfl)
            clear he HA
            generalize l[k] = x at *
            generalize m[k] = y at *
            go_wp2
            go_quiet (fail)
            go_wp2
            go_ret
            exact ⟨ret_bool (by rw [HS.out]), below_drewN hB.out _⟩
        · have HS : Hid (sameB a b l m = true) := decide_eq_true ⟨HAB.out, List.ext_getElem HL.out fun j h1 h2 => HA.out j h1 h2 (by omega)⟩
          clear HA lc mc
          go_wp2
          go_ret
          exact ⟨ret_bool (by rw [HS.out]), hB.out⟩
    · have hlen' : ((l.length : Int) != m.length) = true := by simp; omega
      have HS : Hid (sameB a b l m = false) := decide_eq_false (fun h => hlen (by rw [h.2]))
      clear hlen hab
      go_enter Tryz.func35, Tryz.ntmps35
      go_wp2_with fail
      go_ret
      exact ⟨ret_bool (by rw [HS.out]), hB0⟩
  · have hab' : (a != b) = true := by simp; exact hab
    have HS : Hid (sameB a b l m = false) := decide_eq_false (fun h => hab h.1)
    clear hab
    go_enter Tryz.func35, Tryz.ntmps35
    go_wp2_with fail
    go_ret
    exact ⟨ret_bool (by rw [HS.out]), hB0⟩
def digOf (c : Int) : ByteArray := oneByte (48 + (pickOf c 9 : Int))
set_option maxRecDepth 100000 in
set_option maxHeartbeats 1000000 in
theorem digits_any (c : Int) (w : World) (hc : -9223372036854775808 ≤ c) (hc' : c ≤ 9223372036854775807) :
    Calls Tryz.prog 31 #[.int .i64 c] w fun e w' => e = .returned (.string (digOf c)) ∧ Below w.heap.size w w' := by
  have hp := kpick_any c 9 w (by omega) (by omega) hc hc'
  have hlt := pickOf_lt c 9 (by omega)
  have HD : Hid (digOf c = oneByte (48 + (pickOf c 9 : Int))) := rfl
  generalize pickOf c 9 = k at hp hlt HD
  have HP := hide hp
  clear hp
  have hcv := conv_one
  go_enter Tryz.func31, Tryz.ntmps31
  go_wp2_with (go_at_call 29; refine HP.out.mono ?_; rintro e w1 ⟨rfl, rfl⟩)
  go_ret
  exact ⟨by rw [HD.out]; rfl, (Below.refl _ _).alloc (Nat.le_refl _) _⟩
def keyL : List ByteArray := [⟨#[99]⟩, ⟨#[99, 99]⟩, ⟨#[114]⟩, ⟨#[114, 114]⟩, ⟨#[115]⟩, ⟨#[115, 115]⟩]
set_option maxRecDepth 100000 in
set_option maxHeartbeats 1000000 in
theorem keys_any (w : World) : Calls Tryz.prog 43 #[] w fun e w' => e = .returned (.slice (some ⟨w.heap.size, 0, none⟩) 6 6) ∧ w' = w.alloc (.cells (strs keyL).toArray 9) := by
  go_enter Tryz.func43, Tryz.ntmps43
  go_wp2
  go_ret
  exact ⟨rfl, rfl⟩
end Go.Proofs.YtiplgdkpnhamaaaGreatDoor.Tv

namespace Go.Proofs.YtiplgdkpnhamaaaGreatDoor.Tv
open Go.RowKit
def wS : ByteArray := ⟨#[115]⟩
def wR : ByteArray := ⟨#[114]⟩
def wOf : ByteArray := ⟨#[111, 102, 32]⟩
def wLast : ByteArray := ⟨#[108, 97, 115, 116]⟩
def opIns (e : ByteArray) : ROp := ⟨3, wS, e, 0⟩
def opRem (e : ByteArray) : ROp := ⟨4, wS, e, 0⟩
def opWr (e : ByteArray) : ROp := ⟨2, wR, e, 0⟩
def wE (k : Nat) : ByteArray := oneByte (48 + (k : Int))
def wV (k : Nat) : ByteArray := wOf ++ wE k
def wU1 (n x k : Nat) : RTx := ⟨x, 1, visOf n [], [opIns (wE k)]⟩
def wU2 (n x k : Nat) : RTx := ⟨x, 2, visOf n [wU1 n x k], [opIns (wE k), opWr (wV x)]⟩
def wU3 (n x y k : Nat) : RTx := ⟨y, 1, visOf n [wU1 n x k], [opRem (wE k), opWr (wV y)]⟩
def wQ3 (n x y k : Nat) : List RTx := [wU1 n x k, wU3 n x y k, wU2 n x k]
def wP3 (n x y k : Nat) : List RTx := [wU1 n x k, wU2 n x k, wU3 n x y k]
def wU4 (n x y k : Nat) : RTx := ⟨y, 2, visOf n (wQ3 n x y k), [opRem (wE k), opWr wLast]⟩
def wP4 (n x y k : Nat) : List RTx := wP3 n x y k ++ [wU4 n x y k]
def allOf (n : Nat) (hs : List RTx) : List (Int × List ByteArray × Int) := keyL.map fun key => readAns (some ⟨0, 0, visOf n hs, []⟩) key hs n
def wOk (n x y k : Nat) : Bool :=
  decide (readAns (some ⟨0, 0, visOf n [wU1 n x k], [opRem (wE k), opWr (wV y)]⟩) wS [wU1 n x k] n = (0, [], 0)) &&
  decide (allOf n (wP3 n x y k) = [(0, [], 0), (0, [], 0), (0, [wV (min x y), wV (max x y)], 0), (0, [], 0), (0, [wE k], 0), (0, [], 0)]) &&
  decide (allOf n (wQ3 n x y k) = [(0, [], 0), (0, [], 0), (0, [wV (min x y), wV (max x y)], 0), (0, [], 0), (0, [wE k], 0), (0, [], 0)]) &&
  decide (allOf n (wP4 n x y k) = [(0, [], 0), (0, [], 0), (0, [wLast], 0), (0, [], 0), (0, [], 0), (0, [], 0)])
def wAll : Bool := (List.range 6).all fun n => (List.range n).all fun x => (List.range n).all fun y => (List.range 9).all fun k => x == y || wOk n x y k
set_option maxRecDepth 100000 in
theorem wAll_true : wAll = true := by kernel_rfl
theorem wOk_any {n x y k : Nat} (hn : n ≤ 5) (hx : x < n) (hy : y < n) (hxy : x ≠ y) (hk : k < 9) : wOk n x y k = true := by
  have h := wAll_true
  unfold wAll at h
  rw [List.all_eq_true] at h
  have h1 := h n (List.mem_range.2 (by omega))
  rw [List.all_eq_true] at h1
  have h2 := h1 x (List.mem_range.2 hx)
  rw [List.all_eq_true] at h2
  have h3 := h2 y (List.mem_range.2 hy)
  rw [List.all_eq_true] at h3
  have h4 := h3 k (List.mem_range.2 hk)
  rw [Bool.or_eq_true] at h4
  rcases h4 with h4 | h4
  · exact absurd (by simpa using h4) hxy
  · exact h4
theorem wins_told {n x y k : Nat} (hn : n ≤ 5) (hx : x < n) (hy : y < n) (hxy : x ≠ y) (hk : k < 9) :
    readAns (some ⟨0, 0, visOf n [wU1 n x k], [opRem (wE k), opWr (wV y)]⟩) wS [wU1 n x k] n = (0, [], 0) ∧
    allOf n (wP3 n x y k) = [(0, [], 0), (0, [], 0), (0, [wV (min x y), wV (max x y)], 0), (0, [], 0), (0, [wE k], 0), (0, [], 0)] ∧
    allOf n (wQ3 n x y k) = [(0, [], 0), (0, [], 0), (0, [wV (min x y), wV (max x y)], 0), (0, [], 0), (0, [wE k], 0), (0, [], 0)] ∧
    allOf n (wP4 n x y k) = [(0, [], 0), (0, [], 0), (0, [wLast], 0), (0, [], 0), (0, [], 0), (0, [], 0)] := by
  have h := wOk_any hn hx hy hxy hk
  unfold wOk at h
  simp only [Bool.and_eq_true, decide_eq_true_eq] at h
  exact ⟨h.1.1.1, h.1.1.2, h.1.2, h.2⟩
end Go.Proofs.YtiplgdkpnhamaaaGreatDoor.Tv

namespace Go.Proofs.YtiplgdkpnhamaaaGreatDoor.Tv
open Go.RowKit
theorem RecD.one {d d' : DRep} {u : RTx} (h : RecD d [u] d') (hc : canD d u = true) : d' = showD d u := by
  obtain ⟨zs, rfl, hp, -⟩ := h
  rw [List.perm_singleton.1 hp]
  show stepD d u = _
  unfold stepD
  rw [if_pos hc]
theorem bey_gone {hs : List RTx} {x x' : DX} {v : Vec} (h : x.gone = x'.gone) : beyondL hs x v = beyondL hs x' v := by
  unfold beyondL segB
  rw [h]
theorem can_vis {d d' : DRep} {u : RTx} (h : d.vis = d'.vis) : canD d u = canD d' u := by unfold canD; rw [h]
def dotI (u : RTx) : Int × Int := (u.rep, u.seq)
theorem bey_one {n : Nat} {hs : List RTx} (hH : HistG n hs) {x : DX} {v : Vec} {u : RTx} (hu : u ∈ hs) (h : (beyondL hs x v).map dotI = [dotI u]) : beyondL hs x v = [u] := by
  obtain ⟨a, e1, e2⟩ := List.map_eq_singleton_iff.1 h
  have ha : a ∈ hs := bey_mem (x := x) (v := v) (by rw [e1]; simp)
  have r1 : a.rep = u.rep := congrArg Prod.fst e2
  have r2 : a.seq = u.seq := congrArg Prod.snd e2
  rw [e1, hH.one_ ha hu (by rw [r1]) r2]
def atD (n : Nat) (hs : List RTx) : DRep := ⟨hs, visOf n hs, fun _ => none⟩
def wGo (n : Nat) (from_ to_ : List RTx) (u : RTx) : Bool := decide ((beyondL from_ newX (vecOf (visOf n to_))).map dotI = [dotI u]) && canD (atD n to_) u
def wTr (n x y k : Nat) : Bool :=
  wGo n [wU1 n x k] [] (wU1 n x k) && wGo n [wU1 n x k, wU2 n x k] [wU1 n x k, wU3 n x y k] (wU2 n x k) && wGo n (wQ3 n x y k) [wU1 n x k, wU2 n x k] (wU3 n x y k) && wGo n (wQ3 n x y k ++ [wU4 n x y k]) (wP3 n x y k) (wU4 n x y k)
def wTrs : Bool := (List.range 6).all fun n => (List.range n).all fun x => (List.range n).all fun y => (List.range 9).all fun k => x == y || wTr n x y k
set_option maxRecDepth 100000 in
theorem wTrs_true : wTrs = true := by kernel_rfl
theorem wTr_any {n x y k : Nat} (hn : n ≤ 5) (hx : x < n) (hy : y < n) (hxy : x ≠ y) (hk : k < 9) : wTr n x y k = true := by
  have h := wTrs_true
  unfold wTrs at h
  rw [List.all_eq_true] at h
  have h1 := h n (List.mem_range.2 (by omega))
  rw [List.all_eq_true] at h1
  have h2 := h1 x (List.mem_range.2 hx)
  rw [List.all_eq_true] at h2
  have h3 := h2 y (List.mem_range.2 hy)
  rw [List.all_eq_true] at h3
  have h4 := h3 k (List.mem_range.2 hk)
  rw [Bool.or_eq_true] at h4
  rcases h4 with h4 | h4
  · exact absurd (by simpa using h4) hxy
  · exact h4
theorem wGo_show {n : Nat} {a b : List RTx} {u : RTx} (h : wGo n a b u = true) (hH : HistG n a) (hu : u ∈ a) {x : DX} (hx : x.gone = newX.gone) {d d' : DRep} (hd : d.vis = visOf n b) (hr : RecD d (beyondL a x (vecOf (visOf n b))) d') : d' = showD d u := by
  unfold wGo at h
  rw [Bool.and_eq_true, decide_eq_true_eq] at h
  rw [bey_gone hx, bey_one hH hu h.1] at hr
  exact hr.one (by rw [can_vis (d' := atD n b) hd]; exact h.2)
theorem wins_goes {n x y k : Nat} (hn : n ≤ 5) (hx : x < n) (hy : y < n) (hxy : x ≠ y) (hk : k < 9) :
    wGo n [wU1 n x k] [] (wU1 n x k) = true ∧ wGo n [wU1 n x k, wU2 n x k] [wU1 n x k, wU3 n x y k] (wU2 n x k) = true ∧ wGo n (wQ3 n x y k) [wU1 n x k, wU2 n x k] (wU3 n x y k) = true ∧ wGo n (wQ3 n x y k ++ [wU4 n x y k]) (wP3 n x y k) (wU4 n x y k) = true := by
  have h := wTr_any hn hx hy hxy hk
  unfold wTr at h
  simp only [Bool.and_eq_true] at h
  exact ⟨h.1.1.1, h.1.1.2, h.1.2, h.2⟩
end Go.Proofs.YtiplgdkpnhamaaaGreatDoor.Tv

namespace Go.Proofs.YtiplgdkpnhamaaaGreatDoor.Tv
open Go.RowKit
theorem Tryz.infoVal : (Tryz.prog.info? 66).map (fun i => (i.zero, i.size, i.bytes)) = some (some (.agg #[.int .i64 0, .slice none 0 0]), 2, 32) := by kernel_rfl
def allV (n : Nat) (hs : List RTx) : List (Int × List ByteArray) := (allOf n hs).map fun r => (r.1, r.2.1)
theorem allV_len (n : Nat) (hs : List RTx) : (allV n hs).length = 6 := by simp [allV, allOf, keyL]
def valCells (x : Int × Value) : List Value := [.int .i64 x.1, x.2]
structure ValsX (w : World) (o : Nat → Tag) (tl tm : Tag) (lv : Value) (vs : List (Int × List ByteArray)) (xs : List (Int × Value)) : Prop where
  len : xs.length = vs.length
  row : Pc w o tl 66 2 lv vs.length (xs.flatMap valCells)
  at_ : ∀ k (h1 : k < xs.length) (h2 : k < vs.length), xs[k].1 = vs[k].1 ∧ Pc w o tm 9 1 xs[k].2 vs[k].2.length (strs vs[k].2)
section
variable {w w' : World} {o o' : Nat → Tag} {tl tm : Tag} {lv : Value} {vs : List (Int × List ByteArray)} {xs : List (Int × Value)}
theorem ValsX.move (h : ValsX w o tl tm lv vs xs) (hm : ∀ q, q < w.heap.size → (o q = tl ∨ o q = tm) → w'.heap[q]? = w.heap[q]? ∧ o' q = o q) : ValsX w' o' tl tm lv vs xs :=
  ⟨h.len, h.row.move2 fun q hq e => by
    obtain ⟨a, b⟩ := hm q hq (Or.inl e)
    exact ⟨a, b.trans e⟩, fun k h1 h2 => ⟨(h.at_ k h1 h2).1, (h.at_ k h1 h2).2.move2 fun q hq e => by
    obtain ⟨a, b⟩ := hm q hq (Or.inr e)
    exact ⟨a, b.trans e⟩⟩⟩
theorem ValsX.touch {A : Tag → Prop} (h : ValsX w o tl tm lv vs xs) (k : TouchT A w o w' o') (h1 : ¬ A tl) (h2 : ¬ A tm) : ValsX w' o' tl tm lv vs xs :=
  h.move fun q hq e => ⟨k.touch.block q hq (by rcases e with e | e <;> rw [e] <;> assumption), k.same q hq⟩
theorem ValsX.below (h : ValsX w o tl tm lv vs xs) (hb : Below w.heap.size w w') (f : Nat → Tag) : ValsX w' (own2 o w.heap.size f) tl tm lv vs xs := h.move fun q hq _ => ⟨hb.block q hq, own2_low hq⟩
theorem ValsX.nil (w : World) (o : Nat → Tag) (tl tm : Tag) : ValsX w o tl tm (.slice none 0 0) [] [] :=
  ⟨rfl, ⟨World.ownsRow_nil _ _ _ _, fun q hq => by cases hq⟩, fun k h1 => by simp at h1⟩
theorem ValsX.snoc (h : ValsX w o tl tm lv vs xs) (hne : tm ≠ tl) {s : Int} {ss : List ByteArray} {l v' : Value} (hl : Pc w o tm 9 1 l ss.length (strs ss)) (hrow : w'.ownsRow 0 66 2 v' (vs.length + 1) (xs.flatMap valCells ++ [.int .i64 s, l])) (hg : w.grownBy w' lv.ownBlock) (hat : v'.ownBlock = lv.ownBlock ∨ v'.ownBlock = some w.heap.size) : ValsX w' (upd o w.heap.size tl) tl tm v' (vs ++ [(s, ss)]) (xs ++ [(s, l)]) := by
  refine ⟨by simp [h.len], ?_, fun k h1 h2 => ?_⟩
  · have e1 : (vs ++ [(s, ss)]).length = vs.length + 1 := by simp
    have e2 : (xs ++ [(s, l)]).flatMap valCells = xs.flatMap valCells ++ [.int .i64 s, l] := by simp [valCells]
    rw [e1, e2]
    exact h.row.app hrow hat
  · by_cases c : k < xs.length
    · have c2 : k < vs.length := by rw [← h.len]; exact c
      rw [List.getElem_append_left c, List.getElem_append_left c2]
      exact ⟨(h.at_ k c c2).1, (h.at_ k c c2).2.grew hg h.row.tag hne⟩
    · have hl' := h.len
      have e : k = xs.length := by simp at h1; omega
      subst e
      rw [List.getElem_append_right (Nat.le_refl _), List.getElem_append_right (by omega)]
      simp only [Nat.sub_self, List.getElem_cons_zero, List.getElem_singleton]
      exact ⟨trivial, hl.grew hg h.row.tag hne⟩
end
end Go.Proofs.YtiplgdkpnhamaaaGreatDoor.Tv

namespace Go.Proofs.YtiplgdkpnhamaaaGreatDoor.Tv
open Go.RowKit
structure AllAt (xq : DX) (w : World) (o : Nat → Tag) (t tl tm : Tag) (b n i : Nat) (d : DRep) (k : Nat) (lv : Value) (wr : World) (oo : Nat → Tag) : Prop where
  pr : PR xq wr oo t b n i (beginD d)
  tt : TouchT (· = t) w o wr oo
  ex : ∃ xs, ValsX wr oo tl tm lv ((allV n d.hs).take k) xs
  new : ∀ q, lv.ownBlock = some q → w.heap.size ≤ q
def AllEnd (xq : DX) (w : World) (o : Nat → Tag) (t tl tm : Tag) (b n i : Nat) (d : DRep) (e : Ending) (w' : World) : Prop :=
  ∃ lv o', e = .returned (.tuple #[lv, .bool true]) ∧ PR xq w' o' t b n i d ∧ TouchT (· = t) w o w' o' ∧ ∃ xs, ValsX w' o' tl tm lv (allV n d.hs) xs
theorem begin_abort {d : DRep} (hf : freeSlot d.opn < 6) (hn : d.opn (freeSlot d.opn) = none) : abortD (beginD d) (freeSlot d.opn : Nat) = d := by
  unfold abortD beginD
  rw [if_pos hf]
  have e : opnAt { d with opn := setSlot d.opn (freeSlot d.opn) (some ⟨0, 0, d.vis, []⟩) } ((freeSlot d.opn : Nat) : Int) = some ⟨0, 0, d.vis, []⟩ := by
    unfold opnAt
    rw [if_pos (by omega), Int.toNat_natCast]
    exact setSlot_same _ _ _
  rw [e]
  simp only [Option.isSome_some, if_true, endD, Int.toNat_natCast]
  have : setSlot (setSlot d.opn (freeSlot d.opn) (some ⟨0, 0, d.vis, []⟩)) (freeSlot d.opn) none = d.opn := by
    funext j
    by_cases c : j = freeSlot d.opn
    · subst c; rw [setSlot_same, hn]
    · rw [setSlot_other c, setSlot_other c]
  rw [this]
theorem free_none {d : DRep} (hf : freeSlot d.opn < 6) : d.opn (freeSlot d.opn) = none := by
  have h : freeSlot d.opn < (List.range 6).length := by simpa using hf
  have h2 : (d.opn ((List.range 6)[freeSlot d.opn]'h)).isNone = true := List.findIdx_getElem (p := fun k => (d.opn k).isNone) (w := h)
  rw [List.getElem_range] at h2
  exact Option.isNone_iff_eq_none.1 h2
theorem AllAt.next {xq : DX} {w wr W6 w6 : World} {o oo : Nat → Tag} {t tl tm : Tag} {b n i k : Nat} {d : DRep} {lv l v6 : Value} {xs : List (Int × Value)} {sm : Int} {ss : List ByteArray} (h : AllAt xq w o t tl tm b n i d k lv wr oo) (hv : ValsX wr oo tl tm lv ((allV n d.hs).take k) xs) (h1 : tl ≠ t) (h3 : tm ≠ tl) (hk : (allV n d.hs)[k]? = some (sm, ss)) (hB : Below wr.heap.size wr W6) (hl : W6.ownsRow wr.heap.size 9 1 l ss.length (strs ss)) (hrow : w6.ownsRow 0 66 2 v6 (((allV n d.hs).take k).length + 1) (xs.flatMap valCells ++ [.int .i64 sm, l])) (hg : W6.grownBy w6 lv.ownBlock) (hat : v6.ownBlock = lv.ownBlock ∨ v6.ownBlock = some W6.heap.size) : ∃ o6, AllAt xq w o t tl tm b n i d (k + 1) v6 w6 o6 := by
  have hv5 := hv.below hB (fun _ => tm)
  have hl5 : Pc W6 (own2 oo wr.heap.size fun _ => tm) tm 9 1 l ss.length (strs ss) := Pc.new hl (fun _ _ => rfl)
  have hs := hv5.snoc h3 hl5 hrow hg hat
  have hsz := hB.size
  have hsw := h.tt.touch.size
  obtain ⟨hkl, hke⟩ := List.getElem?_eq_some_iff.1 hk
  refine ⟨upd (own2 oo wr.heap.size fun _ => tm) W6.heap.size tl, h.pr.move fun q hq e => ⟨?_, ?_⟩, ⟨(h.tt.touch.trans (Touch.ofBelow hB)).grown hg fun q hq => Or.inr (h.new q hq), fun q hq => ?_⟩, ⟨_, by rw [List.take_succ_eq_append_getElem hkl, hke]; exact hs⟩, fun q hq => ?_⟩
  · rw [hg.block q (by omega) (fun c => h1 (by rw [← hv.row.tag q c.symm, e])), hB.block q hq]
  · rw [upd_other (by omega), own2_low hq, e]
  · rw [upd_other (by omega), own2_low (by omega)]; exact h.tt.same q hq
  · rcases hat with a | a
    · exact h.new q (by rw [← a]; exact hq)
    · rw [a] at hq; cases hq; omega
theorem key_ok {key : ByteArray} (h : key ∈ keyL) (t : RTx) (ts : List RTx) (n : Nat) : (readAns (some t) key ts n).2.2 = 0 ∧ key.size ≤ maxLen := by
  have h1 : kindOf ⟨#[99]⟩ = 99 := by decide
  have h2 : kindOf ⟨#[99, 99]⟩ = 99 := by decide
  have h3 : kindOf ⟨#[114]⟩ = 114 := by decide
  have h4 : kindOf ⟨#[114, 114]⟩ = 114 := by decide
  have h5 : kindOf ⟨#[115]⟩ = 115 := by decide
  have h6 : kindOf ⟨#[115, 115]⟩ = 115 := by decide
  have hm : ∀ m : Nat, m ≤ 2 → m ≤ maxLen := fun m hm => by unfold maxLen; omega
  simp only [keyL, List.mem_cons, List.not_mem_nil, or_false] at h
  rcases h with rfl | rfl | rfl | rfl | rfl | rfl
  · exact ⟨by simp [readAns, h1], hm 1 (by omega)⟩
  · exact ⟨by simp [readAns, h2], hm 2 (by omega)⟩
  · exact ⟨by simp [readAns, h3], hm 1 (by omega)⟩
  · exact ⟨by simp [readAns, h4], hm 2 (by omega)⟩
  · exact ⟨by simp [readAns, h5], hm 1 (by omega)⟩
  · exact ⟨by simp [readAns, h6], hm 2 (by omega)⟩
theorem begin_opn {d : DRep} (hf : freeSlot d.opn < 6) : opnAt (beginD d) (freeSlot d.opn : Nat) = some ⟨0, 0, d.vis, []⟩ ∧ (beginD d).hs = d.hs := by
  unfold beginD
  rw [if_pos hf]
  refine ⟨?_, rfl⟩
  unfold opnAt
  rw [if_pos (by omega), Int.toNat_natCast]
  exact setSlot_same _ _ _
end Go.Proofs.YtiplgdkpnhamaaaGreatDoor.Tv

namespace Go.Proofs.YtiplgdkpnhamaaaGreatDoor.Tv
open Go.RowKit
set_option maxRecDepth 100000 in
set_option maxHeartbeats 4000000 in
theorem all_any {xq : DX} {w : World} {o : Nat → Tag} {t : Tag} (tl tm : Tag) {b n i : Nat} {d : DRep} (h : PR xq w o t b n i d) (hR : Room d) (hf : freeSlot d.opn < 6) (h1 : tl ≠ t) (h2 : tm ≠ t) (h3 : tm ≠ tl) :
    Calls Tryz.prog 24 #[bptr b] w (AllEnd xq w o t tl tm b n i d) := by
  obtain ⟨i0, hi, hz0, hz1, hz2⟩ := info_parts Tryz.infoVal
  have HI := hide (⟨hi, hz0, hz1, hz2⟩ : _ ∧ _ ∧ _ ∧ _)
  clear hi hz0 hz1 hz2
  have P := papi (fun _ => xq)
  obtain ⟨s, hs⟩ : ∃ s, freeSlot d.opn = s := ⟨_, rfl⟩
  have HB : Hid (Calls Tryz.prog 27 #[ptr b] w fun e w' => e = .returned (.tuple #[.int .i64 s, .int .i64 0]) ∧ ∃ o', Hid (PR xq w' o' t b n i (beginD d) ∧ TouchT (· = t) w o w' o')) := by
    refine (P.begins w o t b n i d h hR).mono ?_
    rintro e w' ⟨rfl, o', a, c⟩
    refine ⟨?_, o', a, c⟩
    unfold beginAns
    rw [if_pos hf, hs]
  have hs6 : s < 6 := by omega
  have HV : Hid (d.vis = visOf n d.hs) := h.hist.2.1
  have HF := hide (⟨hf, hs, hR⟩ : _ ∧ _ ∧ _)
  clear h hR hf hs P
  go_enter Tryz.func24, Tryz.ntmps24
  go_wp2_with (go_at_call 27; refine HB.out.mono ?_; rintro e w1 ⟨rfl, o1, hB1⟩)
  go_loopw [6, 7, 8] (fun kv lv iv wr => ∃ (k : Nat) (oo : Nat → Tag), k ≤ 6 ∧ iv = .int .i64 k ∧ kv = .bool true ∧ Hid (AllAt xq w o t tl tm b n i d k lv wr oo)) (fun _ _ iv _ => 6 - (intOf iv).toNat)
  case atStart => exact ⟨0, o1, by omega, rfl, rfl, ⟨hB1.out.1, hB1.out.2, ⟨[], ValsX.nil _ _ _ _⟩, fun q hq => by cases hq⟩⟩
  case round =>
    obtain ⟨k, oo, hk6, rfl, rfl, HA⟩ := hrel
    by_cases hk : k < 6
    · have hkl : k < keyL.length := by simpa [keyL] using hk
      obtain ⟨key, hkey⟩ : ∃ key, keyL[k] = key := ⟨_, rfl⟩
      obtain ⟨hf, hs, hR⟩ := HF.out
      have hvis := HV.out
      obtain ⟨hko, hks⟩ := key_ok (key := key) (hkey ▸ List.getElem_mem hkl) ⟨0, 0, visOf n d.hs, []⟩ d.hs n
      obtain ⟨⟨sm, ss, er⟩, hans⟩ : ∃ r, readAns (some ⟨0, 0, visOf n d.hs, []⟩) key d.hs n = r := ⟨_, rfl⟩
      rw [hans] at hko
      have hko : er = 0 := hko
      subst hko
      have HAV : Hid ((allV n d.hs)[k]? = some (sm, ss)) := by
        unfold Hid allV allOf
        rw [List.getElem?_map, List.getElem?_map, List.getElem?_eq_getElem hkl, hkey]
        simp only [Option.map_some]
        rw [hans]
      have HKk : Hid (∀ W, Calls Tryz.prog 43 #[] W fun e w' => ∃ g, e = .returned (.slice (some ⟨g, 0, none⟩) 6 6) ∧ w'.cell? ⟨g, k, none⟩ = some (.string key) ∧ g < w'.heap.size ∧ Hid (Below W.heap.size W w')) := fun W => by
        refine (keys_any W).mono ?_
        rintro e w' ⟨rfl, rfl⟩
        have bk : Blk (W.alloc (.cells (strs keyL).toArray 9)) W.heap.size (strs keyL) 9 := heap_alloc_new W _
        exact ⟨_, rfl, by rw [bk.cell k]; unfold strs; rw [List.getElem?_map, List.getElem?_eq_getElem hkl, hkey]; rfl, bk.lt, (Below.refl _ _).alloc (Nat.le_refl _) _⟩
      have HRd : Hid (∀ W, Below wr.heap.size wr W → Calls Tryz.prog 33 #[bptr b, .int .i64 s, .string key] W fun e w' => ∃ al ml cl, e = .returned (valAgg sm (.slice al ml cl) 0) ∧ Hid (w'.ownsRow wr.heap.size 9 1 (.slice al ml cl) ss.length (strs ss) ∧ Below wr.heap.size wr w')) := fun W hB => by
        obtain ⟨p, -, hp⟩ := HA.out.pr
        obtain ⟨ho, hh⟩ := begin_opn hf
        rw [hs, hvis] at ho
        have hp' : RepIn xq W p b n i (beginD d) := hp.move fun q hq _ => ⟨hB.block q hq, rfl⟩
        refine (read_call hp' (by rw [hh]; exact hR.hist) s key hks).mono ?_
        rintro e w' ⟨l, rfl, h1, h2⟩
        rw [ho, hh, hans] at h1 ⊢
        obtain ⟨al, cl, rfl, -⟩ := Row.shape (ownsRow_low h1 (Nat.zero_le _))
        exact ⟨al, _, cl, rfl, ownsRow_low h1 hB.size, hB.trans (h2.mono hB.size)⟩
      obtain ⟨xs, hv⟩ := HA.out.ex
      have hlen : ((allV n d.hs).take k).length = k := by rw [List.length_take, allV_len]; omega
      obtain ⟨ao, cp, elv, -⟩ := hv.row.row.shape
      rw [hlen] at elv
      subst elv
      have HX := hide (⟨hv, hlen⟩ : _ ∧ _)
      clear hv hlen hkey hkl hans hks hvis hf hs hR
      go_upto_region 7 with (go_at_call 43; refine (HKk.out _).mono ?_; rintro e w1' ⟨g1, rfl, -, -, hB1'⟩)
      go_upto_region 8 with (first | (go_at_call 43; refine (HKk.out _).mono ?_; rintro e w2 ⟨g2, rfl, z2, l2, hB2⟩) | (go_at_call 33; refine (HRd.out _ (hB1'.out.trans (hB2.out.mono hB1'.out.size))).mono ?_; rintro e w4 ⟨al, ml, cl, rfl, hB4⟩))
      have b5 : Blk (w4.alloc (.cells #[.int .i64 sm, .slice al ml cl] 66)) w4.heap.size [.int .i64 sm, .slice al ml cl] 66 := heap_alloc_new w4 _
      have hB5 : Below wr.heap.size wr (w4.alloc (.cells #[.int .i64 sm, .slice al ml cl] 66)) := hB4.out.2.alloc hB4.out.2.size _
      have hl5' : (w4.alloc (.cells #[.int .i64 sm, .slice al ml cl] 66)).ownsRow wr.heap.size 9 1 (.slice al ml cl) ss.length (strs ss) := World.ownsRow.alloc hB4.out.1 _
      generalize w4.alloc (.cells #[.int .i64 sm, .slice al ml cl] 66) = W5 at *
      have hrow5 : W5.ownsRow 0 66 2 (.slice ao k cp) k (xs.flatMap valCells) := by
        have := ownsRow_below HX.out.1.row.row hB5
        rwa [HX.out.2] at this
      have z0 := b5.cell 0
      have z1 := b5.cell 1
      have hl5 := b5.lt
      have HR5 := hide (⟨hrow5, hB5, hl5'⟩ : _ ∧ _ ∧ _)
      clear hrow5 hB5 hl5'
      go_wp2_with (at_builtin; refine wpList_append_own_at _ rfl _ _ 48 rfl 0 66 i0 (.agg #[.int .i64 0, .slice none 0 0]) 2 32 Tryz.underlying48 HI.out.1 HI.out.2.1 HI.out.2.2.1 HI.out.2.2.2 rfl (by decide) _ _ _ rfl (World.ownsRow.alloc HR5.out.1 _) ⟨W5.heap.size, 0, none⟩ 1 1 [.int .i64 sm, .slice al ml cl] rfl rfl (news_at (heap_alloc_new _ _)) (by intro u hu; simp at hu; rcases hu with rfl | rfl <;> rfl) (by unfold maxLen; omega) (by omega) (Nat.zero_le _) ?_; intro v6 w6 hown6 hgrow6 hnil6 hat6)
      obtain ⟨o6, h6⟩ := HA.out.next HX.out.1 h1 h3 HAV.out (HR5.out.2.1.alloc HR5.out.2.1.size _) (World.ownsRow.alloc HR5.out.2.2 _) (by rw [HX.out.2]; exact hown6) hgrow6 hat6
      exact ⟨⟨k + 1, o6, by omega, by simp, rfl, h6⟩, by simp [intOf]; omega⟩
    · have hk' : k = 6 := by omega
      subst hk'
      obtain ⟨xs, hv⟩ := HA.out.ex
      have htk : (allV n d.hs).take 6 = allV n d.hs := List.take_of_length_le (by rw [allV_len]; exact Nat.le_refl _)
      rw [htk] at hv
      obtain ⟨ao, cp, elv, -⟩ := hv.row.row.shape
      rw [allV_len] at elv
      subst elv
      obtain ⟨hf, hs, hR⟩ := HF.out
      have HAb : Hid (∀ W, Below wr.heap.size wr W → Calls Tryz.prog 34 #[ptr b, .int .i64 s] W fun e w' => e = .returned (.int .i64 0) ∧ Hid (AllEnd xq w o t tl tm b n i d (.returned (.tuple #[.slice ao 6 cp, .bool true])) w')) := fun W hB => by
        have hRb : Room (beginD d) := by unfold beginD; rw [if_pos hf]; exact ⟨hR.hist, hR.vis⟩
        refine ((papi (fun _ => xq)).abort W oo t b n i (beginD d) s (HA.out.pr.move fun q hq e => ⟨hB.block q hq, e⟩) hRb).mono ?_
        rintro e w' ⟨rfl, o', a, c⟩
        have ea : abortAns (beginD d) s = .int .i64 0 := by
          unfold abortAns
          rw [← hs, (begin_opn hf).1]; rfl
        have ed : abortD (beginD d) s = d := by rw [← hs]; exact begin_abort hf (free_none hf)
        rw [ed] at a
        refine ⟨by rw [ea], _, o', rfl, a, (HA.out.tt.below hB).trans c, xs, ?_⟩
        exact (hv.move (w' := W) (o' := oo) fun q hq _ => ⟨hB.block q hq, rfl⟩).touch c h1 h2
      have HKk : Hid (∀ W, Calls Tryz.prog 43 #[] W fun e w' => ∃ g, e = .returned (.slice (some ⟨g, 0, none⟩) 6 6) ∧ Hid (Below W.heap.size W w')) := fun W => by
        refine (keys_any W).mono ?_
        rintro e w' ⟨rfl, rfl⟩
        exact ⟨_, rfl, (Below.refl _ _).alloc (Nat.le_refl _) _⟩
      clear hv htk hf hs hR HA
      go_wp2_with (first | (go_at_call 43; refine (HKk.out _).mono ?_; rintro e w1' ⟨g1, rfl, hB1'⟩) | (go_at_call 34; refine (HAb.out _ hB1'.out).mono ?_; rintro e w4 ⟨rfl, hE⟩))
      go_ret2
      exact hE.out
end Go.Proofs.YtiplgdkpnhamaaaGreatDoor.Tv

namespace Go.Proofs.YtiplgdkpnhamaaaGreatDoor.Tv
open Go.RowKit
theorem ValsX.cells {w : World} {o : Nat → Tag} {tl tm : Tag} {lv : Value} {vs : List (Int × List ByteArray)} {xs : List (Int × Value)} (h : ValsX w o tl tm lv vs xs) (hn : vs.length = 6) : ∃ g cp, lv = .slice (some ⟨g, 0, none⟩) 6 cp ∧ ∀ k (hk : k < vs.length), ∃ al cl, w.cell? ⟨g, k * 2, none⟩ = some (.int .i64 vs[k].1) ∧ w.cell? ⟨g, k * 2 + 1, none⟩ = some (.slice al vs[k].2.length cl) ∧ Row w 9 1 (.slice al vs[k].2.length cl) vs[k].2.length (strs vs[k].2) := by
  obtain ⟨ao, cp, e, -, -, hc⟩ := h.row.row.shape
  rw [hn] at e hc
  obtain ⟨g, eg, -⟩ := hc 0 (by omega)
  subst eg
  refine ⟨g, cp, e, fun k hk => ?_⟩
  have hkx : k < xs.length := by rw [h.len]; exact hk
  obtain ⟨h1, h2⟩ := h.at_ k hkx hk
  obtain ⟨al, cl, e2, -⟩ := h2.row.shape
  obtain ⟨g1, eg1, c1⟩ := hc (k * 2) (by omega)
  obtain ⟨g2, eg2, c2⟩ := hc (k * 2 + 1) (by omega)
  cases eg1
  cases eg2
  have f1 := flat_get valCells 2 (fun _ => rfl) xs k 0 hkx (by omega)
  have f2 := flat_get valCells 2 (fun _ => rfl) xs k 1 hkx (by omega)
  rw [Nat.add_zero] at f1
  refine ⟨al, cl, ?_, ?_, ?_⟩
  · rw [c1, f1, ← h1]; rfl
  · rw [c2, f2, ← e2]; rfl
  · rw [← e2]; exact h2.row
end Go.Proofs.YtiplgdkpnhamaaaGreatDoor.Tv
