/- The texts V10, V11, V12, X5, X4, joined. -/
import Derived.Test.YtiplgdkpnhamaaaGreatDoorW12
import Derived.Test.YtiplgdkpnhamaaaGreatDoorW08
import Derived.Test.YtiplgdkpnhamaaaGreatDoorW11

/- How much the store holds; what an open transaction reads of a set. -/
namespace Go.Proofs.YtiplgdkpnhamaaaGreatDoor
open Go.RowKit

theorem nodup_len {α : Type} [DecidableEq α] : ∀ {l m : List α}, l.Nodup → (∀ x, x ∈ l → x ∈ m) → l.length ≤ m.length
  | [], _, _, _ => Nat.zero_le _
  | a :: l, m, hn, h => by
    obtain ⟨ha, hn'⟩ := List.nodup_cons.1 hn
    have hm : a ∈ m := h a (by simp)
    have h1 := nodup_len (l := l) (m := m.erase a) hn' (fun x hx => by
      have hne : x ≠ a := fun e => ha (e ▸ hx)
      exact (List.mem_erase_of_ne hne).2 (h x (by simp [hx])))
    have h2 := List.length_erase_of_mem hm
    have h3 : 0 < m.length := List.length_pos_of_mem hm
    rw [List.length_cons]; omega
theorem came_bound {H : Hist} {p : Place} {M N : Nat} {st : St} (hW : st.Wf) (h : PInv H p M st) (hM : M ≤ N) : (st.came p).length ≤ N := by
  have := nodup_len (hW.once p) (m := (List.range N).map H.dot) (fun d hd => by
    obtain ⟨v, hv⟩ := Option.isSome_iff_exists.1 ((hW.here p d).1 hd)
    obtain ⟨j, hj, e, -⟩ := h.b d v hv
    exact List.mem_map.2 ⟨j, List.mem_range.2 (by omega), e.symm⟩)
  simpa using this
theorem isVer_wr {H : Hist} {p : Place} {j : Nat} (h : H.isVer p j = true) : (H.wr j p).isSome := by
  unfold Hist.isVer at h
  split at h
  · cases h
  · rename_i x hx; rw [hx]; rfl
theorem kept_bound {H : Hist} {N : Nat} {st : St} (hk : KNod st) (h : ∀ p, ∃ M, M ≤ N ∧ PInv H p M st) {pl : Nat → List Place} (hl : ∀ j, (pl j).length ≤ 16) (hp : ∀ j p, j < N → (H.wr j p).isSome → p ∈ pl j) : ∀ s, s ∈ st.snaps → s.kept.length ≤ 16 * N := fun s hs => by
  have hlen : ∀ N, ((List.range N).flatMap fun j => (pl j).map fun p => (⟨p, H.dot j⟩ : VName)).length ≤ 16 * N := fun N => by
    induction N with
    | zero => simp
    | succ N ih =>
      rw [List.range_succ, List.flatMap_append, List.length_append]
      have := hl N
      simp only [List.flatMap_cons, List.flatMap_nil, List.append_nil, List.length_map]
      omega
  refine Nat.le_trans (nodup_len ?_ ?_) (hlen N)
  · obtain ⟨a, b, e⟩ := List.append_of_mem hs
    unfold KNod at hk
    rw [e, List.flatMap_append, List.flatMap_cons, List.nodup_append] at hk
    exact (List.nodup_append.1 hk.2.1).1
  · intro x hx
    obtain ⟨M, hM, hP⟩ := h x.at_
    obtain ⟨j, h1, h2, h3, -⟩ := hP.e s hs x.dot hx
    exact List.mem_flatMap.2 ⟨j, List.mem_range.2 (by omega), List.mem_map.2 ⟨x.at_, hp j x.at_ (by omega) (isVer_wr h3), by rw [← h2]⟩⟩

/-- An open transaction's own writes of a set over what is told. -/
theorem keeps_spec (key : ByteArray) (ops : List ROp) : ∀ (l acc : List ByteArray), Rising acc → Rising (l.foldl (keepEl key ops) acc) ∧ ∀ a, a ∈ l.foldl (keepEl key ops) acc ↔ a ∈ acc ∨ (a ∈ l ∧ ((lastOf key a ops).isSome = false ∨ lastKind (lastOf key a ops) = 3))
  | [], acc, h => ⟨h, fun a => by simp⟩
  | e :: l, acc, h => by
    have step : Rising (keepEl key ops acc e) ∧ ∀ a, a ∈ keepEl key ops acc e ↔ a ∈ acc ∨ (a = e ∧ ((lastOf key e ops).isSome = false ∨ lastKind (lastOf key e ops) = 3)) := by
      unfold keepEl
      split
      · rename_i c
        obtain ⟨r, m⟩ := withOf_spec h e
        exact ⟨r, fun a => (m a).trans ⟨fun q => q.imp id fun q => ⟨q, c⟩, fun q => q.imp id fun q => q.1⟩⟩
      · rename_i c
        exact ⟨h, fun a => ⟨Or.inl, fun q => q.elim id fun q => absurd q.2 c⟩⟩
    obtain ⟨r, m⟩ := keeps_spec key ops l _ step.1
    refine ⟨r, fun a => ?_⟩
    rw [List.foldl_cons, m, step.2, List.mem_cons]
    constructor
    · rintro ((c | ⟨rfl, c⟩) | ⟨c1, c2⟩)
      · exact Or.inl c
      · exact Or.inr ⟨Or.inl rfl, c⟩
      · exact Or.inr ⟨Or.inr c1, c2⟩
    · rintro (c | ⟨c1 | c1, c2⟩)
      · exact Or.inl (Or.inl c)
      · subst c1; exact Or.inl (Or.inr ⟨rfl, c2⟩)
      · exact Or.inr ⟨c1, c2⟩
theorem inss_spec (key : ByteArray) (ops : List ROp) : ∀ (l acc : List ByteArray), Rising acc → Rising (l.foldl (insEl key ops) acc) ∧ ∀ a, a ∈ l.foldl (insEl key ops) acc ↔ a ∈ acc ∨ (a ∈ l ∧ lastKind (lastOf key a ops) = 3)
  | [], acc, h => ⟨h, fun a => by simp⟩
  | e :: l, acc, h => by
    have step : Rising (insEl key ops acc e) ∧ ∀ a, a ∈ insEl key ops acc e ↔ a ∈ acc ∨ (a = e ∧ lastKind (lastOf key e ops) = 3) := by
      unfold insEl
      split
      · rename_i c
        obtain ⟨r, m⟩ := withOf_spec h e
        exact ⟨r, fun a => by rw [m]; simp [c]⟩
      · rename_i c
        exact ⟨h, fun a => by simp [c]⟩
    obtain ⟨r, m⟩ := inss_spec key ops l _ step.1
    refine ⟨r, fun a => ?_⟩
    rw [List.foldl_cons, m, step.2, List.mem_cons]
    constructor
    · rintro ((c | ⟨rfl, c⟩) | ⟨c1, c2⟩)
      · exact Or.inl c
      · exact Or.inr ⟨Or.inl rfl, c⟩
      · exact Or.inr ⟨Or.inr c1, c2⟩
    · rintro (c | ⟨c1 | c1, c2⟩)
      · exact Or.inl (Or.inl c)
      · subst c1; exact Or.inl (Or.inr ⟨rfl, c2⟩)
      · exact Or.inr ⟨c1, c2⟩
/-- The program strikes from what is told whatever is written to, and puts in what is inserted. -/
theorem readSet_eq {key : ByteArray} {ops : List ROp} {told l : List ByteArray} (hk : kindOf key = 115) (hops : ∀ o, o ∈ ops → OpOk o) (hl : Rising l) (hm : ∀ a, a ∈ l ↔ (a ∈ told ∧ ownOf ops ⟨key, a⟩ = none) ∨ ∃ x, ownOf ops ⟨key, a⟩ = some x ∧ x.kind = 2) : l = readSet key ops told := by
  obtain ⟨r1, m1⟩ := keeps_spec key ops told [] List.Pairwise.nil
  obtain ⟨r2, m2⟩ := inss_spec key ops (elemsOf key ops) _ r1
  refine rising_ext hl r2 fun a => ?_
  refine (hm a).trans (Iff.trans ?_ (m2 a).symm)
  rw [m1, mem_elems hk hops]
  obtain ⟨h1, h2⟩ := own_set hk a ops hops
  rw [h1]
  cases e : lastOf key a ops with
  | none => simp [lastKind, ROp.none]
  | some o =>
    rcases h2 o e with c | c
    · have : (wrOf o).kind = 2 := by unfold wrOf; rw [if_neg (by omega), if_neg (by omega), if_pos c]
      simp [lastKind, c, this]
    · have : (wrOf o).kind = 3 := by unfold wrOf; rw [if_neg (by omega), if_neg (by omega), if_neg (by omega)]
      simp [lastKind, c, this]

end Go.Proofs.YtiplgdkpnhamaaaGreatDoor

/- A replica that hears of nobody: the plain store beside the document's replica. -/
namespace Go.Proofs.YtiplgdkpnhamaaaGreatDoor
open Go.RowKit

/-- Two histories that are the same up to N. -/
structure Hist.Same (H H' : Hist) (N : Nat) : Prop where
  dot : ∀ j, j < N → H'.dot j = H.dot j
  wr : ∀ j, j < N → H'.wr j = H.wr j
  sees : ∀ k j, k < N → j < N → H'.sees k j = H.sees k j
section
theorem Hist.Same.total {H H' : Hist} {N : Nat} (h : Hist.Same H H' N) (p : Place) : ∀ j, j ≤ N → H'.total p j = H.total p j
  | 0, _ => rfl
  | j + 1, hj => by
    show wrap64 (H'.total p j + amt (H'.wr j p)) = wrap64 (H.total p j + amt (H.wr j p))
    rw [Hist.Same.total h p j (by omega), h.wr j (by omega)]
theorem Hist.Same.isVer {H H' : Hist} {N : Nat} (h : Hist.Same H H' N) (p : Place) {j : Nat} (hj : j < N) : H'.isVer p j = H.isVer p j := by
  unfold Hist.isVer; rw [h.wr j hj, h.total p (j + 1) (by omega)]
theorem Hist.Same.over {H H' : Hist} {N : Nat} (h : Hist.Same H H' N) (p : Place) {k j : Nat} (hk : k < N) (hj : j < N) : H'.over p k j = H.over p k j := by
  unfold Hist.over; rw [h.wr k hk, h.sees k j hk hj]
theorem Hist.Same.wentAt {H H' : Hist} {N : Nat} (h : Hist.Same H H' N) (p : Place) {j : Nat} (hj : j < N) : ∀ M, M ≤ N → H'.wentAt p j M = H.wentAt p j M
  | 0, _ => rfl
  | M + 1, hM => by
    unfold Hist.wentAt
    rw [Hist.Same.wentAt h p hj M (by omega), h.over p (by omega) hj]
theorem Hist.Same.verOf {H H' : Hist} {N : Nat} (h : Hist.Same H H' N) (p : Place) {j M : Nat} (hj : j < N) (hM : M ≤ N) : H'.verOf p j M = H.verOf p j M := by
  have hw : H'.wentDot p j M = H.wentDot p j M := by
    unfold Hist.wentDot
    rw [h.wentAt p hj M hM]
    split
    · rename_i k e; exact h.dot k (by have := Hist.wentAt_lt e; omega)
    · rfl
  unfold Hist.verOf
  rw [h.wr j hj, hw, h.total p (j + 1) (by omega)]
theorem Hist.Same.pinv {H H' : Hist} {N : Nat} (h : Hist.Same H H' N) {p : Place} {st : St} (k : PInv H p N st) : PInv H' p N st := by
  refine ⟨fun d v hd => ?_, fun j hj hi hc => ?_, fun s hs d hd => ?_⟩
  · obtain ⟨j, a, b, c, e⟩ := k.b d v hd
    exact ⟨j, a, by rw [h.dot j a]; exact b, by rw [h.isVer p a]; exact c, by rw [h.verOf p a (Nat.le_refl _)]; exact e⟩
  · rw [h.dot j hj, h.verOf p hj (Nat.le_refl _)]
    refine k.c j hj (by rw [← h.isVer p hj]; exact hi) ?_
    rw [h.wentAt p hj N (Nat.le_refl _), h.dot j hj] at hc
    refine hc.imp id ?_
    rintro ⟨s, q, h1, h2, h3, h4⟩
    exact ⟨s, q, h1, h2, h3, by rw [← h.dot q (Hist.wentAt_lt h3).2.1]; exact h4⟩
  · obtain ⟨j, a, b, c, e⟩ := k.e s hs d hd
    exact ⟨j, a, by rw [h.dot j a]; exact b, by rw [h.isVer p a]; exact c, by rw [h.wentAt p a N (Nat.le_refl _)]; exact e⟩
theorem Hist.Same.ginv {H H' : Hist} {N : Nat} (h : Hist.Same H H' N) {isSet : Place → Prop} {st : St} (k : GInv H isSet N st) : GInv H' isSet N st :=
  ⟨k.wf, fun p => h.pinv (k.pl p), k.els, k.kn, fun j hj => by rw [h.dot j hj]; exact k.vis j hj, fun s hs => by
    obtain ⟨T, hT, ha⟩ := k.snaps s hs
    exact ⟨T, hT, fun j hj => by rw [h.dot j hj]; exact ha j hj⟩⟩
end

theorem getD_out {l : List Int} {m : Nat} (h : l.length ≤ m) : l.getD m 0 = 0 := by simp [List.getD, List.getElem?_eq_none h]
def vecOf (l : List Int) : Vec := ⟨l.getD 0 0, l.getD 1 0, l.getD 2 0, l.getD 3 0, l.getD 4 0⟩
theorem vecOf_get {l : List Int} (h : l.length ≤ 5) (r : Int) : (vecOf l).get r = l.getD r.toNat 0 := by
  unfold Vec.get vecOf Vec.list
  generalize r.toNat = m
  match m with
  | 0 => rfl
  | 1 => rfl
  | 2 => rfl
  | 3 => rfl
  | 4 => rfl
  | m + 5 => simp only [List.getD_cons_succ, List.getD_nil]; rw [getD_out (by omega)]
theorem vecOf_covers {l : List Int} (h : l.length ≤ 5) (d : Dot) : (vecOf l).covers d = seesV l d.rep d.seq := by
  unfold Vec.covers seesV; rw [vecOf_get h]
/-- What replica i of n has seen when T of its own are visible. -/
def sawOf (n i T : Nat) : List Int := (List.range n).map fun r => if r = i then (T : Int) else 0
theorem sawOf_len (n i T : Nat) : (sawOf n i T).length = n := by simp [sawOf]
theorem sawOf_get {n i T : Nat} (hi : i < n) (r : Nat) : (sawOf n i T).getD r 0 = if r = i then (T : Int) else 0 := by
  unfold sawOf
  by_cases h : r < n
  · simp [h]
  · rw [getD_out (by simp; omega), if_neg (by omega)]
def setPl (p : Place) : Prop := kindOf p.key = 115
/-- A transaction as the document has it. -/
structure TxOk (n i N : Nat) (t : RTx) : Prop where
  saw : ∃ T, T ≤ N ∧ t.saw = sawOf n i T
  ops : ∀ o, o ∈ t.ops → OpOk o ∧ (¬ o.kind = 1 → o.value.size ≤ maxLen)
  few : t.ops.length ≤ 16
structure HistI (n i : Nat) (hs : List RTx) : Prop where
  hi : i < n
  n5 : n ≤ 5
  tx : ∀ j (h : j < hs.length), hs[j].rep = i ∧ hs[j].seq = (j : Int) + 1 ∧ TxOk n i j hs[j]
theorem seq_wf {s : Int} (h0 : 0 ≤ s) (h1 : s ≤ 3000000) : (Lit.int .i64 s).wf = true := by
  have e1 : IntKind.i64.min = -9223372036854775808 := by decide
  have e2 : IntKind.i64.max = 9223372036854775807 := by decide
  simp only [Lit.wf, e1, e2, Bool.and_eq_true, decide_eq_true_eq]
  omega
section
theorem HistI.dot {n i : Nat} {hs : List RTx} (h : HistI n i hs) {j : Nat} (hj : j < hs.length) : (histOf hs).dot j = ⟨i, (j : Int) + 1⟩ := by
  have := h.tx j hj
  simp only [histOf, txAt_eq hj, this.1, this.2.1]
theorem HistI.sawAt {n i : Nat} {hs : List RTx} (h : HistI n i hs) {T : Nat} : SawAt hs (sawOf n i T) T := fun j hj => by
  have := h.tx j hj
  rw [txAt_eq hj, this.1, this.2.1]
  unfold seesV
  rw [Int.toNat_natCast, sawOf_get h.hi, if_pos rfl]
  rw [Bool.eq_iff_iff, decide_eq_true_eq, decide_eq_true_eq]; omega
theorem HistI.sees {n i : Nat} {hs : List RTx} (h : HistI n i hs) {k j : Nat} (hk : k < hs.length) (hj : j < hs.length) : ∃ T, T ≤ k ∧ (histOf hs).sees k j = decide (j < T) := by
  obtain ⟨T, hT, e⟩ := (h.tx k hk).2.2.saw
  refine ⟨T, hT, ?_⟩
  show seesV (txAt hs k).saw _ _ = _
  rw [txAt_eq hk, e]
  exact h.sawAt j hj
theorem HistI.ok {n i : Nat} {hs : List RTx} (h : HistI n i hs) : HsOk hs := by
  refine ⟨fun t ht o ho => ?_, fun j k hj hk e => ?_, fun j k hj hk hs' => ?_, fun a b c ha hb hc h1 h2 => ?_⟩
  · obtain ⟨j, hj, rfl⟩ := List.mem_iff_getElem.1 ht
    exact ((h.tx j hj).2.2.ops o ho).1
  · rw [h.dot hj, h.dot hk] at e
    injection e with _ e; omega
  · obtain ⟨T, hT, e⟩ := h.sees hk hj
    rw [e] at hs'
    have := of_decide_eq_true hs'; omega
  · obtain ⟨T, hT, e⟩ := h.sees hc hb
    obtain ⟨T', hT', e'⟩ := h.sees hb ha
    rw [e] at h1; rw [e'] at h2
    have q1 := of_decide_eq_true h1
    have q2 := of_decide_eq_true h2
    -- c saw b, b saw a
    obtain ⟨T3, hT3, e3⟩ := (h.tx c hc).2.2.saw
    have f : ∀ j, j < hs.length → (histOf hs).sees c j = decide (j < T3) := fun j hj => by
      show seesV (txAt hs c).saw _ _ = _
      rw [txAt_eq hc, e3]; exact h.sawAt j hj
    have g1 := f b hb
    rw [e] at g1
    rw [f a ha]
    have : b < T3 := by have := g1.symm; rw [decide_eq_true q1] at this; exact of_decide_eq_true this
    exact decide_eq_true (by omega)
theorem HistI.hok {n i : Nat} {hs : List RTx} (h : HistI n i hs) (hN : hs.length ≤ 2000000) : (histOf hs).Ok hs.length := by
  refine ⟨h.ok.inj, fun j hj => ?_, fun j hj => ?_⟩
  · rw [h.dot hj]; show (j : Int) + 1 ≠ 0; omega
  · rw [h.dot hj]
    have h1 := h.hi
    have h2 := h.n5
    exact ⟨by show (0 : Int) ≤ (i : Int); omega, by show (i : Int) < 5; omega, seq_wf (s := (j : Int) + 1) (by omega) (by omega)⟩
theorem HistI.snoc {n i : Nat} {hs : List RTx} (h : HistI n i hs) {t : RTx} (hr : t.rep = i) (hq : t.seq = (hs.length : Int) + 1) (ht : TxOk n i hs.length t) : HistI n i (hs ++ [t]) := by
  refine ⟨h.hi, h.n5, fun j hj => ?_⟩
  by_cases c : j < hs.length
  · rw [List.getElem_append_left c]; exact h.tx j c
  · have e : j = hs.length := by simp at hj; omega
    subst e
    rw [List.getElem_append_right (Nat.le_refl _)]
    simp [hr, hq, ht]
end
theorem hist_same (hs : List RTx) (t : RTx) : Hist.Same (histOf hs) (histOf (hs ++ [t])) hs.length := by
  have e : ∀ j, j < hs.length → txAt (hs ++ [t]) j = txAt hs j := fun j hj => by
    rw [txAt_eq (by simp; omega), txAt_eq hj, List.getElem_append_left hj]
  exact ⟨fun j hj => by simp only [histOf, e j hj], fun j hj => by simp only [histOf, e j hj], fun k j hk hj => by simp only [histOf, e j hj, e k hk]⟩

end Go.Proofs.YtiplgdkpnhamaaaGreatDoor

/- A replica that hears of nobody: each call keeps the plain store beside the document's replica, and what is read is the same. -/
namespace Go.Proofs.YtiplgdkpnhamaaaGreatDoor
open Go.RowKit

theorem own_mem {p : Place} (ops : List ROp) : (ownOf ops p).isSome → p ∈ ops.map plOf := by
  induction ops using snoc_ind with
  | h0 => intro h; cases h
  | h1 ops o ih =>
    intro h
    rw [ownOf_snoc] at h
    unfold putM at h
    rw [List.map_append, List.mem_append]
    split at h
    · rename_i c; exact Or.inr (by simp [c])
    · exact Or.inl (ih h)
theorem putWr_kind (m : Place → Option Wr) (p : Place) (x : Wr) : (putWr m p x).kind = x.kind := by unfold putWr; split <;> rfl
theorem own_kinds {p : Place} (ops : List ROp) : (∀ o, o ∈ ops → OpOk o ∧ (¬ o.kind = 1 → o.value.size ≤ maxLen)) → ∀ x, ownOf ops p = some x → ((x.kind = 0 ∧ kindOf p.key = 99) ∨ (x.kind = 1 ∧ kindOf p.key = 114) ∨ ((x.kind = 2 ∨ x.kind = 3) ∧ kindOf p.key = 115)) ∧ p.Ok := by
  induction ops using snoc_ind with
  | h0 => intro _ x hx; cases hx
  | h1 ops o ih =>
    intro h x hx
    rw [ownOf_snoc] at hx
    unfold putM at hx
    split at hx
    · rename_i c
      subst c
      cases hx
      obtain ⟨ho, hv⟩ := h o (by simp)
      have hkey := ho.key
      have hkz : kindOf o.key ≠ 0 := by rw [hkey]; unfold kindByte; split
                                        · omega
                                        · split <;> omega
      have hsz : o.key.size ≤ 8 := by
        by_cases c : 1 ≤ o.key.size ∧ o.key.size ≤ 8
        · exact c.2
        · exact absurd (kindOf_long c) hkz
      have hpk : (plOf o).key = o.key := by unfold plOf; split <;> rfl
      have hok : (plOf o).Ok := by
        refine ⟨by rw [hpk]; unfold maxLen; omega, ?_⟩
        unfold plOf
        split
        · show (⟨#[]⟩ : ByteArray).size ≤ _; exact Nat.zero_le _
        · rename_i c; exact hv (fun e => c (Or.inl e))
      refine ⟨?_, hok⟩
      rw [hpk, hkey]
      rw [putWr_kind]
      rcases ho.kind with k | k | k | k
      · left; unfold wrOf; rw [if_pos k]; exact ⟨rfl, by rw [k]; rfl⟩
      · right; left; unfold wrOf; rw [if_neg (by omega), if_pos k]; exact ⟨rfl, by rw [k]; rfl⟩
      · right; right; unfold wrOf; rw [if_neg (by omega), if_neg (by omega), if_pos k]; exact ⟨Or.inl rfl, by rw [k]; rfl⟩
      · right; right; unfold wrOf; rw [if_neg (by omega), if_neg (by omega), if_neg (by omega)]; exact ⟨Or.inr rfl, by rw [k]; rfl⟩
    · exact ih (fun o ho => h o (by simp [ho])) x hx

structure RepOk (n i : Nat) (d : DRep) (st : St) (sl : Nat → Nat) : Prop where
  hist : HistI n i d.hs
  vis : d.vis = sawOf n i d.hs.length
  svis : st.vis = vecOf d.vis
  ginv : GInv (histOf d.hs) setPl d.hs.length st
  ssaw : ∀ s, s ∈ st.snaps → ∃ T, T ≤ d.hs.length ∧ s.saw = vecOf (sawOf n i T)
  six : ∀ k, 6 ≤ k → d.opn k = none
  opn : ∀ k t, d.opn k = some t → TxOk n i d.hs.length t ∧ ∃ s, s ∈ st.snaps ∧ s.blk = sl k ∧ s.saw = vecOf t.saw
  slinj : ∀ k k', (d.opn k).isSome → (d.opn k').isSome → sl k = sl k' → k = k'
def noSt : St := ⟨⟨0, 0, 0, 0, 0⟩, fun _ => none, fun _ => [], fun _ _ => false, []⟩
theorem sawOf_zero (n i : Nat) : sawOf n i 0 = List.replicate n 0 := by
  unfold sawOf
  apply List.ext_getElem?
  intro r
  by_cases h : r < n
  · simp [h]
  · simp [h]
theorem RepOk.new {n i : Nat} (hi : i < n) (hn : n ≤ 5) (sl : Nat → Nat) : RepOk n i ⟨[], List.replicate n 0, fun _ => none⟩ noSt sl := by
  refine ⟨⟨hi, hn, fun j hj => by simp at hj⟩, (sawOf_zero n i).symm, ?_, ⟨⟨fun p d => by simp [noSt], fun p => by simp [noSt], fun p d hd => by simp [noSt] at hd, fun x v hv => by simp [noSt] at hv, fun s hs => by simp [noSt] at hs, by simp [noSt]⟩, fun p => ⟨fun d v hv => by simp [noSt] at hv, fun j hj => by simp at hj, fun s hs => by simp [noSt] at hs⟩, fun q _ hc => by simp [noSt] at hc, by simp [KNod, noSt], fun j hj => by simp at hj, fun s hs => by simp [noSt] at hs⟩, fun s hs => by simp [noSt] at hs, fun _ _ => rfl, fun k t ht => by simp at ht, fun k k' hk => by simp at hk⟩
  show (⟨0, 0, 0, 0, 0⟩ : Vec) = vecOf (List.replicate n 0)
  have : ∀ m, (List.replicate n (0 : Int)).getD m 0 = 0 := fun m => by
    by_cases h : m < n <;> simp [List.getD, h]
  simp only [vecOf, this]
section
variable {n i : Nat} {d : DRep} {st : St} {sl : Nat → Nat}
theorem RepOk.begin_ (h : RepOk n i d st sl) {k b : Nat} (hk : k < 6) (hf : d.opn k = none) (hb : b ∉ st.snaps.map Snap.blk) : RepOk n i { d with opn := setSlot d.opn k (some ⟨0, 0, d.vis, []⟩) } (openSt st b) (fun q => if q = k then b else sl q) := by
  refine ⟨h.hist, h.vis, h.svis, h.ginv.open_ hb, fun s hs => ?_, fun q hq => ?_, fun q t ht => ?_, fun q q' hq hq' e => ?_⟩
  · have hs' : s ∈ st.snaps ++ [(⟨b, st.vis, []⟩ : Snap)] := hs
    rw [List.mem_append, List.mem_singleton] at hs'
    rcases hs' with c | rfl
    · exact h.ssaw s c
    · exact ⟨d.hs.length, Nat.le_refl _, by rw [← h.vis]; exact h.svis⟩
  · show setSlot d.opn k _ q = none
    rw [setSlot_other (by omega)]; exact h.six q hq
  · have ht' : setSlot d.opn k (some ⟨0, 0, d.vis, []⟩) q = some t := ht
    by_cases c : q = k
    · subst c
      rw [setSlot_same] at ht'
      cases ht'
      refine ⟨⟨⟨d.hs.length, Nat.le_refl _, h.vis⟩, fun o ho => by simp at ho, by simp⟩, ⟨b, st.vis, []⟩, ?_, by simp, h.svis⟩
      show _ ∈ st.snaps ++ [(⟨b, st.vis, []⟩ : Snap)]
      simp
    · rw [setSlot_other c] at ht'
      obtain ⟨a1, s, a2, a3, a4⟩ := h.opn q t ht'
      refine ⟨a1, s, ?_, by simp [c, a3], a4⟩
      show s ∈ st.snaps ++ [(⟨b, st.vis, []⟩ : Snap)]
      simp [a2]
  · have hin : ∀ q, q ≠ k → (setSlot d.opn k (some ⟨0, 0, d.vis, []⟩) q).isSome → sl q ∈ st.snaps.map Snap.blk ∧ (d.opn q).isSome := fun q hqk hq => by
      rw [setSlot_other hqk] at hq
      obtain ⟨t, ht⟩ := Option.isSome_iff_exists.1 hq
      obtain ⟨-, s, a2, a3, -⟩ := h.opn q t ht
      exact ⟨List.mem_map.2 ⟨s, a2, a3⟩, hq⟩
    by_cases c : q = k <;> by_cases c' : q' = k
    · rw [c, c']
    · simp only [c, c', if_true, if_false] at e
      exact absurd (by rw [e]; exact (hin q' c' hq').1) hb
    · simp only [c, c', if_true, if_false] at e
      exact absurd (by rw [← e]; exact (hin q c hq).1) hb
    · simp only [c, c', if_false] at e
      exact h.slinj q q' (hin q c hq).2 (hin q' c' hq').2 e
theorem RepOk.does (h : RepOk n i d st sl) {k : Nat} {t : RTx} (ht : d.opn k = some t) {o : ROp} (ho : OpOk o) (hv : ¬ o.kind = 1 → o.value.size ≤ maxLen) (hl : t.ops.length < 16) : RepOk n i { d with opn := setSlot d.opn k (some { t with ops := t.ops ++ [o] }) } st sl := by
  have hiff : ∀ q, (setSlot d.opn k (some { t with ops := t.ops ++ [o] }) q).isSome = (d.opn q).isSome := fun q => by
    by_cases c : q = k
    · subst c; rw [setSlot_same, ht]; rfl
    · rw [setSlot_other c]
  refine ⟨h.hist, h.vis, h.svis, h.ginv, h.ssaw, fun q hq => ?_, fun q u hu => ?_, fun q q' hq hq' e => h.slinj q q' (by rw [← hiff]; exact hq) (by rw [← hiff]; exact hq') e⟩
  · have := hiff q
    rw [h.six q hq] at this
    simpa using this
  · have hu' : setSlot d.opn k (some { t with ops := t.ops ++ [o] }) q = some u := hu
    by_cases c : q = k
    · subst c
      rw [setSlot_same] at hu'
      cases hu'
      obtain ⟨a1, a2⟩ := h.opn q t ht
      refine ⟨⟨a1.saw, fun p hp => ?_, by simp only [List.length_append, List.length_cons, List.length_nil]; omega⟩, a2⟩
      have hp' : p ∈ t.ops ++ [o] := hp
      rw [List.mem_append, List.mem_singleton] at hp'
      rcases hp' with c | rfl
      · exact a1.ops p c
      · exact ⟨ho, hv⟩
    · rw [setSlot_other c] at hu'
      exact h.opn q u hu'
theorem entrusts_but : ∀ (l : List VName) (st : St), (∀ s', s' ∈ (l.foldl entrustSt st).snaps → ∃ s, s ∈ st.snaps ∧ s'.saw = s.saw ∧ s'.blk = s.blk) ∧ (l.foldl entrustSt st).snaps.map Snap.blk = st.snaps.map Snap.blk ∧ (l.foldl entrustSt st).vis = st.vis
  | [], st => ⟨fun s hs => ⟨s, hs, rfl, rfl⟩, rfl, rfl⟩
  | x :: l, st => by
    obtain ⟨a, b, c⟩ := entrusts_but l (entrustSt st x)
    refine ⟨fun s' hs' => ?_, by rw [List.foldl_cons, b, entrust_snaps], by rw [List.foldl_cons, c, entrust_vis]⟩
    obtain ⟨s, h1, h2, h3⟩ := a s' hs'
    obtain ⟨s0, g1, g2, g3, -⟩ := entrust_but st x s h1
    exact ⟨s0, g1, h2.trans g2, h3.trans g3⟩
theorem blk_inj {l : List Snap} (h : (l.map Snap.blk).Nodup) {s s' : Snap} (hs : s ∈ l) (hs' : s' ∈ l) (e : s.blk = s'.blk) : s = s' := by
  induction l with
  | nil => simp at hs
  | cons a l ih =>
    rw [List.map_cons, List.nodup_cons] at h
    rcases List.mem_cons.1 hs with c | c <;> rcases List.mem_cons.1 hs' with c' | c'
    · rw [c, c']
    · exact absurd (List.mem_map.2 ⟨s', c', by rw [← e, c]⟩) h.1
    · exact absurd (List.mem_map.2 ⟨s, c, by rw [e, c']⟩) h.1
    · exact ih h.2 c c'
theorem RepOk.close (h : RepOk n i d st sl) (hN : d.hs.length ≤ 2000000) {k : Nat} {t : RTx} (ht : d.opn k = some t) {s : Snap} (hs : s ∈ st.snaps) (hb : s.blk = sl k) : RepOk n i { d with opn := setSlot d.opn k none } (closeSt st s) sl := by
  obtain ⟨e1, e2, e3⟩ := entrusts_but s.kept { st with snaps := st.snaps.filter fun t => !decide (t.blk = s.blk) }
  have hback : ∀ s', s' ∈ (closeSt st s).snaps → ∃ s0, s0 ∈ st.snaps ∧ s'.saw = s0.saw ∧ s'.blk = s0.blk := fun s' hs' => by
    obtain ⟨s0, a, b, c⟩ := e1 s' hs'
    exact ⟨s0, (List.mem_filter.1 a).1, b, c⟩
  have hsome : ∀ q, (setSlot d.opn k none q).isSome → q ≠ k ∧ (d.opn q).isSome := fun q hq => by
    by_cases c : q = k
    · subst c; rw [setSlot_same] at hq; cases hq
    · rw [setSlot_other c] at hq; exact ⟨c, hq⟩
  refine ⟨h.hist, h.vis, e3.trans h.svis, h.ginv.close (h.hist.hok hN) hs, fun s' hs' => ?_, fun q hq => ?_, fun q u hu => ?_, fun q q' hq hq' e => h.slinj q q' (hsome q hq).2 (hsome q' hq').2 e⟩
  · obtain ⟨s0, a, b, -⟩ := hback s' hs'
    rw [b]; exact h.ssaw s0 a
  · show setSlot d.opn k none q = none
    unfold setSlot
    split
    · rfl
    · exact h.six q hq
  · have hu' : setSlot d.opn k none q = some u := hu
    obtain ⟨hqk, hqs⟩ := hsome q (by rw [hu']; rfl)
    rw [setSlot_other hqk] at hu'
    obtain ⟨a1, s1, a2, a3, a4⟩ := h.opn q u hu'
    refine ⟨a1, ?_⟩
    have hne : s1.blk ≠ s.blk := fun e => hqk (h.slinj q k hqs (by rw [ht]; rfl) (by rw [← a3, ← hb]; exact e))
    have hm : s1.blk ∈ (closeSt st s).snaps.map Snap.blk := by
      unfold closeSt
      rw [e2]
      exact List.mem_map.2 ⟨s1, List.mem_filter.2 ⟨a2, by simpa using hne⟩, rfl⟩
    obtain ⟨s2, g1, g2⟩ := List.mem_map.1 hm
    obtain ⟨s0, f1, f2, f3⟩ := hback s2 g1
    have : s0 = s1 := blk_inj h.ginv.wf.blks f1 a2 (f3.symm.trans g2)
    subst this
    exact ⟨s2, g1, g2.trans a3, f2.trans a4⟩
/-- What the store may hold. -/
theorem RepOk.came_len (h : RepOk n i d st sl) (p : Place) : (st.came p).length ≤ d.hs.length := came_bound h.ginv.wf (h.ginv.pl p) (Nat.le_refl _)
theorem wr_places (hs : List RTx) (j : Nat) (p : Place) (hw : ((histOf hs).wr j p).isSome) : p ∈ (txAt hs j).ops.map plOf := own_mem _ hw
theorem RepOk.kept_len (h : RepOk n i d st sl) : ∀ s, s ∈ st.snaps → s.kept.length ≤ 16 * d.hs.length := by
  refine kept_bound (H := histOf d.hs) h.ginv.kn (fun p => ⟨_, Nat.le_refl _, h.ginv.pl p⟩) (pl := fun j => (txAt d.hs j).ops.map plOf) (fun j => ?_) (fun j p _ hw => wr_places d.hs j p hw)
  rw [List.length_map]
  by_cases c : j < d.hs.length
  · rw [txAt_eq c]; exact (h.hist.tx j c).2.2.few
  · simp [txAt, c]
/-- The transaction that is committed: what is asked of its writes. -/
theorem RepOk.wrOk (h : RepOk n i d st sl) (hN : d.hs.length ≤ 1500000) {t : RTx} (ht : TxOk n i d.hs.length t) : WrOk (histOf (d.hs ++ [done i d t])) setPl d.hs.length (vecOf t.saw) st.vis := by
  have hseq : d.vis.getD i 0 + 1 = (d.hs.length : Int) + 1 := by rw [h.vis, sawOf_get h.hist.hi, if_pos rfl]
  have hH : HistI n i (d.hs ++ [done i d t]) := h.hist.snoc (t := done i d t) rfl hseq ⟨ht.saw, ht.ops, ht.few⟩
  have hlen : (d.hs ++ [done i d t]).length = d.hs.length + 1 := by simp
  have hlast : txAt (d.hs ++ [done i d t]) d.hs.length = done i d t := by simp [txAt]
  have hwr : ∀ p, (histOf (d.hs ++ [done i d t])).wr d.hs.length p = ownOf t.ops p := fun p => by
    show ownOf (txAt _ _).ops p = _
    rw [hlast]; rfl
  have hkd := fun p => own_kinds (p := p) t.ops ht.ops
  refine ⟨by have := hH.hok (by rw [hlen]; omega); rwa [hlen] at this, fun p x hx => ?_, fun p x hx => ?_, fun p x hx hk j y hj hy => ?_, fun j hj => ?_, fun j hj => ?_, fun p hp => ?_⟩
  · rw [hwr] at hx
    have := (hkd p x hx).1; omega
  · rw [hwr] at hx
    have := (hkd p x hx).1
    unfold setPl; omega
  · rw [hwr] at hx
    have h1 := (hkd p x hx).1
    rw [(hist_same d.hs (done i d t)).wr j hj] at hy
    have hy' : ownOf (txAt d.hs j).ops p = some y := hy
    rw [txAt_eq hj] at hy'
    have h2 := (own_kinds (p := p) d.hs[j].ops (h.hist.tx j hj).2.2.ops y hy').1
    omega
  · rw [hH.dot (by omega), h.svis, h.vis, vecOf_covers (by rw [sawOf_len]; exact h.hist.n5)]
    have := h.hist.sawAt (T := d.hs.length) j hj
    rw [txAt_eq hj, (h.hist.tx j hj).1, (h.hist.tx j hj).2.1] at this
    rw [this]; simpa using hj
  · rw [hH.dot (by omega)]
    obtain ⟨T, -, e⟩ := ht.saw
    rw [vecOf_covers (by rw [e, sawOf_len]; exact h.hist.n5)]
    show seesV (txAt _ _).saw (txAt _ j).rep (txAt _ j).seq = _
    rw [hlast, txAt_eq (hs := d.hs ++ [done i d t]) (by omega), (hH.tx j (by omega)).1, (hH.tx j (by omega)).2.1]
    rfl
  · rw [hwr] at hp
    obtain ⟨x, hx⟩ := Option.isSome_iff_exists.1 hp
    exact (hkd p x hx).2
theorem RepOk.start (h : RepOk n i d st sl) (t : RTx) : MInv (histOf (d.hs ++ [done i d t])) setPl d.hs.length (fun p => (ownOf t.ops p).isSome) st st := by
  have := ((hist_same d.hs (done i d t)).ginv h.ginv).begin_
  have e : (fun p => ((histOf (d.hs ++ [done i d t])).wr d.hs.length p).isSome) = fun p => (ownOf t.ops p).isSome := by
    funext p
    show (ownOf (txAt _ _).ops p).isSome = _
    have hlast : txAt (d.hs ++ [done i d t]) d.hs.length = done i d t := by simp [txAt]
    rw [hlast]; rfl
  rw [e] at this
  exact this
theorem RepOk.finish (h : RepOk n i d st sl) {t : RTx} (ht : TxOk n i d.hs.length t) {left : Place → Bool} {st' : St} (hM : MInv (histOf (d.hs ++ [done i d t])) setPl d.hs.length left st st') (hl : ∀ p, left p = false) :
    RepOk n i ⟨d.hs ++ [done i d t], d.vis.set i (d.vis.getD i 0 + 1), d.opn⟩ { st' with vis := vecOf (sawOf n i (d.hs.length + 1)) } sl := by
  have hseq : d.vis.getD i 0 + 1 = (d.hs.length : Int) + 1 := by rw [h.vis, sawOf_get h.hist.hi, if_pos rfl]
  have hH : HistI n i (d.hs ++ [done i d t]) := h.hist.snoc (t := done i d t) rfl hseq ⟨ht.saw, ht.ops, ht.few⟩
  have hlen : (d.hs ++ [done i d t]).length = d.hs.length + 1 := by simp
  have hvis : d.vis.set i (d.vis.getD i 0 + 1) = sawOf n i (d.hs.length + 1) := by
    rw [hseq, h.vis]
    unfold sawOf
    apply List.ext_getElem?
    intro r
    rw [List.getElem?_set]
    by_cases c : r < n
    · by_cases e : i = r
      · subst e; simp [c]
      · simp [c, e, Ne.symm e]
    · have : i ≠ r := by have := h.hist.hi; omega
      simp [c, this]
  have hcov : ∀ T j, j < d.hs.length + 1 → (vecOf (sawOf n i T)).covers ((histOf (d.hs ++ [done i d t])).dot j) = decide (j < T) := fun T j hj => by
    rw [vecOf_covers (by rw [sawOf_len]; exact h.hist.n5)]
    exact hH.sawAt (T := T) j (by omega)
  have hG := (hist_same d.hs (done i d t)).ginv h.ginv
  have hE := hM.end_ hG hl (fun s hs => by
    obtain ⟨T, hT, e⟩ := h.ssaw s hs
    rw [e, hcov T _ (by omega)]; simp; omega) (v := vecOf (sawOf n i (d.hs.length + 1))) (fun j hj => by rw [hcov _ j hj]; simpa using hj)
  refine ⟨hH, by show d.vis.set i _ = sawOf n i (d.hs ++ [done i d t]).length; rw [hvis, hlen], by show vecOf _ = vecOf (d.vis.set i _); rw [hvis], by rw [hlen]; exact hE, fun s hs => ?_, h.six, fun k u hu => ?_, h.slinj⟩
  · obtain ⟨s0, a, b, -⟩ := hM.snaps s hs
    obtain ⟨T, hT, e⟩ := h.ssaw s0 a
    exact ⟨T, by rw [hlen]; omega, by rw [b]; exact e⟩
  · obtain ⟨a1, s1, a2, a3, a4⟩ := h.opn k u hu
    obtain ⟨T, hT, e⟩ := a1.saw
    refine ⟨⟨⟨T, by rw [hlen]; omega, e⟩, a1.ops, a1.few⟩, ?_⟩
    have hm : s1.blk ∈ st'.snaps.map Snap.blk := by rw [hM.blks]; exact List.mem_map.2 ⟨s1, a2, rfl⟩
    obtain ⟨s2, g1, g2⟩ := List.mem_map.1 hm
    obtain ⟨s0, f1, f2, f3⟩ := hM.snaps s2 g1
    have : s0 = s1 := blk_inj h.ginv.wf.blks f1 a2 (f3.symm.trans g2)
    subst this
    exact ⟨s2, g1, g2.trans a3, f2.trans a4⟩

/-- What an open transaction is told. -/
theorem RepOk.at_ (h : RepOk n i d st sl) {t : RTx} (ht : TxOk n i d.hs.length t) : ∃ T, T ≤ d.hs.length ∧ SawAt d.hs t.saw T ∧ (histOf d.hs).at (vecOf t.saw) T d.hs.length ∧ t.saw = sawOf n i T := by
  obtain ⟨T, hT, e⟩ := ht.saw
  refine ⟨T, hT, by rw [e]; exact h.hist.sawAt, fun j hj => ?_, e⟩
  rw [e, vecOf_covers (by rw [sawOf_len]; exact h.hist.n5)]
  exact h.hist.sawAt j hj
theorem RepOk.tellsSum (h : RepOk n i d st sl) (hN : d.hs.length ≤ 2000000) {t : RTx} (ht : TxOk n i d.hs.length t) {s : Snap} (hs : s ∈ st.snaps) (e : s.saw = vecOf t.saw) {key : ByteArray} (hk : kindOf key = 99) {l : List Dot} (hl : l.Perm (toldRaw (vecOf t.saw) st ⟨key, noEl⟩)) :
    l.foldl (fun a x => wrap64 (a + (verAt st.vers ⟨⟨key, noEl⟩, x⟩).sum)) 0 = counterOf t.saw key d.hs := by
  obtain ⟨T, hT, hS, ha, -⟩ := h.at_ ht
  rw [counter_total hk h.hist.ok.ops hS hT]
  refine sum_told h.ginv (h.hist.hok hN) hs e hT ha (fun j x hj hx => ?_) hl
  have hx' : ownOf (txAt d.hs j).ops ⟨key, noEl⟩ = some x := hx
  rw [txAt_eq hj] at hx'
  exact (own_cnt hk _ (h.hist.ok.ops _ (List.getElem_mem hj))).2 x hx'
theorem RepOk.tellsReg (h : RepOk n i d st sl) (hN : d.hs.length ≤ 2000000) {t : RTx} (ht : TxOk n i d.hs.length t) {s : Snap} (hs : s ∈ st.snaps) (e : s.saw = vecOf t.saw) {key : ByteArray} (hk : kindOf key = 114) {l : List Dot} (hl : l.Perm (toldRaw (vecOf t.saw) st ⟨key, noEl⟩)) (hsort : l.Pairwise dotLt) :
    (l.map fun x => (verAt st.vers ⟨⟨key, noEl⟩, x⟩).value) = registerOf t.saw key d.hs n := by
  obtain ⟨T, hT, hS, ha, e0⟩ := h.at_ ht
  have hO := h.hist.hok hN
  refine register_told hk h.hist.ok hS hT (fun r q hr hq => ?_) (fun j hj => ⟨i, j, h.hist.hi, h.hist.dot (by omega)⟩) hsort (fun x => (hl.mem_iff).trans (told_mem h.ginv hO hs e hT ha _ x)) (fun j x hj hx => ?_)
  · rw [e0, sawOf_get h.hist.hi] at hq
    split at hq
    · rename_i c
      subst c
      exact ⟨q, by omega, h.hist.dot (by omega)⟩
    · omega
  · have hj1 := hj.1
    have hd : (histOf d.hs).dot j ∈ toldRaw (vecOf t.saw) st ⟨key, noEl⟩ := (told_mem h.ginv hO hs e hT ha _ _).2 ⟨j, hj, rfl⟩
    obtain ⟨q, hq1, hq2, hq3, hq4⟩ := told_ver h.ginv hd
    have : j = q := hO.inj j q (by omega) hq1 hq2
    subst this
    rw [hq4]
    have hx' := hx
    have : (histOf d.hs).wr j ⟨key, noEl⟩ = (lastOf key noEl (txAt d.hs j).ops).map fun o => ⟨1, 0, o.value⟩ := own_reg hk _ (h.hist.ok.ops _ (by rw [txAt_eq hq1]; exact List.getElem_mem hq1))
    rw [this, Option.map_eq_some_iff] at hx'
    obtain ⟨o, -, rfl⟩ := hx'
    unfold Hist.verOf
    rw [hx]; rfl
theorem RepOk.tellsSet (h : RepOk n i d st sl) (hN : d.hs.length ≤ 2000000) {t : RTx} (ht : TxOk n i d.hs.length t) {s : Snap} (hs : s ∈ st.snaps) (e : s.saw = vecOf t.saw) {key : ByteArray} (hk : kindOf key = 115) (a : ByteArray) :
    (toldRaw (vecOf t.saw) st ⟨key, a⟩ ≠ [] ↔ a ∈ setOf t.saw key d.hs) ∧ (toldRaw (vecOf t.saw) st ⟨key, a⟩ ≠ [] → st.els key a = true) := by
  obtain ⟨T, hT, hS, ha, e0⟩ := h.at_ ht
  have hO := h.hist.hok hN
  refine ⟨?_, fun hc => h.ginv.els ⟨key, a⟩ hk fun c => hc ?_⟩
  · rw [set_told hk h.hist.ok hS hT a]
    constructor
    · intro hc
      cases hl : toldRaw (vecOf t.saw) st ⟨key, a⟩ with
      | nil => exact absurd hl hc
      | cons x l =>
        obtain ⟨j, hj, -⟩ := (told_mem h.ginv hO hs e hT ha ⟨key, a⟩ x).1 (by rw [hl]; simp)
        exact ⟨j, hj⟩
    · rintro ⟨j, hj⟩ hc
      have := (told_mem h.ginv hO hs e hT ha ⟨key, a⟩ _).2 ⟨j, hj, rfl⟩
      rw [hc] at this; simp at this
  · unfold toldRaw; rw [c]; rfl
end

end Go.Proofs.YtiplgdkpnhamaaaGreatDoor

/- The library's slices.IndexFunc, slices.DeleteFunc at snapshots. -/
namespace Go.Proofs.YtiplgdkpnhamaaaGreatDoor
open Go.RowKit

abbrev ptrCells (b : Nat) : List Value := [bptr b]

set_option maxRecDepth 100000 in
set_option maxHeartbeats 2000000 in
theorem idxf_snaps (w : World) (v : Value) (l : List Nat) (hrow : Row w 117 1 v l.length (l.flatMap ptrCells)) (g : Nat) (lb : Array Value) (p : Nat → Bool) (eg : ∀ args w, (callFunc g args).run Tryz.prog w = .ok (.enter g args) w)
    (hcl : ∀ W, Below w.heap.size w W → ∀ d : Nat, d ∈ l → Calls Tryz.prog g (#[bptr d] ++ lb) W fun e w' => e = .returned (.bool (p d)) ∧ Below W.heap.size W w') :
    Calls Tryz.prog 175 #[v, .func (.func g) #[] lb] w fun e w' => e = .returned (.int .i64 (idxP p l)) ∧ Below w.heap.size w w' := by
  obtain ⟨ao, cap, rfl, hcap, hm, hcell⟩ := hrow.shape
  unfold maxLen at hm
  have HC := hide hcl
  have HL := hide hcell
  clear hrow hcl hcell
  go_enter Tryz.func175, Tryz.ntmps175
  go_wp2_with fail
  go_loopw [8] (fun i wr => ∃ k : Nat, k ≤ l.length ∧ i = .int .i64 k ∧ Hid (∀ j (hj : j < l.length), j < k → p l[j] = false) ∧ Below w.heap.size w wr) (fun i _ => l.length - (intOf i).toNat)
  case atStart => exact ⟨0, Nat.zero_le _, rfl, fun j _ h => absurd h (Nat.not_lt_zero _), Below.refl _ _⟩
  case round =>
    obtain ⟨k, hk, rfl, hno, hB⟩ := hrel
    by_cases hlk : k < l.length
    · obtain ⟨g0, e0, h0⟩ := HL.out (k * 1 + 0) (by omega)
      subst e0
      rw [flat_get _ 1 (fun _ => rfl) _ _ _ hlk (by omega)] at h0
      simp only [ptrCells, List.getElem?_cons_zero, Nat.add_zero, Nat.mul_one] at h0
      have c0 := cell_later hB h0
      clear h0
      have hcall := HC.out wr hB l[k] (List.getElem_mem hlk)
      obtain ⟨d, hd⟩ : ∃ d, l[k] = d := ⟨_, rfl⟩
      have HD := hide hd
      rw [hd] at hcall c0
      clear hd
      cases hp : p d
      · rw [hp] at hcall
        have HCALL := hide hcall
        have HP := hide hp
        clear hcall hp
        go_wp2_with fail
        refine HCALL.out.mono ?_
        rintro e w1 ⟨rfl, hB1⟩
        go_wp2_with fail
        exact ⟨⟨k + 1, by omega, by go_num, fun j hj hjk => by
          by_cases c : j = k
          · subst c; rw [HD.out]; exact HP.out
          · exact hno.out j hj (by omega), hB.trans (hB1.mono hB.size)⟩, by simp [intOf]; omega⟩
      · rw [hp] at hcall
        have HCALL := hide hcall
        have HP := hide hp
        clear hcall hp
        go_wp2_with fail
        refine HCALL.out.mono ?_
        rintro e w1 ⟨rfl, hB1⟩
        go_wp2_with fail
        go_ret
        exact ⟨ret_int (idxP_some hlk (by rw [HD.out]; exact HP.out) hno.out).symm, hB.trans (hB1.mono hB.size)⟩
    · go_wp2_with fail
      go_ret
      exact ⟨ret_int (idxP_none fun j hj => hno.out j hj (by omega)).symm, hB⟩

set_option maxRecDepth 100000 in
set_option maxHeartbeats 4000000 in
theorem delf_snaps (w : World) (v : Value) (l : List Nat) (hrow : Row w 117 1 v l.length (l.flatMap ptrCells)) (g : Nat) (lb : Array Value) (p : Nat → Bool) (eg : ∀ args w, (callFunc g args).run Tryz.prog w = .ok (.enter g args) w)
    (hcl : ∀ W, Touch (fun q => v.ownBlock = some q) w W → ∀ d : Nat, d ∈ l → Calls Tryz.prog g (#[bptr d] ++ lb) W fun e w' => e = .returned (.bool (p d)) ∧ Below W.heap.size W w') :
    Calls Tryz.prog 145 #[v, .func (.func g) #[] lb] w fun e w' => ∃ v', e = .returned v' ∧ Row w' 117 1 v' (l.filter fun x => !p x).length ((l.filter fun x => !p x).flatMap ptrCells) ∧ v'.ownBlock = v.ownBlock ∧ Touch (fun q => v.ownBlock = some q) w w' := by
  have hI := idxf_snaps w v l hrow g lb p eg (fun W hB => hcl W (Touch.ofBelow hB))
  rcases idxP_cases p l with ⟨e1, e2⟩ | ⟨k0, hk0, e1, hp0, e2⟩
  · rw [e1] at hI
    have HI := hide hI
    have HR := hide hrow
    clear hI hcl hrow
    go_enter Tryz.func145, Tryz.ntmps145
    go_wp2_with fail
    refine HI.out.mono ?_
    rintro e w1 ⟨rfl, hB1⟩
    go_wp2_with fail
    go_ret
    refine ⟨v, rfl, ?_, rfl, Touch.ofBelow hB1⟩
    rw [e2]
    exact Row.below HR.out hB1
  · rw [e1] at hI
    obtain ⟨g0, cap, rfl, hcap, hm, hg0, -, -⟩ := hrow.pos (by omega)
    unfold maxLen at hm
    have hne1 : ((k0 : Int) == -1) = false := beq_eq_false_iff_ne.2 (by omega)
    have HS := hide (Str.start hk0 hp0 e2)
    have HI := hide hI
    have HR := hide hrow
    have HC := hide hcl
    clear hI hcl hrow e1 e2 hp0
    go_enter Tryz.func145, Tryz.ntmps145
    go_wp2_with fail
    refine HI.out.mono ?_
    rintro e w1 ⟨rfl, hB1⟩
    go_wp2_with fail
    go_loopw [5, 6] (fun i j wr => ∃ (ii jj : Nat) (xs : List Nat), jj ≤ l.length ∧ ii < jj ∧ i = .int .i64 ii ∧ j = .int .i64 jj ∧ Hid (Str p l xs ii jj ∧ Row wr 117 1 (.slice (some ⟨g0, 0, none⟩) l.length cap) l.length (xs.flatMap ptrCells) ∧ Touch (fun q => (Value.slice (some ⟨g0, 0, none⟩) l.length cap).ownBlock = some q) w wr)) (fun _ j _ => l.length - (intOf j).toNat)
    case atStart => exact ⟨k0, k0 + 1, l, by omega, by omega, rfl, by go_num, HS.out, Row.below HR.out hB1, Touch.ofBelow hB1⟩
    case round =>
      obtain ⟨ii, jj, xs, hjl, hij, rfl, rfl, hst⟩ := hrel
      have hlen := hst.out.1.len
      by_cases hlj : jj < l.length
      · obtain ⟨_, _, e, -, -, hgl, hcell, hfro⟩ := Row.pos hst.out.2.1 (by omega)
        cases e
        have c0 := hcell (jj * 1 + 0) (by omega)
        rw [flat_get _ 1 (fun _ => rfl) _ _ _ (by omega) (by omega)] at c0
        have hx := hst.out.1.high jj hlj (Nat.le_refl _)
        rw [List.getElem?_eq_getElem (by omega)] at hx
        rw [Option.some.inj hx] at c0
        simp only [ptrCells, List.getElem?_cons_zero, Nat.add_zero, Nat.mul_one] at c0
        clear hcell hfro hx
        obtain ⟨d, hd⟩ : ∃ d, l[jj] = d := ⟨_, rfl⟩
        have HD := hide hd
        rw [hd] at c0
        clear hd
        have HCALL := hide (HC.out wr hst.out.2.2 d (by rw [← HD.out]; exact List.getElem_mem hlj))
        cases hp : p d
        · unfold Hid at HCALL
          rw [hp] at HCALL
          have HP := hide hp
          have HCA := hide HCALL
          clear hp HCALL
          go_wp2_with fail
          refine HCA.out.mono ?_
          rintro e w2 ⟨rfl, hB2⟩
          have hR2 := Row.below hst.out.2.1 hB2
          obtain ⟨_, _, e, -, -, hgl2, hcell, hfro⟩ := Row.pos hR2 (by omega)
          cases e
          have i0 := hcell (ii * 1 + 0) (by omega)
          have f0 := hfro ii
          rw [flat_get _ 1 (fun _ => rfl) _ _ _ (by omega) (by omega)] at i0
          simp only [ptrCells, List.getElem?_cons_zero, Nat.add_zero, Nat.mul_one] at i0
          have HR2 := hide hR2
          have HB3 := hide hB2
          clear hcell hfro hR2 hB2 c0
          generalize xs[ii]'(by omega) = old at i0
          go_wp2_with fail
          refine ⟨⟨ii + 1, jj + 1, xs.set ii d, by omega, by omega, by go_num, by go_num, ?_, ?_, ?_⟩, by simp [intOf]; omega⟩
          · have := hst.out.1.keep hlj (by rw [HD.out]; exact HP.out)
            rwa [HD.out] at this
          · have a := (World.ownsRow.stored HR2.out ii (bptr d)).1
            have e1 := flat_set ptrCells 1 (fun _ => rfl) xs ii 0 (by omega) (bptr d) d (by omega) rfl
            rw [Nat.add_zero, Nat.mul_one] at e1
            rw [e1] at a
            exact a
          · have a := hst.out.2.2.then ((Touch.ofBelow HB3.out))
            exact a.setCell (p := ⟨g0, ii, none⟩) (Or.inl rfl) _
        · unfold Hid at HCALL
          rw [hp] at HCALL
          have HP := hide hp
          have HCA := hide HCALL
          clear hp HCALL
          go_wp2_with fail
          refine HCA.out.mono ?_
          rintro e w2 ⟨rfl, hB3⟩
          clear c0
          go_wp2_with fail
          exact ⟨⟨ii, jj + 1, xs, by omega, by omega, rfl, by go_num, hst.out.1.skip hlj (by rw [HD.out]; exact HP.out), Row.below hst.out.2.1 hB3, hst.out.2.2.then (Touch.ofBelow hB3)⟩, by simp [intOf]; omega⟩
      · have hje : jj = l.length := by omega
        subst hje
        obtain ⟨q1, q2, q3⟩ := hst.out.1.done
        obtain ⟨w4, hrun, hR4, hg4⟩ := clear_row (P := Tryz.prog) (size := 1) (t := 181) (ty := 0) (z := .pointer none) (i := ii) Tryz.underlying181 (fun _ => by kernel_rfl) rfl (by intro u hu; simp [Value.cells] at hu; subst hu; rfl) hst.out.2.1 q3
        simp only [Nat.mul_one] at hrun
        have HR4 := hide hR4
        have HG4 := hide hg4
        have HQ := hide (⟨q1, q2⟩ : _ ∧ _)
        clear hR4 hg4 q1 q2
        go_wp2_with fail
        go_ret
        refine ⟨_, rfl, ?_, rfl, hst.out.2.2.grown HG4.out (fun k e => by cases e; exact Or.inl rfl)⟩
        have := HR4.out
        rw [flat_take _ 1 (fun _ => rfl), HQ.out.1] at this
        rw [← HQ.out.2]
        exact this

end Go.Proofs.YtiplgdkpnhamaaaGreatDoor

/- The library's slices.IndexFunc, slices.DeleteFunc at strings. -/
namespace Go.Proofs.YtiplgdkpnhamaaaGreatDoor
open Go.RowKit

abbrev strCells (s : ByteArray) : List Value := [.string s]

set_option maxRecDepth 100000 in
set_option maxHeartbeats 2000000 in
theorem idxf_strs (w : World) (v : Value) (l : List ByteArray) (hrow : Row w 9 1 v l.length (l.flatMap strCells)) (g : Nat) (lb : Array Value) (p : ByteArray → Bool) (eg : ∀ args w, (callFunc g args).run Tryz.prog w = .ok (.enter g args) w)
    (hcl : ∀ W, Below w.heap.size w W → ∀ d : ByteArray, d ∈ l → Calls Tryz.prog g (#[Value.string d] ++ lb) W fun e w' => e = .returned (.bool (p d)) ∧ Below W.heap.size W w') :
    Calls Tryz.prog 153 #[v, .func (.func g) #[] lb] w fun e w' => e = .returned (.int .i64 (idxP p l)) ∧ Below w.heap.size w w' := by
  obtain ⟨ao, cap, rfl, hcap, hm, hcell⟩ := hrow.shape
  unfold maxLen at hm
  have HC := hide hcl
  have HL := hide hcell
  clear hrow hcl hcell
  go_enter Tryz.func153, Tryz.ntmps153
  go_wp2_with fail
  go_loopw [8] (fun i wr => ∃ k : Nat, k ≤ l.length ∧ i = .int .i64 k ∧ Hid (∀ j (hj : j < l.length), j < k → p l[j] = false) ∧ Below w.heap.size w wr) (fun i _ => l.length - (intOf i).toNat)
  case atStart => exact ⟨0, Nat.zero_le _, rfl, fun j _ h => absurd h (Nat.not_lt_zero _), Below.refl _ _⟩
  case round =>
    obtain ⟨k, hk, rfl, hno, hB⟩ := hrel
    by_cases hlk : k < l.length
    · obtain ⟨g0, e0, h0⟩ := HL.out (k * 1 + 0) (by omega)
      subst e0
      rw [flat_get _ 1 (fun _ => rfl) _ _ _ hlk (by omega)] at h0
      simp only [strCells, List.getElem?_cons_zero, Nat.add_zero, Nat.mul_one] at h0
      have c0 := cell_later hB h0
      clear h0
      have hcall := HC.out wr hB l[k] (List.getElem_mem hlk)
      obtain ⟨d, hd⟩ : ∃ d, l[k] = d := ⟨_, rfl⟩
      have HD := hide hd
      rw [hd] at hcall c0
      clear hd
      cases hp : p d
      · rw [hp] at hcall
        have HCALL := hide hcall
        have HP := hide hp
        clear hcall hp
        go_wp2_with fail
        refine HCALL.out.mono ?_
        rintro e w1 ⟨rfl, hB1⟩
        go_wp2_with fail
        exact ⟨⟨k + 1, by omega, by go_num, fun j hj hjk => by
          by_cases c : j = k
          · subst c; rw [HD.out]; exact HP.out
          · exact hno.out j hj (by omega), hB.trans (hB1.mono hB.size)⟩, by simp [intOf]; omega⟩
      · rw [hp] at hcall
        have HCALL := hide hcall
        have HP := hide hp
        clear hcall hp
        go_wp2_with fail
        refine HCALL.out.mono ?_
        rintro e w1 ⟨rfl, hB1⟩
        go_wp2_with fail
        go_ret
        exact ⟨ret_int (idxP_some hlk (by rw [HD.out]; exact HP.out) hno.out).symm, hB.trans (hB1.mono hB.size)⟩
    · go_wp2_with fail
      go_ret
      exact ⟨ret_int (idxP_none fun j hj => hno.out j hj (by omega)).symm, hB⟩

set_option maxRecDepth 100000 in
set_option maxHeartbeats 4000000 in
theorem delf_strs (w : World) (v : Value) (l : List ByteArray) (hrow : Row w 9 1 v l.length (l.flatMap strCells)) (g : Nat) (lb : Array Value) (p : ByteArray → Bool) (eg : ∀ args w, (callFunc g args).run Tryz.prog w = .ok (.enter g args) w)
    (hcl : ∀ W, Touch (fun q => v.ownBlock = some q) w W → ∀ d : ByteArray, d ∈ l → Calls Tryz.prog g (#[Value.string d] ++ lb) W fun e w' => e = .returned (.bool (p d)) ∧ Below W.heap.size W w') :
    Calls Tryz.prog 109 #[v, .func (.func g) #[] lb] w fun e w' => ∃ v', e = .returned v' ∧ Row w' 9 1 v' (l.filter fun x => !p x).length ((l.filter fun x => !p x).flatMap strCells) ∧ v'.ownBlock = v.ownBlock ∧ Touch (fun q => v.ownBlock = some q) w w' := by
  have hI := idxf_strs w v l hrow g lb p eg (fun W hB => hcl W (Touch.ofBelow hB))
  rcases idxP_cases p l with ⟨e1, e2⟩ | ⟨k0, hk0, e1, hp0, e2⟩
  · rw [e1] at hI
    have HI := hide hI
    have HR := hide hrow
    clear hI hcl hrow
    go_enter Tryz.func109, Tryz.ntmps109
    go_wp2_with fail
    refine HI.out.mono ?_
    rintro e w1 ⟨rfl, hB1⟩
    go_wp2_with fail
    go_ret
    refine ⟨v, rfl, ?_, rfl, Touch.ofBelow hB1⟩
    rw [e2]
    exact Row.below HR.out hB1
  · rw [e1] at hI
    obtain ⟨g0, cap, rfl, hcap, hm, hg0, -, -⟩ := hrow.pos (by omega)
    unfold maxLen at hm
    have hne1 : ((k0 : Int) == -1) = false := beq_eq_false_iff_ne.2 (by omega)
    have HS := hide (Str.start hk0 hp0 e2)
    have HI := hide hI
    have HR := hide hrow
    have HC := hide hcl
    clear hI hcl hrow e1 e2 hp0
    go_enter Tryz.func109, Tryz.ntmps109
    go_wp2_with fail
    refine HI.out.mono ?_
    rintro e w1 ⟨rfl, hB1⟩
    go_wp2_with fail
    go_loopw [5, 6] (fun i j wr => ∃ (ii jj : Nat) (xs : List ByteArray), jj ≤ l.length ∧ ii < jj ∧ i = .int .i64 ii ∧ j = .int .i64 jj ∧ Hid (Str p l xs ii jj ∧ Row wr 9 1 (.slice (some ⟨g0, 0, none⟩) l.length cap) l.length (xs.flatMap strCells) ∧ Touch (fun q => (Value.slice (some ⟨g0, 0, none⟩) l.length cap).ownBlock = some q) w wr)) (fun _ j _ => l.length - (intOf j).toNat)
    case atStart => exact ⟨k0, k0 + 1, l, by omega, by omega, rfl, by go_num, HS.out, Row.below HR.out hB1, Touch.ofBelow hB1⟩
    case round =>
      obtain ⟨ii, jj, xs, hjl, hij, rfl, rfl, hst⟩ := hrel
      have hlen := hst.out.1.len
      by_cases hlj : jj < l.length
      · obtain ⟨_, _, e, -, -, hgl, hcell, hfro⟩ := Row.pos hst.out.2.1 (by omega)
        cases e
        have c0 := hcell (jj * 1 + 0) (by omega)
        rw [flat_get _ 1 (fun _ => rfl) _ _ _ (by omega) (by omega)] at c0
        have hx := hst.out.1.high jj hlj (Nat.le_refl _)
        rw [List.getElem?_eq_getElem (by omega)] at hx
        rw [Option.some.inj hx] at c0
        simp only [strCells, List.getElem?_cons_zero, Nat.add_zero, Nat.mul_one] at c0
        clear hcell hfro hx
        obtain ⟨d, hd⟩ : ∃ d, l[jj] = d := ⟨_, rfl⟩
        have HD := hide hd
        rw [hd] at c0
        clear hd
        have HCALL := hide (HC.out wr hst.out.2.2 d (by rw [← HD.out]; exact List.getElem_mem hlj))
        cases hp : p d
        · unfold Hid at HCALL
          rw [hp] at HCALL
          have HP := hide hp
          have HCA := hide HCALL
          clear hp HCALL
          go_wp2_with fail
          refine HCA.out.mono ?_
          rintro e w2 ⟨rfl, hB2⟩
          have hR2 := Row.below hst.out.2.1 hB2
          obtain ⟨_, _, e, -, -, hgl2, hcell, hfro⟩ := Row.pos hR2 (by omega)
          cases e
          have i0 := hcell (ii * 1 + 0) (by omega)
          have f0 := hfro ii
          rw [flat_get _ 1 (fun _ => rfl) _ _ _ (by omega) (by omega)] at i0
          simp only [strCells, List.getElem?_cons_zero, Nat.add_zero, Nat.mul_one] at i0
          have HR2 := hide hR2
          have HB3 := hide hB2
          clear hcell hfro hR2 hB2 c0
          generalize xs[ii]'(by omega) = old at i0
          go_wp2_with fail
          refine ⟨⟨ii + 1, jj + 1, xs.set ii d, by omega, by omega, by go_num, by go_num, ?_, ?_, ?_⟩, by simp [intOf]; omega⟩
          · have := hst.out.1.keep hlj (by rw [HD.out]; exact HP.out)
            rwa [HD.out] at this
          · have a := (World.ownsRow.stored HR2.out ii (Value.string d)).1
            have e1 := flat_set strCells 1 (fun _ => rfl) xs ii 0 (by omega) (Value.string d) d (by omega) rfl
            rw [Nat.add_zero, Nat.mul_one] at e1
            rw [e1] at a
            exact a
          · have a := hst.out.2.2.then ((Touch.ofBelow HB3.out))
            exact a.setCell (p := ⟨g0, ii, none⟩) (Or.inl rfl) _
        · unfold Hid at HCALL
          rw [hp] at HCALL
          have HP := hide hp
          have HCA := hide HCALL
          clear hp HCALL
          go_wp2_with fail
          refine HCA.out.mono ?_
          rintro e w2 ⟨rfl, hB3⟩
          clear c0
          go_wp2_with fail
          exact ⟨⟨ii, jj + 1, xs, by omega, by omega, rfl, by go_num, hst.out.1.skip hlj (by rw [HD.out]; exact HP.out), Row.below hst.out.2.1 hB3, hst.out.2.2.then (Touch.ofBelow hB3)⟩, by simp [intOf]; omega⟩
      · have hje : jj = l.length := by omega
        subst hje
        obtain ⟨q1, q2, q3⟩ := hst.out.1.done
        obtain ⟨w4, hrun, hR4, hg4⟩ := clear_row (P := Tryz.prog) (size := 1) (t := 41) (ty := 0) (z := .string ⟨#[]⟩) (i := ii) Tryz.underlying41 (fun _ => by kernel_rfl) rfl (by intro u hu; simp [Value.cells] at hu; subst hu; rfl) hst.out.2.1 q3
        simp only [Nat.mul_one] at hrun
        have HR4 := hide hR4
        have HG4 := hide hg4
        have HQ := hide (⟨q1, q2⟩ : _ ∧ _)
        clear hR4 hg4 q1 q2
        go_wp2_with fail
        go_ret
        refine ⟨_, rfl, ?_, rfl, hst.out.2.2.grown HG4.out (fun k e => by cases e; exact Or.inl rfl)⟩
        have := HR4.out
        rw [flat_take _ 1 (fun _ => rfl), HQ.out.1] at this
        rw [← HQ.out.2]
        exact this

end Go.Proofs.YtiplgdkpnhamaaaGreatDoor
