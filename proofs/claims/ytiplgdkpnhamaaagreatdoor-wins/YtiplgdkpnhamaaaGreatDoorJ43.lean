/- The texts ZN8, ZN9, QK6, ZN10, QG1, QG2, QG3, QV1, joined. -/
import Derived.Test.YtiplgdkpnhamaaaGreatDoorJ42

namespace Go.Proofs.YtiplgdkpnhamaaaGreatDoor.Tv
open Go.RowKit
structure MadeAt (n j : Nat) (w : World) (o : Nat → Tag) (T : Nat → Tag) (B : Nat → Nat) : Prop where
  dif : ∀ i k, T i = T k → i = k
  pr : ∀ i, i < j → PR newX w o (T i) (B i) n i (newD n)
  tabs : Tabs w
  low : ∀ q, q < 6 → ∀ i, o q ≠ T i
theorem MadeAt.move {n j : Nat} {w w' : World} {o o' : Nat → Tag} {T : Nat → Tag} {B : Nat → Nat} (h : MadeAt n j w o T B) (hm : ∀ q, q < w.heap.size → (q < 6 ∨ ∃ i, o q = T i) → w'.heap[q]? = w.heap[q]? ∧ o' q = o q) : MadeAt n j w' o' T B :=
  ⟨h.dif, fun i hi => (h.pr i hi).move fun q hq e => by
    obtain ⟨a, b⟩ := hm q hq (Or.inr ⟨i, e⟩)
    exact ⟨a, b.trans e⟩, h.tabs.kept fun q hq => (hm q (by have := h.tabs.room; omega) (Or.inl hq)).1, fun q hq i => by
    rw [(hm q (by have := h.tabs.room; omega) (Or.inl hq)).2]; exact h.low q hq i⟩
theorem MadeAt.next {n j : Nat} {w w' : World} {o : Nat → Tag} {T : Nat → Tag} {B : Nat → Nat} {b : Nat} (h : MadeAt n j w o T B) (hB : Below w.heap.size w w') (hp : PR newX w' (own2 o w.heap.size fun _ => T j) (T j) b n j (newD n)) : MadeAt n (j + 1) w' (own2 o w.heap.size fun _ => T j) T (put B j b) := by
  have h' : MadeAt n j w' (own2 o w.heap.size fun _ => T j) T B := h.move fun q hq _ => ⟨hB.block q hq, own2_low hq⟩
  refine ⟨h'.dif, fun i hi => ?_, h'.tabs, h'.low⟩
  by_cases c : i = j
  · subst c; rw [put_same]; exact hp
  · rw [put_other c]; exact h'.pr i (by omega)
theorem MadeAt.net {n : Nat} {w : World} {o : Nat → Tag} {T : Nat → Tag} {B : Nat → Nat} (h : MadeAt n n w o T B) (hn : n ≤ 5) : Net n w o T B [] (fun _ => newD n) (fun _ => newX) :=
  ⟨⟨hn, fun j hj => by simp at hj⟩, by simp, fun i j _ _ e => h.dif i j e, fun i hi => h.pr i hi, fun i _ u hu => hu, fun i _ => rfl, h.tabs, fun q hq i _ => h.low q hq i, fun i k r _ _ => Nat.zero_le _⟩
theorem Net.beside {n : Nat} {w w' : World} {o o' : Nat → Tag} {T : Nat → Tag} {B : Nat → Nat} {ts : List RTx} {D : Nat → DRep} {X : Nat → DX} {A : Tag → Prop} (h : Net n w o T B ts D X) (k : TouchT A w o w' o') (h1 : ∀ i, i < n → ¬ A (T i)) (h2 : ∀ q, q < 6 → ¬ A (o q)) : Net n w' o' T B ts D X :=
  h.move fun q hq e => ⟨k.touch.block q hq (by
    rcases e with e | ⟨i, hi, e⟩
    · exact h2 q e
    · rw [e]; exact h1 i hi), k.same q hq⟩
end Go.Proofs.YtiplgdkpnhamaaaGreatDoor.Tv

namespace Go.Proofs.YtiplgdkpnhamaaaGreatDoor.Tv
open Go.RowKit
theorem put_self {α : Type} (f : Nat → α) (i : Nat) : put f i (f i) = f := by funext k; by_cases c : k = i <;> simp [put, c]
theorem begin_hs (d : DRep) : (beginD d).hs = d.hs := by unfold beginD; split <;> rfl
theorem does_hs (d : DRep) (tx : Int) (p : ROp) : (doesD d tx p).hs = d.hs := by
  unfold doesD
  split
  · rfl
  · split <;> rfl
def commitT (ts : List RTx) (i : Nat) (d : DRep) (tx : Int) : List RTx :=
  match opnAt d tx with
  | none => ts
  | some t => if t.ops.length = 0 then ts else ts ++ [done i d t]
section
variable {n : Nat} {w : World} {o : Nat → Tag} {T : Nat → Tag} {B : Nat → Nat} {ts : List RTx} {D : Nat → DRep} {X : Nat → DX} {i : Nat}
theorem Net.room (h : Net n w o T B ts D X) (hi : i < n) : Room (D i) := by
  refine ⟨h.len hi, fun j hj => ?_⟩
  have hv := (h.pr i hi).hist.2.1
  have hj' : j < (visOf n (D i).hs).length := by rw [← hv]; exact hj
  have hjn : j < n := by rwa [visOf_len] at hj'
  have e : (D i).vis[j] = (visOf n (D i).hs)[j] := by simp only [hv]
  have h1 := visOf_get (hs := (D i).hs) hjn
  rw [List.getD_eq_getElem?_getD, List.getElem?_eq_getElem hj'] at h1
  have h2 : (visOf n (D i).hs)[j] = cntR (D i).hs j := h1
  have := cntR_le (D i).hs j
  have := h.len hi
  rw [e, h2]; omega
theorem Net.calm (h : Net n w o T B ts D X) (hi : i < n) {d' : DRep} {w' : World} {o' : Nat → Tag} (hp : PR (X i) w' o' (T i) (B i) n i d') (ht : TouchT (· = T i) w o w' o') (he : d'.hs = (D i).hs) : Net n w' o' T B ts (put D i d') X ∧ TouchT (grp n T) w o w' o' := by
  have := h.still hi hp ht he rfl
  rw [put_self] at this
  exact ⟨this, touch_grp ht hi⟩
theorem Net.begins (h : Net n w o T B ts D X) (hi : i < n) : Calls Tryz.prog 27 #[ptr (B i)] w fun e w' => e = .returned (beginAns (D i)) ∧ ∃ o', Net n w' o' T B ts (put D i (beginD (D i))) X ∧ TouchT (grp n T) w o w' o' := by
  refine ((papi X).begins w o (T i) (B i) n i (D i) (h.pr i hi) (h.room hi)).mono ?_
  rintro e w' ⟨rfl, o', a, c⟩
  exact ⟨rfl, o', h.calm hi a c (begin_hs _)⟩
theorem Net.write (h : Net n w o T B ts D X) (hi : i < n) (tx : Int) (p : ROp) (hk : p.kind = 2) (hs : p.key.size ≤ maxLen) (hv : p.value.size ≤ maxLen) : Calls Tryz.prog 30 #[ptr (B i), .int .i64 tx, .string p.key, .string p.value] w fun e w' => e = .returned (.int .i64 (doesErr (opnAt (D i) tx) p)) ∧ ∃ o', Net n w' o' T B ts (put D i (doesD (D i) tx p)) X ∧ TouchT (grp n T) w o w' o' := by
  refine ((papi X).write w o (T i) (B i) n i (D i) tx p (h.pr i hi) (h.room hi) hk hs hv).mono ?_
  rintro e w' ⟨rfl, o', a, c⟩
  exact ⟨rfl, o', h.calm hi a c (does_hs _ _ _)⟩
theorem Net.insert (h : Net n w o T B ts D X) (hi : i < n) (tx : Int) (p : ROp) (hk : p.kind = 3) (hs : p.key.size ≤ maxLen) (hv : p.value.size ≤ maxLen) : Calls Tryz.prog 38 #[ptr (B i), .int .i64 tx, .string p.key, .string p.value] w fun e w' => e = .returned (.int .i64 (doesErr (opnAt (D i) tx) p)) ∧ ∃ o', Net n w' o' T B ts (put D i (doesD (D i) tx p)) X ∧ TouchT (grp n T) w o w' o' := by
  refine ((papi X).insert w o (T i) (B i) n i (D i) tx p (h.pr i hi) (h.room hi) hk hs hv).mono ?_
  rintro e w' ⟨rfl, o', a, c⟩
  exact ⟨rfl, o', h.calm hi a c (does_hs _ _ _)⟩
theorem Net.remove (h : Net n w o T B ts D X) (hi : i < n) (tx : Int) (p : ROp) (hk : p.kind = 4) (hs : p.key.size ≤ maxLen) (hv : p.value.size ≤ maxLen) : Calls Tryz.prog 44 #[ptr (B i), .int .i64 tx, .string p.key, .string p.value] w fun e w' => e = .returned (.int .i64 (doesErr (opnAt (D i) tx) p)) ∧ ∃ o', Net n w' o' T B ts (put D i (doesD (D i) tx p)) X ∧ TouchT (grp n T) w o w' o' := by
  refine ((papi X).remove w o (T i) (B i) n i (D i) tx p (h.pr i hi) (h.room hi) hk hs hv).mono ?_
  rintro e w' ⟨rfl, o', a, c⟩
  exact ⟨rfl, o', h.calm hi a c (does_hs _ _ _)⟩
theorem Net.commit (h : Net n w o T B ts D X) (hi : i < n) (tx : Int) (hf : ts.length + 1 ≤ 1100000) : Calls Tryz.prog 32 #[ptr (B i), .int .i64 tx] w fun e w' => e = .returned (commitAns i (D i) tx) ∧ ∃ o', Net n w' o' T B (commitT ts i (D i) tx) (put D i (commitD i (D i) tx)) X ∧ TouchT (grp n T) w o w' o' := by
  refine ((papi X).commit w o (T i) (B i) n i (D i) tx (h.pr i hi) (h.room hi)).mono ?_
  rintro e w' ⟨rfl, o', a, c⟩
  refine ⟨rfl, o', ?_⟩
  unfold commitT
  unfold commitD at a ⊢
  cases e : opnAt (D i) tx with
  | none =>
    simp only [e] at a ⊢
    exact h.calm hi a c rfl
  | some t =>
    simp only [e] at a ⊢
    by_cases c0 : t.ops.length = 0
    · rw [if_pos c0] at a ⊢
      rw [if_pos c0]
      exact h.calm hi a c rfl
    · rw [if_neg c0] at a ⊢
      rw [if_neg c0]
      have := h.more hi a c rfl rfl rfl hf
      rw [put_self] at this
      exact ⟨this, touch_grp c hi⟩
end
end Go.Proofs.YtiplgdkpnhamaaaGreatDoor.Tv

namespace Go.Proofs.YtiplgdkpnhamaaaGreatDoor.Tv
open Go.RowKit
set_option maxRecDepth 100000 in
set_option maxHeartbeats 4000000 in
theorem alike_any (w : World) {o o' : Nat → Tag} {tl tm tl' tm' : Tag} {lv mv : Value} {vs ws : List (Int × List ByteArray)} {xs ys : List (Int × Value)} (ha : ValsX w o tl tm lv vs xs) (hb : ValsX w o' tl' tm' mv ws ys) (hn : vs.length = 6) (hm : ws.length = 6) (hbv : ∀ x, x ∈ vs → x.2.length ≤ 100000000) (hbw : ∀ x, x ∈ ws → x.2.length ≤ 100000000) :
    Calls Tryz.prog 25 #[lv, mv] w fun e w' => e = .returned (.bool (decide (vs = ws))) ∧ Below w.heap.size w w' := by
  obtain ⟨g, cp, rfl, hc⟩ := ha.cells hn
  obtain ⟨g', cp', rfl, hc'⟩ := hb.cells hm
  have HC := hide (⟨hc, hc', hn, hm, hbv, hbw⟩ : _ ∧ _ ∧ _ ∧ _ ∧ _ ∧ _)
  clear hc hc' hn hm hbv hbw ha hb
  go_enter Tryz.func25, Tryz.ntmps25
  go_wp2_with fail
  go_loopw [5] (fun iv wr => ∃ k : Nat, k ≤ 6 ∧ iv = .int .i64 k ∧ Hid (Below w.heap.size w wr ∧ vs.take k = ws.take k)) (fun iv _ => 6 - (intOf iv).toNat)
  case atStart => exact ⟨0, by omega, rfl, Below.refl _ _, by simp⟩
  case round =>
    obtain ⟨k, hk6, rfl, HB⟩ := hrel
    by_cases hk : k < 6
    · obtain ⟨hc, hc', hn, hm, hbv, hbw⟩ := HC.out
      have hkv : k < vs.length := by omega
      have hkw : k < ws.length := by omega
      obtain ⟨al, cl, c1, c2, r1⟩ := hc k hkv
      obtain ⟨al', cl', c1', c2', r1'⟩ := hc' k hkw
      have y1 := Bel.cell (cell_later HB.out.1 c1)
      have y2 := Bel.cell (cell_later HB.out.1 c2)
      have y3 := Bel.cell (cell_later HB.out.1 c1')
      have y4 := Bel.cell (cell_later HB.out.1 c2')
      have hq1 := hbv _ (List.getElem_mem hkv)
      have hq2 := hbw _ (List.getElem_mem hkw)
      have hsm : ∀ f : Fam (Bel wr), Calls Tryz.prog 35 #[.agg #[.int .i64 vs[k].1, .slice al vs[k].2.length cl], .agg #[.int .i64 ws[k].1, .slice al' ws[k].2.length cl']] f.w fun e w'' => e = .returned (.bool (sameB vs[k].1 ws[k].1 vs[k].2 ws[k].2)) ∧ ∃ g : Fam (Bel wr), w'' = g.w := fun f => Bel.call f (ksame_any f.w _ _ _ _ _ _ (ownsRow_below r1 (HB.out.1.trans (f.ok.mono HB.out.1.size))) (ownsRow_below r1' (HB.out.1.trans (f.ok.mono HB.out.1.size))) hq1 hq2)
      have hbs : sameB vs[k].1 ws[k].1 vs[k].2 ws[k].2 = decide (vs[k] = ws[k]) := by
        unfold sameB
        rw [Bool.eq_iff_iff, decide_eq_true_eq, decide_eq_true_eq]
        exact ⟨fun ⟨a, b⟩ => Prod.ext a b, fun e => by rw [e]; exact ⟨rfl, rfl⟩⟩
      rw [hbs] at hsm
      have HE : Hid (vs[k] = ws[k] → vs.take (k + 1) = ws.take (k + 1)) := fun e => by
        rw [List.take_succ_eq_append_getElem hkv, List.take_succ_eq_append_getElem hkw, HB.out.2, e]
      have HN : Hid (vs[k] ≠ ws[k] → vs ≠ ws) := fun e c => e (by subst c; rfl)
      generalize vs[k] = a at *
      generalize ws[k] = a' at *
      obtain ⟨a1, a2⟩ := a
      obtain ⟨b1, b2⟩ := a'
      simp only at y1 y2 y3 y4 hsm hq1 hq2
      generalize a2.length = m1 at *
      generalize b2.length = m2 at *
      obtain ⟨q, hq⟩ : ∃ q, decide ((a1, a2) = (b1, b2)) = q := ⟨_, rfl⟩
      rw [hq] at hsm
      have HSM := hide hsm
      have HQ := hide hq
      clear hsm hq hc hc' hn hm hbv hbw c1 c2 c1' c2' r1 r1' hbs hkv hkw HC
      go_upto_region 4 with (fail)
      refine region_fam (Bel wr) (by kernel_rfl) (by kernel_rfl) (Below.refl _ _).drew ?_
      repeat (go_big_quiet_step (first | (go_at_call 35; exact HSM.out _)))
      refine wpQuiet_nil ?_
      intro _ hw'
      obtain ⟨fq, rfl⟩ := hw'
      obtain ⟨W1, hB1⟩ := fq
      try dsimp only
      have hB2 : Below w.heap.size w W1 := HB.out.1.trans (hB1.mono HB.out.1.size)
      have HB2 := hide hB2
      clear hB1 hB2
      cases q with
      | true =>
        have he := HE.out (of_decide_eq_true HQ.out)
        have HE2 := hide he
        clear he
        go_wp2_with fail
        exact ⟨⟨k + 1, by omega, by simp, HB2.out, HE2.out⟩, by simp [intOf]; omega⟩
      | false =>
        have hne := HN.out (of_decide_eq_false HQ.out)
        have HNE : Hid (decide (vs = ws) = false) := decide_eq_false hne
        clear hne
        go_wp2_with fail
        go_ret
        exact ⟨by rw [HNE.out]; rfl, HB2.out⟩
    · have hk' : k = 6 := by omega
      subst hk'
      obtain ⟨-, -, hn, hm, -, -⟩ := HC.out
      have HE2 : Hid (decide (vs = ws) = true) := decide_eq_true (by
        have := HB.out.2
        rwa [List.take_of_length_le (by omega), List.take_of_length_le (by omega)] at this)
      clear hn hm HC
      go_wp2_with fail
      go_ret
      exact ⟨by rw [HE2.out]; rfl, HB.out.1⟩
end Go.Proofs.YtiplgdkpnhamaaaGreatDoor.Tv

namespace Go.Proofs.YtiplgdkpnhamaaaGreatDoor.Tv
open Go.RowKit
section
variable {n : Nat} {w : World} {o : Nat → Tag} {T : Nat → Tag} {B : Nat → Nat} {ts : List RTx} {D : Nat → DRep} {X : Nat → DX} {i : Nat}
theorem Net.read (h : Net n w o T B ts D X) (hi : i < n) (tl : Tag) (htl : tl ≠ T i) (tx : Int) (key : ByteArray) (hs : key.size ≤ maxLen) : Calls Tryz.prog 33 #[ptr (B i), .int .i64 tx, .string key] w fun e w' => ∃ lv o', e = .returned (valAgg (readAns (opnAt (D i) tx) key (D i).hs n).1 lv (readAns (opnAt (D i) tx) key (D i).hs n).2.2) ∧
    Net n w' o' T B ts D X ∧ TouchT (grp n T) w o w' o' ∧ Pc w' o' tl 9 1 lv (readAns (opnAt (D i) tx) key (D i).hs n).2.1.length (strs (readAns (opnAt (D i) tx) key (D i).hs n).2.1) := by
  refine ((papi X).read w o (T i) tl (B i) n i (D i) tx key (h.pr i hi) (h.room hi) htl hs).mono ?_
  rintro e w' ⟨lv, o', rfl, a, c, p⟩
  obtain ⟨h1, h2⟩ := h.calm hi a c rfl
  rw [put_self] at h1
  exact ⟨lv, o', rfl, h1, h2, p⟩
theorem Net.all (h : Net n w o T B ts D X) (hi : i < n) (tl tm : Tag) (h1 : tl ≠ T i) (h2 : tm ≠ T i) (h3 : tm ≠ tl) (hf : freeSlot (D i).opn < 6) : Calls Tryz.prog 24 #[bptr (B i)] w fun e w' => ∃ lv o' xs, e = .returned (.tuple #[lv, .bool true]) ∧ Net n w' o' T B ts D X ∧ TouchT (grp n T) w o w' o' ∧ ValsX w' o' tl tm lv (allV n (D i).hs) xs := by
  refine (all_any tl tm (h.pr i hi) (h.room hi) hf h1 h2 h3).mono ?_
  rintro e w' ⟨lv, o', rfl, a, c, xs, v⟩
  obtain ⟨k1, k2⟩ := h.calm hi a c rfl
  rw [put_self] at k1
  exact ⟨lv, o', xs, rfl, k1, k2, v⟩
end
end Go.Proofs.YtiplgdkpnhamaaaGreatDoor.Tv

namespace Go.Proofs.YtiplgdkpnhamaaaGreatDoor.Tv
open Go.RowKit
def stD (n : Nat) (hs : List RTx) : Option (List ROp) → DRep
  | none => ⟨hs, visOf n hs, fun _ => none⟩
  | some ops => ⟨hs, visOf n hs, fun j => if j = 0 then some ⟨0, 0, visOf n hs, ops⟩ else none⟩
def mkT (n i : Nat) (hs : List RTx) (ops : List ROp) : RTx := ⟨i, (cntR hs i : Int) + 1, visOf n hs, ops⟩
theorem stD_hs (n : Nat) (hs : List RTx) (x : Option (List ROp)) : (stD n hs x).hs = hs := by cases x <;> rfl
theorem stD_vis (n : Nat) (hs : List RTx) (x : Option (List ROp)) : (stD n hs x).vis = visOf n hs := by cases x <;> rfl
theorem stD_new (n : Nat) : newD n = stD n [] none := by
  unfold newD stD
  congr 1
  refine List.ext_getElem (by simp [visOf]) fun j h1 h2 => ?_
  simp [visOf, cntR]
theorem free_new : freeSlot (fun _ => none) = 0 := by kernel_rfl
theorem stD_begin (n : Nat) (hs : List RTx) : beginD (stD n hs none) = stD n hs (some []) ∧ beginAns (stD n hs none) = .tuple #[.int .i64 0, .int .i64 0] := by
  constructor
  · show beginD ⟨hs, visOf n hs, fun _ => none⟩ = _
    unfold beginD
    simp only [free_new]
    rfl
  · show beginAns ⟨hs, visOf n hs, fun _ => none⟩ = _
    unfold beginAns
    simp only [free_new]
    rfl
theorem stD_opn (n : Nat) (hs : List RTx) (ops : List ROp) : opnAt (stD n hs (some ops)) 0 = some ⟨0, 0, visOf n hs, ops⟩ := rfl
theorem stD_does {n : Nat} {hs : List RTx} {ops : List ROp} {p : ROp} (h : doesErr (some ⟨0, 0, visOf n hs, ops⟩) p = 0) : doesD (stD n hs (some ops)) 0 p = stD n hs (some (ops ++ [p])) := by
  unfold doesD
  rw [stD_opn]
  simp only [h, if_true]
  unfold stD
  congr 1
  funext j
  by_cases c : j = 0 <;> simp [setSlot, c]
theorem stD_commit {n i : Nat} {hs : List RTx} {ops : List ROp} (hi : i < n) (ho : 0 < ops.length) : commitD i (stD n hs (some ops)) 0 = stD n (hs ++ [mkT n i hs ops]) none ∧ commitAns i (stD n hs (some ops)) 0 = .tuple #[.agg #[.int .i64 i, .int .i64 ((cntR hs i : Int) + 1)], .int .i64 0] ∧ ∀ ts, commitT ts i (stD n hs (some ops)) 0 = ts ++ [mkT n i hs ops] := by
  have e1 : done i (stD n hs (some ops)) ⟨0, 0, visOf n hs, ops⟩ = mkT n i hs ops := by
    unfold done mkT
    rw [stD_vis, visOf_get hi]
  have e2 : (visOf n hs).set i ((visOf n hs).getD i 0 + 1) = visOf n (hs ++ [mkT n i hs ops]) := by
    rw [visOf_snoc (u := mkT n i hs ops) (Int.natCast_nonneg i) (Int.ofNat_lt.2 hi)]; rfl
  refine ⟨?_, ?_, fun ts => ?_⟩
  · unfold commitD
    rw [stD_opn]
    simp only [if_neg (Nat.ne_of_gt ho), e1, stD_hs, stD_vis]
    rw [e2]
    show _ = (⟨_, _, _⟩ : DRep)
    congr 1
    funext j
    by_cases c : j = 0 <;> simp [setSlot, stD, c]
  · unfold commitAns
    rw [stD_opn]
    simp only [if_neg (Nat.ne_of_gt ho), stD_vis]
    rw [visOf_get hi]
  · unfold commitT
    rw [stD_opn]
    simp only [if_neg (Nat.ne_of_gt ho), e1]
theorem stD_show {n : Nat} {hs : List RTx} {u : RTx} (h0 : 0 ≤ u.rep) (h1 : u.rep < n) : showD (stD n hs none) u = stD n (hs ++ [u]) none := by
  unfold showD
  rw [stD_hs, stD_vis, ← visOf_snoc h0 h1]; rfl
structure Gn (n : Nat) (w : World) (o : Nat → Tag) (T : Nat → Tag) (B : Nat → Nat) (ts : List RTx) (H : Nat → List RTx) (O : Nat → Option (List ROp)) : Prop where
  ex : ∃ X, Net n w o T B ts (fun i => stD n (H i) (O i)) X ∧ ∀ k, (X k).gone = newX.gone
theorem put_st (n : Nat) (H : Nat → List RTx) (O : Nat → Option (List ROp)) (i : Nat) (hs : List RTx) (x : Option (List ROp)) : put (fun i => stD n (H i) (O i)) i (stD n hs x) = fun j => stD n (put H i hs j) (put O i x j) := by
  funext j
  by_cases c : j = i
  · subst c; rw [put_same, put_same, put_same]
  · rw [put_other c, put_other c, put_other c]
section
variable {n : Nat} {w w' : World} {o o' : Nat → Tag} {T : Nat → Tag} {B : Nat → Nat} {ts : List RTx} {H : Nat → List RTx} {O : Nat → Option (List ROp)} {i : Nat}
theorem Gn.move (h : Gn n w o T B ts H O) (hm : ∀ q, q < w.heap.size → (q < 6 ∨ grp n T (o q)) → w'.heap[q]? = w.heap[q]? ∧ o' q = o q) : Gn n w' o' T B ts H O := by
  obtain ⟨X, h1, h2⟩ := h.ex
  exact ⟨X, h1.move hm, h2⟩
theorem Gn.beside {A : Tag → Prop} (h : Gn n w o T B ts H O) (k : TouchT A w o w' o') (h1 : ∀ i, i < n → ¬ A (T i)) (h2 : ∀ q, q < 6 → ¬ A (o q)) : Gn n w' o' T B ts H O := by
  obtain ⟨X, a, b⟩ := h.ex
  exact ⟨X, a.beside k h1 h2, b⟩
theorem Gn.histAt (h : Gn n w o T B ts H O) (hi : i < n) : HistG n (H i) ∧ ∀ u, u ∈ H i → u ∈ ts := by
  obtain ⟨X, a, b⟩ := h.ex
  have h1 := (a.pr i hi).hist.1
  have h2 := a.sub i hi
  simp only [stD_hs] at h1 h2
  exact ⟨h1, h2⟩
theorem MadeAt.gn (h : MadeAt n n w o T B) (hn : n ≤ 5) : Gn n w o T B [] (fun _ => []) (fun _ => none) := by
  have := h.net hn
  refine ⟨_, ?_, fun k => rfl⟩
  rw [stD_new] at this
  exact this
theorem Gn.begins (h : Gn n w o T B ts H O) (hi : i < n) (hO : O i = none) : Calls Tryz.prog 27 #[bptr (B i)] w fun e w' => e = .returned (.tuple #[.int .i64 0, .int .i64 0]) ∧ ∃ o', Gn n w' o' T B ts H (put O i (some [])) ∧ TouchT (grp n T) w o w' o' := by
  obtain ⟨X, a, b⟩ := h.ex
  refine (a.begins hi).mono ?_
  rintro e w' ⟨rfl, o', h1, h2⟩
  simp only [hO] at h1
  rw [(stD_begin n (H i)).1, put_st, put_self] at h1
  simp only [hO]
  exact ⟨by rw [(stD_begin n (H i)).2], o', ⟨X, h1, b⟩, h2⟩
theorem gn_does {ops : List ROp} (hO : O i = some ops) {p : ROp} (he : doesErr (some ⟨0, 0, visOf n (H i), ops⟩) p = 0) {e : Ending} {X : Nat → DX} (b : ∀ k, (X k).gone = newX.gone) (h1 : e = .returned (.int .i64 (doesErr (opnAt (stD n (H i) (O i)) 0) p)) ∧ ∃ o', Net n w' o' T B ts (put (fun i => stD n (H i) (O i)) i (doesD (stD n (H i) (O i)) 0 p)) X ∧ TouchT (grp n T) w o w' o') : e = .returned (.int .i64 0) ∧ ∃ o', Gn n w' o' T B ts H (put O i (some (ops ++ [p]))) ∧ TouchT (grp n T) w o w' o' := by
  obtain ⟨rfl, o', h1, h2⟩ := h1
  rw [hO] at h1 ⊢
  rw [stD_does he, put_st, put_self] at h1
  rw [stD_opn, he]
  exact ⟨rfl, o', ⟨X, h1, b⟩, h2⟩
theorem Gn.insert (h : Gn n w o T B ts H O) (hi : i < n) {ops : List ROp} (hO : O i = some ops) (p : ROp) (hk : p.kind = 3) (hs : p.key.size ≤ maxLen) (hv : p.value.size ≤ maxLen) (he : doesErr (some ⟨0, 0, visOf n (H i), ops⟩) p = 0) : Calls Tryz.prog 38 #[bptr (B i), .int .i64 0, .string p.key, .string p.value] w fun e w' => e = .returned (.int .i64 0) ∧ ∃ o', Gn n w' o' T B ts H (put O i (some (ops ++ [p]))) ∧ TouchT (grp n T) w o w' o' := by
  obtain ⟨X, a, b⟩ := h.ex
  exact (a.insert hi 0 p hk hs hv).mono fun e w' h1 => gn_does hO he b h1
theorem Gn.remove (h : Gn n w o T B ts H O) (hi : i < n) {ops : List ROp} (hO : O i = some ops) (p : ROp) (hk : p.kind = 4) (hs : p.key.size ≤ maxLen) (hv : p.value.size ≤ maxLen) (he : doesErr (some ⟨0, 0, visOf n (H i), ops⟩) p = 0) : Calls Tryz.prog 44 #[bptr (B i), .int .i64 0, .string p.key, .string p.value] w fun e w' => e = .returned (.int .i64 0) ∧ ∃ o', Gn n w' o' T B ts H (put O i (some (ops ++ [p]))) ∧ TouchT (grp n T) w o w' o' := by
  obtain ⟨X, a, b⟩ := h.ex
  exact (a.remove hi 0 p hk hs hv).mono fun e w' h1 => gn_does hO he b h1
theorem Gn.write (h : Gn n w o T B ts H O) (hi : i < n) {ops : List ROp} (hO : O i = some ops) (p : ROp) (hk : p.kind = 2) (hs : p.key.size ≤ maxLen) (hv : p.value.size ≤ maxLen) (he : doesErr (some ⟨0, 0, visOf n (H i), ops⟩) p = 0) : Calls Tryz.prog 30 #[bptr (B i), .int .i64 0, .string p.key, .string p.value] w fun e w' => e = .returned (.int .i64 0) ∧ ∃ o', Gn n w' o' T B ts H (put O i (some (ops ++ [p]))) ∧ TouchT (grp n T) w o w' o' := by
  obtain ⟨X, a, b⟩ := h.ex
  exact (a.write hi 0 p hk hs hv).mono fun e w' h1 => gn_does hO he b h1
theorem Gn.commit (h : Gn n w o T B ts H O) (hi : i < n) {ops : List ROp} (hO : O i = some ops) (ho : 0 < ops.length) (hf : ts.length + 1 ≤ 1100000) : Calls Tryz.prog 32 #[bptr (B i), .int .i64 0] w fun e w' => e = .returned (.tuple #[.agg #[.int .i64 i, .int .i64 ((cntR (H i) i : Int) + 1)], .int .i64 0]) ∧ ∃ o', Gn n w' o' T B (ts ++ [mkT n i (H i) ops]) (put H i (H i ++ [mkT n i (H i) ops])) (put O i none) ∧ TouchT (grp n T) w o w' o' := by
  obtain ⟨X, a, b⟩ := h.ex
  refine (a.commit hi 0 hf).mono ?_
  rintro e w' ⟨rfl, o', h1, h2⟩
  simp only [hO] at h1
  obtain ⟨e1, e2, e3⟩ := stD_commit (hs := H i) hi ho
  rw [e1, e3, put_st] at h1
  simp only [hO]
  exact ⟨by rw [e2], o', ⟨X, h1, b⟩, h2⟩
theorem Gn.read (h : Gn n w o T B ts H O) (hi : i < n) {ops : List ROp} (hO : O i = some ops) (tl : Tag) (htl : tl ≠ T i) (key : ByteArray) (hs : key.size ≤ maxLen) {s : Int} {l : List ByteArray} {er : Int} (he : readAns (some ⟨0, 0, visOf n (H i), ops⟩) key (H i) n = (s, l, er)) : Calls Tryz.prog 33 #[bptr (B i), .int .i64 0, .string key] w fun e w' => ∃ lv o', e = .returned (valAgg s lv er) ∧ Gn n w' o' T B ts H O ∧ TouchT (grp n T) w o w' o' ∧ Pc w' o' tl 9 1 lv l.length (strs l) := by
  obtain ⟨X, a, b⟩ := h.ex
  refine (a.read hi tl htl 0 key hs).mono ?_
  rintro e w' ⟨lv, o', rfl, h1, h2, h3⟩
  simp only [hO, stD_hs, stD_opn, he] at h3 ⊢
  exact ⟨lv, o', rfl, ⟨X, h1, b⟩, h2, h3⟩
theorem Gn.all (h : Gn n w o T B ts H O) (hi : i < n) (hO : O i = none) (tl tm : Tag) (h1 : tl ≠ T i) (h2 : tm ≠ T i) (h3 : tm ≠ tl) : Calls Tryz.prog 24 #[bptr (B i)] w fun e w' => ∃ lv o' xs, e = .returned (.tuple #[lv, .bool true]) ∧ Gn n w' o' T B ts H O ∧ TouchT (grp n T) w o w' o' ∧ ValsX w' o' tl tm lv (allV n (H i)) xs := by
  obtain ⟨X, a, b⟩ := h.ex
  refine (a.all hi tl tm h1 h2 h3 (by simp only [hO]; show freeSlot (fun _ => none) < 6; rw [free_new]; omega)).mono ?_
  rintro e w' ⟨lv, o', xs, rfl, h1, h2, h3⟩
  rw [stD_hs] at h3
  exact ⟨lv, o', xs, rfl, ⟨X, h1, b⟩, h2, h3⟩
theorem RecD.st {n : Nat} {hs us : List RTx} {d' : DRep} (h : RecD (stD n hs none) us d') (hv : d'.vis = visOf n d'.hs) : d' = stD n d'.hs none := by
  have := h.more.2.1
  cases d' with
  | mk a b c =>
    simp only at this hv
    subst hv this
    rfl
theorem Gn.tells (h : Gn n w o T B ts H O) {a b : Nat} (ha : a < n) (hb : b < n) (hO : O b = none) : Calls Tryz.prog 39 #[bptr (B a), bptr (B b)] w fun e w' => e = .returned (.bool true) ∧ ∃ o' hs, Gn n w' o' T B ts (put H b hs) O ∧ TouchT (grp n T) w o w' o' ∧ RecD (stD n (H b) none) (beyondL (H a) newX (vecOf (visOf n (H b)))) (stD n hs none) := by
  obtain ⟨X, k1, k2⟩ := h.ex
  refine (tells_any k1 ha hb).mono ?_
  rintro e w' ⟨rfl, o', d', X', h1, h2, h3, h4⟩
  simp only [stD_hs, hO] at h3
  have hp := (h1.pr b hb).hist.2.1
  rw [put_same] at hp
  have hd := h3.st hp
  rw [bey_gone (k2 a)] at h3
  rw [hd, put_st] at h1
  rw [hd] at h3
  have e : put O b none = O := by rw [← hO, put_self]
  rw [e] at h1
  exact ⟨rfl, o', d'.hs, ⟨X', h1, fun k => (h4 k).trans (k2 k)⟩, h2, h3⟩
theorem Gn.tells1 (h : Gn n w o T B ts H O) {a b : Nat} (ha : a < n) (hb : b < n) (hO : O b = none) {u : RTx} (hu : u ∈ H a) (hg : wGo n (H a) (H b) u = true) : Calls Tryz.prog 39 #[bptr (B a), bptr (B b)] w fun e w' => e = .returned (.bool true) ∧ ∃ o', Gn n w' o' T B ts (put H b (H b ++ [u])) O ∧ TouchT (grp n T) w o w' o' := by
  refine (h.tells ha hb hO).mono ?_
  rintro e w' ⟨rfl, o', hs, h1, h2, h3⟩
  have hH := (h.histAt ha).1
  have := wGo_show hg hH hu (x := newX) rfl (stD_vis n (H b) none) h3
  obtain ⟨j, hj, e⟩ := List.getElem_of_mem hu
  have hn := hH.tx j hj
  rw [e] at hn
  rw [stD_show hn.r0 hn.rn] at this
  have e2 : hs = H b ++ [u] := by
    have := congrArg DRep.hs this
    rwa [stD_hs, stD_hs] at this
  rw [e2] at h1
  exact ⟨rfl, o', h1, h2⟩
end
end Go.Proofs.YtiplgdkpnhamaaaGreatDoor.Tv

namespace Go.Proofs.YtiplgdkpnhamaaaGreatDoor.Tv
open Go.RowKit
theorem Tryz.infoPQ : (Tryz.prog.info? 45).map (fun i => (i.zero, i.size, i.bytes)) = some (some (.pointer none), 1, 8) := by kernel_rfl
def tg1 : Nat → Tag := fun i => (1, i, 0)
def tg2 : Nat → Tag := fun i => (2, i, 0)
def nz : Tag → Prop := fun t => t ≠ (0, 0, 0)
def rsL (B : Nat → Nat) (j : Nat) : List Value := (List.range j).map fun i => bptr (B i)
structure GrpIn (w : World) (o : Nat → Tag) (gb : Nat) (rv lv : Value) (B : Nat → Nat) (j : Nat) : Prop where
  blk : Bl w o (3, 0, 0) gb [rv, lv] 43
  row : Pc w o (4, 0, 0) 45 1 rv j (rsL B j)
section
variable {w w' : World} {o o' : Nat → Tag} {gb : Nat} {rv lv : Value} {B : Nat → Nat} {j n : Nat}
theorem GrpIn.touch {A : Tag → Prop} (h : GrpIn w o gb rv lv B j) (k : TouchT A w o w' o') (h1 : ¬ A (3, 0, 0)) (h2 : ¬ A (4, 0, 0)) : GrpIn w' o' gb rv lv B j := ⟨h.blk.touch k h1, h.row.touch k h2⟩
theorem rsL_snoc (B : Nat → Nat) (j b : Nat) : rsL (put B j b) (j + 1) = rsL B j ++ [bptr b] := by
  unfold rsL
  rw [List.range_succ, List.map_append]
  congr 1
  · refine List.map_congr_left fun i hi => ?_
    have := List.mem_range.1 hi
    rw [put_other (by omega)]
  · simp [put_same]
theorem rsL_get {B : Nat → Nat} {j k : Nat} (h : k < j) : (rsL B j)[k]? = some (bptr (B k)) := by simp [rsL, h]
structure MkAt (n j : Nat) (w0 w : World) (o : Nat → Tag) (gb : Nat) (rv : Value) (B : Nat → Nat) : Prop where
  made : MadeAt n j w o tg1 B
  grp : GrpIn w o gb rv (.slice none 0 0) B j
  at0 : TouchT nz w0 (fun _ => (0, 0, 0)) w o
  room : 6 ≤ w0.heap.size
theorem at0_low {w0 : World} (h : TouchT nz w0 (fun _ => (0, 0, 0)) w o) (hr : 6 ≤ w0.heap.size) {q : Nat} (hq : q < 6) : o q = (0, 0, 0) := h.same q (by omega)
theorem at0_below {w0 : World} (h : TouchT nz w0 (fun _ => (0, 0, 0)) w o) : Below w0.heap.size w0 w := (h.touch.mono fun _ _ e => e rfl).below
theorem MkAt.first {w0 : World} (ht : Tabs w0) : MkAt n 0 w0 (w0.alloc (.cells #[.slice none 0 0, .slice none 0 0] 43)) (upd (fun _ => (0, 0, 0)) w0.heap.size (3, 0, 0)) w0.heap.size (.slice none 0 0) (fun _ => 0) := by
  have hr := ht.room
  have hb : Below w0.heap.size w0 (w0.alloc (.cells #[.slice none 0 0, .slice none 0 0] 43)) := (Below.refl _ _).alloc (Nat.le_refl _) _
  refine ⟨⟨fun i k e => by simpa [tg1] using e, fun i hi => absurd hi (Nat.not_lt_zero _), ht.later hb, fun q hq i => ?_⟩, ⟨?_, ⟨World.ownsRow_nil _ _ _ _, fun q hq => by simp [Value.ownBlock] at hq⟩⟩, ⟨Touch.ofBelow hb, fun q hq => upd_other (by omega)⟩, hr⟩
  · rw [upd_other (by omega)]; simp [tg1]
  · exact ⟨heap_alloc_new w0 _, upd_same _ _ _⟩
theorem MkAt.next {w0 wr W6 w7 : World} {b : Nat} {v7 : Value} (h : MkAt n j w0 wr o gb rv B) (hB : Below wr.heap.size wr W6) (hp : PR newX W6 (own2 o wr.heap.size fun _ => tg1 j) (tg1 j) b n j (newD n)) (hrow : w7.ownsRow 0 45 1 v7 (j + 1) (rsL B j ++ [bptr b])) (hg : W6.grownBy w7 rv.ownBlock) (hat : v7.ownBlock = rv.ownBlock ∨ v7.ownBlock = some W6.heap.size) : ∃ o', MkAt n (j + 1) w0 (w7.setCell ⟨gb, 0, none⟩ v7) o' gb v7 (put B j b) := by
  have hr := h.room
  have m6 := h.made.next hB hp
  have b6 : Bl W6 (own2 o wr.heap.size fun _ => tg1 j) (3, 0, 0) gb [rv, .slice none 0 0] 43 := h.grp.blk.move2 fun q hq e => ⟨hB.block q hq, (own2_low hq).trans e⟩
  have r6 : Pc W6 (own2 o wr.heap.size fun _ => tg1 j) (4, 0, 0) 45 1 rv j (rsL B j) := h.grp.row.move2 fun q hq e => ⟨hB.block q hq, (own2_low hq).trans e⟩
  have t6 := h.at0.belowNew hB fun _ => tg1 j
  generalize (own2 o wr.heap.size fun _ => tg1 j) = o6 at *
  have b7 := b6.grew hg r6.tag (by simp)
  have r7 := r6.app hrow hat
  have t7 := t6.grew hg r6.tag (by simp [nz])
  have m7 : MadeAt n (j + 1) w7 (upd o6 W6.heap.size (4, 0, 0)) tg1 (put B j b) := m6.move fun q hq e => ⟨hg.block q hq (fun c => by
    have h1 := r6.tag q c.symm
    rcases e with e | ⟨i, e⟩
    · rw [at0_low t6 hr e] at h1; simp at h1
    · rw [e] at h1; simp [tg1] at h1), upd_other (by omega)⟩
  generalize (upd o6 W6.heap.size (4, 0, 0)) = o7 at *
  have hgb : o7 gb = (3, 0, 0) := b7.tag
  have r8 := r7.set (p := ⟨gb, 0, none⟩) hgb (by simp) v7
  rw [← rsL_snoc] at r8
  refine ⟨o7, m7.move fun q hq e => ⟨Below.heap_setCell _ _ _ _ (fun c => ?_), rfl⟩, ⟨b7.set 0 v7, r8⟩, t7.set (p := ⟨gb, 0, none⟩) (by rw [hgb]; simp [nz]) v7, hr⟩
  have c' : q = gb := c
  subst c'
  rcases e with e | ⟨i, e⟩
  · rw [at0_low t7 hr e] at hgb; simp at hgb
  · rw [e] at hgb; simp [tg1] at hgb
structure Side (n : Nat) (w0 : World) (gb : Nat) (rv : Value) (B : Nat → Nat) (w : World) (o : Nat → Tag) : Prop where
  gn : Gn n w o tg1 B [] (fun _ => []) (fun _ => none)
  grp : GrpIn w o gb rv (.slice none 0 0) B n
  at0 : TouchT nz w0 (fun _ => (0, 0, 0)) w o
  room : 6 ≤ w0.heap.size
  tabs : Tabs w
theorem MkAt.side {w0 : World} (h : MkAt n n w0 w o gb rv B) (hn : n ≤ 5) : Side n w0 gb rv B w o := ⟨h.made.gn hn, h.grp, h.at0, h.room, h.made.tabs⟩
theorem Side.touch {w0 : World} {A : Tag → Prop} (h : Side n w0 gb rv B w o) (k : TouchT A w o w' o') (hA : ∀ t, A t → ∃ i, t = tg2 i) : Side n w0 gb rv B w' o' := by
  have hr := h.room
  have n1 : ∀ i, ¬ A (tg1 i) := fun i c => by obtain ⟨x, e⟩ := hA _ c; simp [tg1, tg2] at e
  have n2 : ¬ A (3, 0, 0) := fun c => by obtain ⟨x, e⟩ := hA _ c; simp [tg2] at e
  have n3 : ¬ A (4, 0, 0) := fun c => by obtain ⟨x, e⟩ := hA _ c; simp [tg2] at e
  have n4 : ∀ q, q < 6 → ¬ A (o q) := fun q hq c => by rw [at0_low h.at0 hr hq] at c; obtain ⟨x, e⟩ := hA _ c; simp [tg2] at e
  exact ⟨h.gn.beside k (fun i _ => n1 i) n4, h.grp.touch k n2 n3, h.at0.trans (k.mono fun t ht => by obtain ⟨x, e⟩ := hA _ ht; rw [e]; simp [nz, tg2]), hr, h.tabs.kept fun q hq => k.touch.block q (by have := h.tabs.room; omega) (n4 q hq)⟩
theorem Side.new {w0 : World} (h : Side n w0 gb rv B w o) (hB : Below w.heap.size w w') (t : Tag) : Side n w0 gb rv B w' (own2 o w.heap.size fun _ => t) :=
  h.touch (A := fun _ => False) ⟨Touch.ofBelow hB, fun _ hq => own2_low hq⟩ fun _ c => c.elim
theorem Side.two {w0 : World} (h : Side n w0 gb rv B w o) : MadeAt 2 0 w o tg2 (fun _ => 0) :=
  ⟨fun i k e => by simpa [tg2] using e, fun i hi => absurd hi (Nat.not_lt_zero _), h.tabs, fun q hq i => by rw [at0_low h.at0 h.room hq]; simp [tg2]⟩
structure Two (n : Nat) (w0 : World) (gb : Nat) (rv : Value) (B B2 : Nat → Nat) (ts : List RTx) (H : Nat → List RTx) (O : Nat → Option (List ROp)) (w : World) (o : Nat → Tag) : Prop where
  gn : Gn 2 w o tg2 B2 ts H O
  side : Side n w0 gb rv B w o
theorem Two.out {w0 : World} {B2 : Nat → Nat} {ts ts' : List RTx} {H H' : Nat → List RTx} {O O' : Nat → Option (List ROp)} (h : Two n w0 gb rv B B2 ts H O w o) (h1 : Gn 2 w' o' tg2 B2 ts' H' O') (h2 : TouchT (grp 2 tg2) w o w' o') : Two n w0 gb rv B B2 ts' H' O' w' o' :=
  ⟨h1, h.side.touch h2 fun _ ⟨i, _, e⟩ => ⟨i, e⟩⟩
theorem Two.below {w0 : World} {B2 : Nat → Nat} {ts : List RTx} {H : Nat → List RTx} {O : Nat → Option (List ROp)} (h : Two n w0 gb rv B B2 ts H O w o) (hB : Below w.heap.size w w') (t : Tag) : Two n w0 gb rv B B2 ts H O w' (own2 o w.heap.size fun _ => t) :=
  ⟨h.gn.move fun q hq _ => ⟨hB.block q hq, own2_low hq⟩, h.side.new hB t⟩
end
def MadeEnd (n : Nat) (w : World) (e : Ending) (w' : World) : Prop :=
  ∃ gb rv B o, e = .returned (bptr gb) ∧ Gn n w' o tg1 B [] (fun _ => []) (fun _ => none) ∧ GrpIn w' o gb rv (.slice none 0 0) B n ∧ TouchT nz w (fun _ => (0, 0, 0)) w' o
end Go.Proofs.YtiplgdkpnhamaaaGreatDoor.Tv

namespace Go.Proofs.YtiplgdkpnhamaaaGreatDoor.Tv
open Go.RowKit
def wHere : ByteArray := ⟨#[104, 101, 114, 101]⟩
def mU : RTx := mkT 2 0 [] [opIns wHere]
theorem made_does : doesErr (some ⟨0, 0, visOf 2 [], []⟩) (opIns wHere) = 0 := by kernel_rfl
theorem made_goes : wGo 2 [mU] [] mU = true := by kernel_rfl
theorem made_told : readAns (some ⟨0, 0, visOf 2 [mU], []⟩) wS [mU] 2 = (0, [wHere], 0) := of_decide_eq_true (by kernel_rfl)
theorem fits_in {k n : Nat} (h : k < n) (hn : n ≤ 5) : fitsB k n = true := by simp only [fitsB, decide_eq_true_eq]; omega
set_option maxRecDepth 100000 in
set_option maxHeartbeats 4000000 in
theorem made_any {w : World} (ht : Tabs w) (c : Int) (hc : -9223372036854775808 ≤ c) (hc' : c ≤ 9223372036854775807) :
    Calls Tryz.prog 20 #[.int .i64 c] w (MadeEnd (2 + pickOf c 4) w) := by
  obtain ⟨i0, hi, hz0, hz1, hz2⟩ := info_parts Tryz.infoPQ
  have HI := hide (⟨hi, hz0, hz1, hz2⟩ : _ ∧ _ ∧ _ ∧ _)
  clear hi hz0 hz1 hz2
  have hp := kpick_any c 4 w (by omega) (by omega) hc hc'
  have hlt := pickOf_lt c 4 (by omega)
  generalize pickOf c 4 = k at hp hlt ⊢
  have H0 := hide (MkAt.first (n := 2 + k) ht)
  have HP := hide hp
  clear hp ht hc hc'
  go_enter Tryz.func20, Tryz.ntmps20
  go_wp2_with (go_at_call 29; refine HP.out.mono ?_; rintro e w1 ⟨rfl, rfl⟩)
  have e2 : (2 : Int) + (k : Int) = ((2 + k : Nat) : Int) := by omega
  rw [e2]
  clear e2 HP
  generalize hn : 2 + k = n at *
  have hn2 : 2 ≤ n := by omega
  have hn5 : n ≤ 5 := by omega
  clear hn hlt
  generalize (upd (fun _ => ((0, 0, 0) : Tag)) w1.heap.size (3, 0, 0)) = oo at *
  generalize (w1.alloc (.cells #[.slice none 0 0, .slice none 0 0] 43)) = W0 at *
  generalize w1.heap.size = gb at *
  go_loopw [4] (fun i wr => ∃ (j : Nat) (o : Nat → Tag) (rv : Value) (B : Nat → Nat), j ≤ n ∧ i = .int .i64 j ∧ Hid (MkAt n j w1 wr o gb rv B)) (fun i _ => n - (intOf i).toNat)
  case atStart => exact ⟨0, oo, _, _, by omega, rfl, H0.out⟩
  case round =>
    clear H0
    obtain ⟨j, o, rv, B, hj, rfl, HM⟩ := hrel
    by_cases hjn : j < n
    · go_wp2_with fail
      refine (new_ok wr j n (fits_in hjn hn5)).mono ?_
      rintro e w2 ⟨b, rfl, hB1, hnew⟩
      have HPR := hide (hnew o (tg1 j))
      have HB1 := hide hB1
      clear hnew hB1
      go_wp2_with fail
      obtain ⟨p, -, hp⟩ := HPR.out
      refine (visible_call hp).mono ?_
      rintro e w3 ⟨lv, rfl, hrow, hB2⟩
      have hvl : (newD n).vis.length = n := by simp [newD]
      rw [hvl] at hrow
      obtain ⟨g, cap, rfl, -, -, hg, hcell, -⟩ := Row.pos (ownsRow_low hrow (Nat.zero_le _)) (by omega)
      have z1 : w3.cell? ⟨g, j, none⟩ = some (.int .i64 0) := by
        rw [hcell j (by omega), ints_get _ _ (by rw [hvl]; exact hjn)]
        simp [newD]
      have HB2 := hide hB2
      clear hp hrow hcell hvl hB2
      obtain ⟨ro, rcap, er, -⟩ := HM.out.grp.row.row.shape
      subst er
      have hB3 : Hid (Below wr.heap.size wr w3) := HB1.out.trans (HB2.out.mono HB1.out.size)
      have b3 := HM.out.grp.blk.blk.below hB3.out
      have c0 : w3.cell? ⟨gb, 0, none⟩ = some (.slice ro j rcap) := b3.cell 0
      have hgl := b3.lt
      clear b3
      go_wp2_with (at_builtin; refine wpList_append_own_at _ rfl _ _ 40 rfl 0 45 i0 (.pointer none) 1 8 Tryz.underlying40 HI.out.1 HI.out.2.1 HI.out.2.2.1 HI.out.2.2.2 rfl (by decide) _ _ _ rfl (World.ownsRow.alloc (HM.out.grp.row.row.below hB3.out) _) ⟨w3.heap.size, 0, none⟩ 1 1 [bptr b] rfl rfl (cell_one_new _ _ _) (by intro u hu; simp at hu; subst hu; rfl) (by unfold maxLen; omega) (by omega) (Nat.zero_le _) ?_; intro v4 w4 hown hgrow hnil hat; obtain ⟨g1, cap1, rfl, -, -, -, -, -⟩ := Row.pos hown (by omega); have hb4 := ((HM.out.grp.blk.below hB3.out).alloc (.cells #[bptr b] 45)).grew hgrow HM.out.grp.row.tag (by simp); have q3 := hb4.blk.cell 0; have p3 := hb4.blk.frozen 0; have hl1 := hb4.blk.lt; clear hb4)
      have hB4 : Below wr.heap.size wr (w3.alloc (.cells #[bptr b] 45)) := hB3.out.alloc hB3.out.size _
      have hPR4 : PR newX (w3.alloc (.cells #[bptr b] 45)) (own2 o wr.heap.size fun _ => tg1 j) (tg1 j) b n j (newD n) := HPR.out.move fun q hq e => ⟨by rw [Below.heap_alloc _ _ q (Nat.lt_of_lt_of_le hq HB2.out.size), HB2.out.block q hq], e⟩
      obtain ⟨o5, h5⟩ := HM.out.next hB4 hPR4 hown hgrow hat
      exact ⟨⟨j + 1, o5, _, _, by omega, by simp, h5⟩, by simp [intOf]; omega⟩
    · have hjn' : j = n := by omega
      subst hjn'
      have HS := hide (HM.out.side hn5)
      clear HM hjn hj HI
      go_wp2_with fail
      refine (new_ok wr 0 2 (fits_in (by omega) (by omega))).mono ?_
      rintro e w2 ⟨b0, rfl, hB, hnew⟩
      have HM1 := hide (HS.out.two.next hB (hnew o (tg2 0)))
      have HS1 := hide (HS.out.new hB (tg2 0))
      clear HS hB hnew
      generalize own2 o wr.heap.size (fun _ => tg2 0) = o1 at *
      go_wp2_with fail
      refine (new_ok w2 1 2 (fits_in (by omega) (by omega))).mono ?_
      rintro e w3 ⟨b1, rfl, hB, hnew⟩
      have HM2 := hide (HM1.out.next hB (hnew o1 (tg2 1)))
      have HS2 := hide (HS1.out.new hB (tg2 1))
      clear HS1 hB hnew HM1
      generalize own2 o1 w2.heap.size (fun _ => tg2 1) = o2 at *
      have HT : Hid (Two j w1 gb rv B (put (put (fun _ => 0) 0 b0) 1 b1) [] (fun _ => []) (fun _ => none) w3 o2) := ⟨HM2.out.gn (by omega), HS2.out⟩
      clear HM2 HS2
      generalize hB2 : (put (put (fun _ => 0) 0 b0) 1 b1) = B2 at *
      have e0 : b0 = B2 0 := by rw [← hB2]; rfl
      have e1 : b1 = B2 1 := by rw [← hB2]; rfl
      clear hB2
      subst e0 e1
      go_wp2_with fail
      refine (HT.out.gn.begins (i := 0) (by omega) rfl).mono ?_
      rintro e w4 ⟨rfl, o4, h1, h2⟩
      have HT4 := hide (HT.out.out h1 h2)
      clear HT h1 h2
      go_wp2_with fail
      refine (HT4.out.gn.insert (i := 0) (by omega) (put_same _ _ _) (opIns wHere) rfl (by decide) (by decide) made_does).mono ?_
      rintro e w5 ⟨rfl, o5, h1, h2⟩
      have HT5 := hide (HT4.out.out h1 h2)
      clear HT4 h1 h2
      go_wp2_with fail
      refine (HT5.out.gn.commit (i := 0) (by omega) (put_same _ _ _) (by decide) (by decide)).mono ?_
      rintro e w6 ⟨rfl, o6, h1, h2⟩
      have HT6 := hide (HT5.out.out h1 h2)
      clear HT5 h1 h2
      go_wp2_with fail
      have ec : ((cntR ([] : List RTx) 0 : Nat) : Int) + 1 = 1 := by simp [cntR]
      have hB6 : Below w6.heap.size w6 (w6.alloc (.cells #[.int .i64 0, .int .i64 (((cntR ([] : List RTx) 0 : Nat) : Int) + 1)] 62)) := (Below.refl _ _).alloc (Nat.le_refl _) _
      have HT7 := hide (HT6.out.below hB6 (5, 0, 0))
      have hb7 : Bl (w6.alloc (.cells #[.int .i64 0, .int .i64 (((cntR ([] : List RTx) 0 : Nat) : Int) + 1)] 62)) (own2 o6 w6.heap.size fun _ => (5, 0, 0)) (5, 0, 0) w6.heap.size [.int .i64 0, .int .i64 1] 62 := ⟨by rw [ec]; exact heap_alloc_new w6 _, own2_high (Nat.le_refl _)⟩
      have HD7 := hide hb7
      clear hb7 hB6 HT6
      generalize (w6.alloc (.cells #[.int .i64 0, .int .i64 (((cntR ([] : List RTx) 0 : Nat) : Int) + 1)] 62)) = w7 at *
      generalize (own2 o6 w6.heap.size fun _ => (5, 0, 0)) = o7 at *
      generalize w6.heap.size = db at *
      have hng : ¬ grp 2 tg2 (5, 0, 0) := fun ⟨i, _, e⟩ => by simp [tg2] at e
      have hng6 : ¬ grp 2 tg2 (6, 0, 0) := fun ⟨i, _, e⟩ => by simp [tg2] at e
      refine (HT7.out.gn.tells1 (a := 0) (b := 1) (u := mU) (by omega) (by omega) rfl (by rw [put_same]; simp [mU]) (by rw [put_same]; exact made_goes)).mono ?_
      rintro e w8 ⟨rfl, o8, h1, h2⟩
      have HT8 := hide (HT7.out.out h1 h2)
      have HD8 := hide (HD7.out.touch h2 hng)
      clear HT7 h1 h2 HD7
      go_wp2_with fail
      refine (HT8.out.gn.begins (i := 1) (by omega) rfl).mono ?_
      rintro e w9 ⟨rfl, o9, h1, h2⟩
      have HT9 := hide (HT8.out.out h1 h2)
      have HD9 := hide (HD8.out.touch h2 hng)
      clear HT8 h1 h2 HD8
      go_wp2_with fail
      refine (HT9.out.gn.read (i := 1) (by omega) (put_same _ _ _) (6, 0, 0) (by simp [tg2]) wS (by decide) (s := 0) (l := [wHere]) (er := 0) (by rw [put_same]; exact made_told)).mono ?_
      rintro e wa ⟨lv, oa, rfl, h1, h2, h3⟩
      have HTa := hide (HT9.out.out h1 h2)
      have HDa := hide (HD9.out.touch h2 hng)
      obtain ⟨g, cap, rfl, -, -, hg, hcell, -⟩ := Row.pos h3.row (by decide)
      have z0 : wa.cell? ⟨g, 0, none⟩ = some (.string wHere) := hcell 0 (by decide)
      have z1 := HDa.out.blk.cell 1
      have hl1 := HDa.out.blk.lt
      clear HT9 h1 h2 h3 HD9 hcell
      have hstr : (!wHere.toList == [104, 101, 114, 101]) = false := by kernel_rfl
      go_wp2_with fail
      go_ret
      have hBa : Below wa.heap.size wa (wa.alloc (.cells #[.int .i64 0, .slice (some ⟨g, 0, none⟩) 1 cap] 66)) := (Below.refl _ _).alloc (Nat.le_refl _) _
      have hS := HTa.out.side.new hBa (6, 0, 0)
      exact ⟨gb, rv, B, _, rfl, hS.gn, hS.grp, hS.at0⟩
end Go.Proofs.YtiplgdkpnhamaaaGreatDoor.Tv

namespace Go.Proofs.YtiplgdkpnhamaaaGreatDoor.Tv
open Go.RowKit
def two {α : Type} (d : α) (x y : Nat) (p q : α) : Nat → α := put (put (fun _ => d) x p) y q
section
variable {α : Type} {d p q p' q' : α} {x y : Nat}
theorem two_x (h : x ≠ y) : two d x y p q x = p := by unfold two; rw [put_other h, put_same]
theorem two_y : two d x y p q y = q := by unfold two; rw [put_same]
theorem two_put_x (h : x ≠ y) : put (two d x y p q) x p' = two d x y p' q := by
  funext j
  by_cases c : j = x
  · subst c; rw [put_same, two_x h]
  · rw [put_other c]
    unfold two
    by_cases c2 : j = y
    · subst c2; rw [put_same, put_same]
    · rw [put_other c2, put_other c2, put_other c, put_other c]
theorem two_put_y : put (two d x y p q) y q' = two d x y p q' := by
  funext j
  by_cases c : j = y
  · subst c; rw [put_same, two_y]
  · rw [put_other c]
    unfold two
    rw [put_other c, put_other c]
theorem two_self : two d x y d d = fun _ => d := by
  funext j
  unfold two put
  split <;> (try split) <;> rfl
end
structure Wn (n x y : Nat) (w0 : World) (B : Nat → Nat) (ts P Q : List RTx) (a b : Option (List ROp)) (w : World) (o : Nat → Tag) : Prop where
  gn : Gn n w o tg1 B ts (two [] x y P Q) (two none x y a b)
  at0 : TouchT nz w0 (fun _ => (0, 0, 0)) w o
theorem grp_nz {n : Nat} {t : Tag} (h : grp n tg1 t) : nz t := by
  obtain ⟨i, _, e⟩ := h
  rw [e]; simp [nz, tg1]
theorem not_grp {n a b c : Nat} (h : a ≠ 1) : ¬ grp n tg1 (a, b, c) := fun ⟨i, _, e⟩ => h (by simp [tg1] at e; exact e.1)
theorem does_ok {v : List Int} {ops : List ROp} {p : ROp} (h1 : kindOf p.key = kindByte p.kind) (h2 : p.kind ≠ 1) (h3 : p.value.size ≤ 8) (h4 : ops.length < 16) : doesErr (some ⟨0, 0, v, ops⟩) p = 0 := by
  unfold doesErr
  simp only [h1, not_true_eq_false, if_false]
  rw [if_neg (by omega), if_neg (by omega)]
section
variable {n x y : Nat} {w0 w w' : World} {B : Nat → Nat} {ts P Q : List RTx} {a b : Option (List ROp)} {o : Nat → Tag}
def WnEnd (n x y : Nat) (w0 : World) (B : Nat → Nat) (w : World) (o : Nat → Tag) (v : Value) (ts P Q : List RTx) (a b : Option (List ROp)) (e : Ending) (w' : World) : Prop :=
  e = .returned v ∧ ∃ o', Hid (Wn n x y w0 B ts P Q a b w' o' ∧ TouchT (grp n tg1) w o w' o')
theorem Wn.out (h : Wn n x y w0 B ts P Q a b w o) {ts' P' Q' : List RTx} {a' b' : Option (List ROp)} {o' : Nat → Tag} (h1 : Gn n w' o' tg1 B ts' (two [] x y P' Q') (two none x y a' b')) (h2 : TouchT (grp n tg1) w o w' o') : Hid (Wn n x y w0 B ts' P' Q' a' b' w' o' ∧ TouchT (grp n tg1) w o w' o') :=
  ⟨⟨h1, h.at0.trans (h2.mono fun _ => grp_nz)⟩, h2⟩
theorem Wn.below (h : Wn n x y w0 B ts P Q a b w o) (hB : Below w.heap.size w w') (t : Tag) : Hid (Wn n x y w0 B ts P Q a b w' (own2 o w.heap.size fun _ => t) ∧ TouchT (grp n tg1) w o w' (own2 o w.heap.size fun _ => t)) :=
  h.out (h.gn.move fun q hq _ => ⟨hB.block q hq, own2_low hq⟩) ⟨Touch.ofBelow hB, fun _ hq => own2_low hq⟩
theorem Wn.beginX (h : Wn n x y w0 B ts P Q none b w o) (hx : x < n) (hxy : x ≠ y) : Calls Tryz.prog 27 #[bptr (B x)] w (WnEnd n x y w0 B w o (.tuple #[.int .i64 0, .int .i64 0]) ts P Q (some []) b) := by
  refine (h.gn.begins hx (two_x hxy)).mono ?_
  rintro e w' ⟨rfl, o', h1, h2⟩
  rw [two_put_x hxy] at h1
  exact ⟨rfl, o', h.out h1 h2⟩
theorem Wn.beginY (h : Wn n x y w0 B ts P Q a none w o) (hy : y < n) : Calls Tryz.prog 27 #[bptr (B y)] w (WnEnd n x y w0 B w o (.tuple #[.int .i64 0, .int .i64 0]) ts P Q a (some [])) := by
  refine (h.gn.begins hy two_y).mono ?_
  rintro e w' ⟨rfl, o', h1, h2⟩
  rw [two_put_y] at h1
  exact ⟨rfl, o', h.out h1 h2⟩
theorem Wn.insX {ops : List ROp} (h : Wn n x y w0 B ts P Q (some ops) b w o) (hx : x < n) (hxy : x ≠ y) (v : ByteArray) (hv : v.size ≤ 8) (ho : ops.length < 16) : Calls Tryz.prog 38 #[bptr (B x), .int .i64 0, .string ⟨#[115]⟩, .string v] w (WnEnd n x y w0 B w o (.int .i64 0) ts P Q (some (ops ++ [opIns v])) b) := by
  refine (h.gn.insert hx (two_x hxy) (opIns v) rfl (by show 1 ≤ maxLen; unfold maxLen; omega) (Nat.le_trans hv (by unfold maxLen; omega)) (does_ok (by kernel_rfl) (by show (3 : Int) ≠ 1; omega) hv ho)).mono ?_
  rintro e w' ⟨rfl, o', h1, h2⟩
  rw [two_put_x hxy] at h1
  exact ⟨rfl, o', h.out h1 h2⟩
theorem Wn.remY {ops : List ROp} (h : Wn n x y w0 B ts P Q a (some ops) w o) (hy : y < n) (v : ByteArray) (hv : v.size ≤ 8) (ho : ops.length < 16) : Calls Tryz.prog 44 #[bptr (B y), .int .i64 0, .string ⟨#[115]⟩, .string v] w (WnEnd n x y w0 B w o (.int .i64 0) ts P Q a (some (ops ++ [opRem v]))) := by
  refine (h.gn.remove hy two_y (opRem v) rfl (by show 1 ≤ maxLen; unfold maxLen; omega) (Nat.le_trans hv (by unfold maxLen; omega)) (does_ok (by kernel_rfl) (by show (4 : Int) ≠ 1; omega) hv ho)).mono ?_
  rintro e w' ⟨rfl, o', h1, h2⟩
  rw [two_put_y] at h1
  exact ⟨rfl, o', h.out h1 h2⟩
theorem Wn.wrX {ops : List ROp} (h : Wn n x y w0 B ts P Q (some ops) b w o) (hx : x < n) (hxy : x ≠ y) (v : ByteArray) (hv : v.size ≤ 8) (ho : ops.length < 16) : Calls Tryz.prog 30 #[bptr (B x), .int .i64 0, .string ⟨#[114]⟩, .string v] w (WnEnd n x y w0 B w o (.int .i64 0) ts P Q (some (ops ++ [opWr v])) b) := by
  refine (h.gn.write hx (two_x hxy) (opWr v) rfl (by show 1 ≤ maxLen; unfold maxLen; omega) (Nat.le_trans hv (by unfold maxLen; omega)) (does_ok (by kernel_rfl) (by show (2 : Int) ≠ 1; omega) hv ho)).mono ?_
  rintro e w' ⟨rfl, o', h1, h2⟩
  rw [two_put_x hxy] at h1
  exact ⟨rfl, o', h.out h1 h2⟩
theorem Wn.wrY {ops : List ROp} (h : Wn n x y w0 B ts P Q a (some ops) w o) (hy : y < n) (v : ByteArray) (hv : v.size ≤ 8) (ho : ops.length < 16) : Calls Tryz.prog 30 #[bptr (B y), .int .i64 0, .string ⟨#[114]⟩, .string v] w (WnEnd n x y w0 B w o (.int .i64 0) ts P Q a (some (ops ++ [opWr v]))) := by
  refine (h.gn.write hy two_y (opWr v) rfl (by show 1 ≤ maxLen; unfold maxLen; omega) (Nat.le_trans hv (by unfold maxLen; omega)) (does_ok (by kernel_rfl) (by show (2 : Int) ≠ 1; omega) hv ho)).mono ?_
  rintro e w' ⟨rfl, o', h1, h2⟩
  rw [two_put_y] at h1
  exact ⟨rfl, o', h.out h1 h2⟩
theorem Wn.commitX {ops : List ROp} (h : Wn n x y w0 B ts P Q (some ops) b w o) (hx : x < n) (hxy : x ≠ y) (ho : 0 < ops.length) (hf : ts.length + 1 ≤ 1100000) {u : RTx} (hu : mkT n x P ops = u) : Calls Tryz.prog 32 #[bptr (B x), .int .i64 0] w (WnEnd n x y w0 B w o (.tuple #[.agg #[.int .i64 x, .int .i64 u.seq], .int .i64 0]) (ts ++ [u]) (P ++ [u]) Q none b) := by
  refine (h.gn.commit hx (two_x hxy) ho hf).mono ?_
  rintro e w' ⟨rfl, o', h1, h2⟩
  rw [two_put_x hxy, two_put_x hxy, two_x hxy, hu] at h1
  refine ⟨?_, o', h.out h1 h2⟩
  rw [two_x hxy, ← hu]; rfl
theorem Wn.commitY {ops : List ROp} (h : Wn n x y w0 B ts P Q a (some ops) w o) (hy : y < n) (ho : 0 < ops.length) (hf : ts.length + 1 ≤ 1100000) {u : RTx} (hu : mkT n y Q ops = u) : Calls Tryz.prog 32 #[bptr (B y), .int .i64 0] w (WnEnd n x y w0 B w o (.tuple #[.agg #[.int .i64 y, .int .i64 u.seq], .int .i64 0]) (ts ++ [u]) P (Q ++ [u]) a none) := by
  refine (h.gn.commit hy two_y ho hf).mono ?_
  rintro e w' ⟨rfl, o', h1, h2⟩
  rw [two_put_y, two_put_y, two_y, hu] at h1
  refine ⟨?_, o', h.out h1 h2⟩
  rw [two_y, ← hu]; rfl
theorem Wn.tellsXY {u : RTx} (h : Wn n x y w0 B ts P Q a none w o) (hx : x < n) (hy : y < n) (hxy : x ≠ y) (hu : u ∈ P) (hg : wGo n P Q u = true) : Calls Tryz.prog 39 #[bptr (B x), bptr (B y)] w (WnEnd n x y w0 B w o (.bool true) ts P (Q ++ [u]) a none) := by
  refine (h.gn.tells1 (u := u) hx hy two_y (by rw [two_x hxy]; exact hu) (by rw [two_x hxy, two_y]; exact hg)).mono ?_
  rintro e w' ⟨rfl, o', h1, h2⟩
  rw [two_put_y, two_y] at h1
  exact ⟨rfl, o', h.out h1 h2⟩
theorem Wn.tellsYX {u : RTx} (h : Wn n x y w0 B ts P Q none b w o) (hx : x < n) (hy : y < n) (hxy : x ≠ y) (hu : u ∈ Q) (hg : wGo n Q P u = true) : Calls Tryz.prog 39 #[bptr (B y), bptr (B x)] w (WnEnd n x y w0 B w o (.bool true) ts (P ++ [u]) Q none b) := by
  refine (h.gn.tells1 (u := u) hy hx (two_x hxy) (by rw [two_y]; exact hu) (by rw [two_x hxy, two_y]; exact hg)).mono ?_
  rintro e w' ⟨rfl, o', h1, h2⟩
  rw [two_put_x hxy, two_x hxy] at h1
  exact ⟨rfl, o', h.out h1 h2⟩
theorem Wn.readY {ops : List ROp} (h : Wn n x y w0 B ts P Q a (some ops) w o) (hy : y < n) {l : List ByteArray} {s er : Int} (he : readAns (some ⟨0, 0, visOf n Q, ops⟩) wS Q n = (s, l, er)) : Calls Tryz.prog 33 #[bptr (B y), .int .i64 0, .string ⟨#[115]⟩] w fun e w' => ∃ al cl, WnEnd n x y w0 B w o (valAgg s (.slice al l.length cl) er) ts P Q a (some ops) e w' := by
  refine (h.gn.read hy two_y (6, 0, 0) (by simp [tg1]) wS (by decide) (s := s) (l := l) (er := er) (by rw [two_y]; exact he)).mono ?_
  rintro e w' ⟨lv, o', rfl, h1, h2, h3⟩
  obtain ⟨al, cl, rfl, -⟩ := h3.row.shape
  exact ⟨al, cl, rfl, o', h.out h1 h2⟩
theorem Wn.allX (h : Wn n x y w0 B ts P Q none b w o) (hx : x < n) (hxy : x ≠ y) (tl tm : Tag) (h1 : tl ≠ tg1 x) (h2 : tm ≠ tg1 x) (h3 : tm ≠ tl) : Calls Tryz.prog 24 #[bptr (B x)] w fun e w' => ∃ g cp o' xs, e = .returned (.tuple #[.slice (some ⟨g, 0, none⟩) 6 cp, .bool true]) ∧ Hid (Wn n x y w0 B ts P Q none b w' o' ∧ TouchT (grp n tg1) w o w' o') ∧ Hid (ValsX w' o' tl tm (.slice (some ⟨g, 0, none⟩) 6 cp) (allV n P) xs) := by
  refine (h.gn.all hx (two_x hxy) tl tm h1 h2 h3).mono ?_
  rintro e w' ⟨lv, o', xs, rfl, k1, k2, k3⟩
  rw [two_x hxy] at k3
  obtain ⟨g, cp, rfl, -⟩ := k3.cells (allV_len _ _)
  exact ⟨g, cp, o', xs, rfl, h.out k1 k2, k3⟩
theorem Wn.allY (h : Wn n x y w0 B ts P Q a none w o) (hy : y < n) (tl tm : Tag) (h1 : tl ≠ tg1 y) (h2 : tm ≠ tg1 y) (h3 : tm ≠ tl) : Calls Tryz.prog 24 #[bptr (B y)] w fun e w' => ∃ g cp o' xs, e = .returned (.tuple #[.slice (some ⟨g, 0, none⟩) 6 cp, .bool true]) ∧ Hid (Wn n x y w0 B ts P Q a none w' o' ∧ TouchT (grp n tg1) w o w' o') ∧ Hid (ValsX w' o' tl tm (.slice (some ⟨g, 0, none⟩) 6 cp) (allV n Q) xs) := by
  refine (h.gn.all hy two_y tl tm h1 h2 h3).mono ?_
  rintro e w' ⟨lv, o', xs, rfl, k1, k2, k3⟩
  rw [two_y] at k3
  obtain ⟨g, cp, rfl, -⟩ := k3.cells (allV_len _ _)
  exact ⟨g, cp, o', xs, rfl, h.out k1 k2, k3⟩
end
/- What Wins commits. -/
theorem w_mk1 (n x k : Nat) : mkT n x [] [opIns (wE k)] = wU1 n x k := rfl
theorem w_mk2 (n x k : Nat) : mkT n x [wU1 n x k] [opIns (wE k), opWr (wV x)] = wU2 n x k := by
  have : cntR [wU1 n x k] x = 1 := by simp [cntR, wU1]
  unfold mkT wU2
  rw [this]; rfl
theorem w_mk3 {n x y k : Nat} (h : x ≠ y) : mkT n y [wU1 n x k] [opRem (wE k), opWr (wV y)] = wU3 n x y k := by
  have : cntR [wU1 n x k] y = 0 := by simp [cntR, wU1]; omega
  unfold mkT wU3
  rw [this]; rfl
theorem w_mk4 {n x y k : Nat} (h : x ≠ y) : mkT n y (wQ3 n x y k) [opRem (wE k), opWr wLast] = wU4 n x y k := by
  have c : ¬ ((x : Int) = y) := by omega
  have : cntR (wQ3 n x y k) y = 1 := by simp [cntR, wQ3, wU1, wU2, wU3, c]
  unfold mkT wU4
  rw [this]; rfl
theorem wV_size (k : Nat) : (wV k).size ≤ 8 := by
  unfold wV
  rw [ByteArray.size_append]
  show 3 + 1 ≤ 8
  omega
theorem wE_size (k : Nat) : (wE k).size ≤ 8 := by show 1 ≤ 8; omega
theorem dig_small {x : Nat} (h : x < 9) : digOf (x : Int) = wE x := by
  unfold digOf wE
  have : pickOf (x : Int) 9 = x := by
    unfold pickOf
    rw [if_neg (by omega)]; omega
  rw [this]
theorem w_told3 {n x y k : Nat} (hn : n ≤ 5) (hx : x < n) (hy : y < n) (hxy : x ≠ y) (hk : k < 9) : allV n (wP3 n x y k) = [(0, []), (0, []), (0, [wV (min x y), wV (max x y)]), (0, []), (0, [wE k]), (0, [])] ∧ allV n (wQ3 n x y k) = [(0, []), (0, []), (0, [wV (min x y), wV (max x y)]), (0, []), (0, [wE k]), (0, [])] ∧ allV n (wP4 n x y k) = [(0, []), (0, []), (0, [wLast]), (0, []), (0, []), (0, [])] := by
  obtain ⟨-, h1, h2, h3⟩ := wins_told hn hx hy hxy hk
  unfold allV
  rw [h1, h2, h3]
  exact ⟨rfl, rfl, rfl⟩
theorem w_few {l : List ByteArray} {e : ByteArray} (hl : l.length ≤ 2) : ∀ v, v ∈ [((0 : Int), ([] : List ByteArray)), (0, []), (0, l), (0, []), (0, [e]), (0, [])] → v.2.length ≤ 100000000 := by
  intro v hv
  simp only [List.mem_cons, List.not_mem_nil, or_false] at hv
  rcases hv with rfl | rfl | rfl | rfl | rfl | rfl <;> simp <;> omega
end Go.Proofs.YtiplgdkpnhamaaaGreatDoor.Tv
