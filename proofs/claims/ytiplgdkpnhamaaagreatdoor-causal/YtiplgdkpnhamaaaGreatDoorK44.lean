/- The texts ZK21, ZN4, ZN5, ZN6, ZN7, QK1, QW1, QW2, QK2, QK3, QK4, QK5, ZN8, QK6, ZN9, ZN10, QG1, joined. -/
import Derived.Test.YtiplgdkpnhamaaaGreatDoorK43
import Derived.Test.YtiplgdkpnhamaaaGreatDoorK38
import Derived.Test.YtiplgdkpnhamaaaGreatDoorK33
import Derived.Test.YtiplgdkpnhamaaaGreatDoorK04

namespace Go.Proofs.YtiplgdkpnhamaaaGreatDoor.Tv
open Go.RowKit
end Go.Proofs.YtiplgdkpnhamaaaGreatDoor.Tv

namespace Go.Proofs.YtiplgdkpnhamaaaGreatDoor.Tv
open Go.RowKit
theorem PR.hist {xq : DX} {w : World} {o : Nat → Tag} {t : Tag} {b n i : Nat} {d : DRep} (h : PR xq w o t b n i d) : HistG n d.hs ∧ d.vis = visOf n d.hs ∧ i < n := by
  obtain ⟨p, h1, sb, st, sl, tbs, mbs, hv, kn, h2⟩ := h
  exact ⟨h2.ok.hist, h2.ok.vis, h2.ok.hi⟩
theorem summary_pr {xq : DX} {w : World} {o : Nat → Tag} {t : Tag} {b n i : Nat} {d : DRep} (h : PR xq w o t b n i d) (hR : d.hs.length ≤ 1100000) (ht : Tabs w) :
    Calls Tryz.prog 37 #[bptr b] w fun e w' => e = .returned (.string ⟨(sumT n i d.vis).toArray⟩) ∧ Below w.heap.size w w' := by
  obtain ⟨p, h1, h2⟩ := h
  exact summary_call h2 hR ht
theorem answer_pr {xq : DX} {w : World} {o : Nat → Tag} {t : Tag} {b n i : Nat} {d : DRep} (h : PR xq w o t b n i d) (hR : d.hs.length ≤ 1100000) {j : Nat} (hj : j < n) (l : List Int) (hl : l.length = n) (hmo : ∀ k (hk : k < l.length), 0 ≤ l[k] ∧ l[k] ≤ maxSeq) (hsz : (sumT n j l).length ≤ 200000000000) (ht : Tabs w) (h6 : ∀ q, q < 6 → o q ≠ t) :
    Calls Tryz.prog 40 #[bptr b, .string ⟨(sumT n j l).toArray⟩] w fun e w' => e = .returned (.tuple #[.string ⟨(ansT n i (vecOf d.vis) ((beyondL d.hs xq (vecOf l)).map trOf)).toArray⟩, .int .i64 0]) ∧ ∃ o', PR (learnX xq j (vecOf l)) w' o' t b n i d ∧ TouchT (· = t) w o w' o' := by
  obtain ⟨hist, -, -⟩ := h.hist
  obtain ⟨p, h1, h2⟩ := h
  have hn5 := hist.n5
  have hrd := read_text_sum w n j ⟨(sumT n j l).toArray⟩ l true hn5 hj hl (by show (sumT n j l).toArray.size ≤ _; simpa using hsz) (by unfold Rem; rw [if_pos rfl]; exact ⟨_, by show (sumT n j l).toArray.toList = _; rw [List.toList_toArray]; rfl⟩) hmo ht
  refine (answer_ok h2 hR _ j (vecOf l) (by omega) ht (fun q hq => ?_) (fun u hu => tr_fit hist hR hu) (hrd.mono ?_)).mono ?_
  · by_cases c : p q = .other
    · exact c
    · exact absurd (h1 q (by have := ht.room; omega) c) (h6 q hq)
  · rintro e w' ⟨hB, ⟨-, rfl⟩ | ⟨hno, -⟩⟩
    · exact ⟨hB, rfl⟩
    · exact absurd (by show (sumT n j l).toArray.toList = _; rw [List.toList_toArray]) hno
  · rintro e w' ⟨rfl, h3, h4⟩
    exact ⟨rfl, PR.outW h1 h3 ⟨h4.touch.mono fun q _ e => by rw [e]; simp, fun q hq e => by rw [← h4.same q hq]; exact e⟩⟩
theorem receive_pr {xq : DX} {w : World} {o : Nat → Tag} {t : Tag} {b n i : Nat} {d : DRep} (h : PR xq w o t b n i d) {ts hs us : List RTx} (hT : HistG n ts) (hd : ∀ u, u ∈ d.hs → u ∈ ts) (hH : HistG n hs) (hm : ∀ u, u ∈ hs → u ∈ ts) (x : DX) (v : Vec) (hus : us = beyondL hs x v) (hM : ts.length ≤ 1100000) {j : Nat} (hj : j < n)
    (hsz : (ansT n j (vecOf (visOf n hs)) (us.map trOf)).length ≤ 200000000000) (ht : Tabs w) :
    Calls Tryz.prog 41 #[bptr b, .string ⟨(ansT n j (vecOf (visOf n hs)) (us.map trOf)).toArray⟩] w fun e w' => e = .returned (.int .i64 0) ∧ ∃ o' d', PR (learnX xq j (vecOf (visOf n hs))) w' o' t b n i d' ∧ TouchT (· = t) w o w' o' ∧ RecD d us d' := by
  obtain ⟨p, h1, h2⟩ := h
  have hn5 := hT.n5
  have husT : ∀ u, u ∈ us → u ∈ ts := fun u hu => hm u (bey_mem (x := x) (v := v) (hus ▸ hu))
  have hN : hs.length ≤ 1100000 := Nat.le_trans (hH.few hm) hM
  have hA : AnsOk n j (vecOf (visOf n hs)) (ansF hs x v) (ansC hs x v) := bey_ans hj hH hN x v
  have hL : upToL (ansF hs x v) (ansC hs x v) 5 = us.map trOf := by rw [hus]; exact ans_list hs x v
  have hrd : ∀ W, Below w.heap.size w W → Calls Tryz.prog 79 #[.func (.func 80) #[] #[], .string ⟨(ansT n j (vecOf (visOf n hs)) (us.map trOf)).toArray⟩, .int .i64 n] W fun e w' => Below W.heap.size W w' ∧ ∃ lv, e = .returned (.tuple #[ansVal j (vecOf (visOf n hs)) lv, .int .i64 0]) ∧ GotL W (us.map trOf) lv w' := fun W hB => by
    refine (read_text_ans W n j _ (vecOf (visOf n hs)) (us.map trOf) (((ansT n j (vecOf (visOf n hs)) (us.map trOf)).toArray).toList = ansT n j (vecOf (visOf n hs)) (us.map trOf)) fun W' hB' => ?_).mono ?_
    · have := read_answer W' n j ⟨(ansT n j (vecOf (visOf n hs)) (us.map trOf)).toArray⟩ (vecOf (visOf n hs)) (ansF hs x v) (ansC hs x v) true hA (by show (ansT n j (vecOf (visOf n hs)) (us.map trOf)).toArray.size ≤ _; simpa using hsz) (by unfold Rem; rw [if_pos rfl, hL]; exact ⟨_, by show (ansT n j (vecOf (visOf n hs)) (us.map trOf)).toArray.toList = _; rw [List.toList_toArray]; exact ansT_eq ..⟩) ((ht.later hB).later hB')
      rw [hL] at this
      exact this
    · rintro e w' ⟨hB', ⟨-, lv, rfl, hg⟩ | ⟨hno, -⟩⟩
      · exact ⟨hB', lv, rfl, hg⟩
      · exact absurd (by rw [List.toList_toArray]) hno
  have hR : ∀ vs, (∀ v, v ∈ vs → v ∈ us) → HistG n (passD d vs).hs → (passD d vs).hs.length ≤ 1100000 := fun vs hvs hp => Nat.le_trans (hp.few fun u hu => (passD_mem vs d u hu).elim (hd u) fun h => husT u (hvs u h)) hM
  have hU : us.length ≤ 50000000 := by
    have h1 := segs_few hs x v 5
    rw [hus]
    exact Nat.le_trans h1 (by omega)
  refine (receive_ok h2 us hU hR _ j (vecOf (visOf n hs)) (by omega) hrd (fun u hu => ?_) (fun nd hnd => ?_) (by rw [hus]; exact bey_dots hH x v) (hnew_of hT hd husT)).mono ?_
  · obtain ⟨a, ha, e⟩ := List.mem_iff_getElem.1 (bey_mem (x := x) (v := v) (hus ▸ hu))
    have hk := hH.tx a ha
    have h3 := cntR_le (hs.take a) hs[a].rep.toNat
    rw [List.length_take] at h3
    have h4 := hk.seq
    have h5 := hk.rN
    rw [e] at h3 h4 h5
    omega
  · exact bey_small hH hN x v nd (by rw [← hus]; exact hnd)
  · rintro e w' ⟨rfl, p', ys, xs, h3, h4, h5, h6, h7⟩
    obtain ⟨o', h8, h9⟩ := PR.outW h1 h6 h7
    exact ⟨rfl, o', _, h8, h9, bey_rec hH x v hus d h3 h4 h5⟩
end Go.Proofs.YtiplgdkpnhamaaaGreatDoor.Tv

namespace Go.Proofs.YtiplgdkpnhamaaaGreatDoor.Tv
open Go.RowKit
theorem sum_size {n j : Nat} {l : List Int} (hn : n ≤ 5) (hj : j < n) (hl : l.length = n) (h : ∀ k, k ∈ l → -9223372036854775808 ≤ k ∧ k ≤ 9223372036854775807) : (sumT n j l).length ≤ 200 := by
  have h1 := seal_len (headT 115 n j l)
  have h2 := vec_len l h
  have h3 := num_len (k := (n : Int)) (by omega) (by omega)
  have h4 := num_len (k := (j : Int)) (by omega) (by omega)
  show (headT 115 n j l ++ sealT (headT 115 n j l)).length ≤ _
  rw [List.length_append]
  have h5 : (headT 115 n j l).length = (numT n).length + ((numT j).length + (vecT l).length) + 1 := by simp [headT]
  omega
theorem tr_len {n : Nat} {hs : List RTx} (h : HistG n hs) (hN : hs.length ≤ 1100000) {u : RTx} (hu : u ∈ hs) : (txT n (trOf u).saw (trOf u).wr).length ≤ 1300 := by
  have hf := tr_fit h hN hu
  obtain ⟨j, hj, e⟩ := List.mem_iff_getElem.1 hu
  have hk := h.tx j hj
  rw [e] at hk
  obtain ⟨k1, -, -, k4⟩ := own_keysOf hk.ops hk.one
  have h1 := vec_take_len hf.saw (k := n) h.n5
  have hw : (trOf u).wr = ownOf u.ops := rfl
  rw [← hw] at k1 k4
  have h2 := num_len (k := ((keysOf (trOf u).wr).length : Int)) (by omega) (by omega)
  have h3 := wrs_len (m := (trOf u).wr) (ks := keysOf (trOf u).wr) fun p hp => by
    obtain ⟨x, e⟩ := Option.isSome_iff_exists.1 ((k1.2 p).1 hp)
    exact ⟨x, e, hf.wr p x e⟩
  simp only [txT, List.length_append]
  omega
theorem trs_len {n : Nat} {hs : List RTx} (h : HistG n hs) (hN : hs.length ≤ 1100000) : ∀ {us : List RTx}, (∀ u, u ∈ us → u ∈ hs) → (txsT n (us.map trOf)).length ≤ 1300 * us.length
  | [], _ => by simp [txsT]
  | a :: l, hu => by
    have h1 := trs_len h hN (us := l) fun x hx => hu x (by simp [hx])
    have h2 := tr_len h hN (hu a (by simp))
    simp only [txsT, List.map_cons, List.flatMap_cons, List.length_append, List.length_cons] at h1 ⊢
    omega
theorem bey_few (hs : List RTx) (x : DX) (v : Vec) : (beyondL hs x v).length ≤ 5 * hs.length := segs_few hs x v 5
theorem ans_size {n j : Nat} {hs us : List RTx} (h : HistG n hs) (hN : hs.length ≤ 1100000) (hj : j < n) (hu : ∀ u, u ∈ us → u ∈ hs) (hl : us.length ≤ 5 * hs.length) : (ansT n j (vecOf (visOf n hs)) (us.map trOf)).length ≤ 200000000000 := by
  have hn5 := h.n5
  have hvis : ∀ k, k ∈ (vecOf (visOf n hs)).list → -9223372036854775808 ≤ k ∧ k ≤ 9223372036854775807 := fun k hk => by
    obtain ⟨r, hr, rfl⟩ := vec_mem hk
    rw [vecOf_get (by rw [visOf_len]; exact hn5), Int.toNat_natCast]
    have := cntR_le hs r
    by_cases c : r < n
    · rw [visOf_get c]; omega
    · rw [visOf_out (by omega)]; omega
  have hrep : ∀ t, t ∈ us.map trOf → t.rep < 5 := fun t ht => by
    obtain ⟨u, hu', rfl⟩ := List.mem_map.1 ht
    exact (tr_fit h hN (hu u hu')).rep
  have hcnt : ∀ k, k ∈ (countsOf (us.map trOf)).list → -9223372036854775808 ≤ k ∧ k ≤ 9223372036854775807 := fun k hk => by
    obtain ⟨r, hr, rfl⟩ := vec_mem hk
    have := counts_small (us.map trOf) hrep r
    rw [List.length_map] at this
    omega
  have h1 := vec_take_len hvis (k := n) hn5
  have h2 := vec_take_len hcnt (k := n) hn5
  have h3 := num_len (k := (n : Int)) (by omega) (by omega)
  have h4 := num_len (k := (j : Int)) (by omega) (by omega)
  have h5 := trs_len h hN hu
  have h7 : (ansBody n j (vecOf (visOf n hs)) (us.map trOf)).length = (numT n).length + ((numT j).length + (vecT ((vecOf (visOf n hs)).list.take n)).length) + 1 + ((vecT ((countsOf (us.map trOf)).list.take n)).length + (txsT n (us.map trOf)).length) := by simp [ansBody, headT]; omega
  rw [ansT_eq, List.length_append]
  have h6 := seal_len (ansBody n j (vecOf (visOf n hs)) (us.map trOf))
  omega
theorem vis_small {n : Nat} {hs : List RTx} (hN : hs.length ≤ 1100000) : ∀ k (hk : k < (visOf n hs).length), 0 ≤ (visOf n hs)[k] ∧ (visOf n hs)[k] ≤ maxSeq := fun k hk => by
  have hkn : k < n := by rwa [visOf_len] at hk
  have h1 := visOf_get (hs := hs) hkn
  rw [List.getD_eq_getElem?_getD, List.getElem?_eq_getElem hk] at h1
  have h2 : (visOf n hs)[k] = cntR hs k := h1
  have := cntR_le hs k
  unfold maxSeq
  omega
theorem answer_of {xq : DX} {w : World} {o : Nat → Tag} {t : Tag} {b n i : Nat} {d : DRep} (h : PR xq w o t b n i d) (hR : d.hs.length ≤ 1100000) {j : Nat} (hj : j < n) {hs : List RTx} (hN : hs.length ≤ 1100000) (ht : Tabs w) (h6 : ∀ q, q < 6 → o q ≠ t) :
    Calls Tryz.prog 40 #[bptr b, .string ⟨(sumT n j (visOf n hs)).toArray⟩] w fun e w' => e = .returned (.tuple #[.string ⟨(ansT n i (vecOf (visOf n d.hs)) ((beyondL d.hs xq (vecOf (visOf n hs))).map trOf)).toArray⟩, .int .i64 0]) ∧ ∃ o', PR (learnX xq j (vecOf (visOf n hs))) w' o' t b n i d ∧ TouchT (· = t) w o w' o' := by
  obtain ⟨hist, hv, -⟩ := h.hist
  have hs1 := vis_small (n := n) hN
  have hsz := sum_size (j := j) hist.n5 hj (visOf_len n hs) fun k hk => by
    obtain ⟨a, ha, rfl⟩ := List.mem_iff_getElem.1 hk
    have := hs1 a ha
    unfold maxSeq at this
    omega
  have := answer_pr h hR hj (visOf n hs) (visOf_len n hs) hs1 (by omega) ht h6
  rwa [hv] at this
theorem receive_of {xq : DX} {w : World} {o : Nat → Tag} {t : Tag} {b n i : Nat} {d : DRep} (h : PR xq w o t b n i d) {ts hs : List RTx} (hT : HistG n ts) (hd : ∀ u, u ∈ d.hs → u ∈ ts) (hH : HistG n hs) (hm : ∀ u, u ∈ hs → u ∈ ts) (x : DX) (v : Vec) (hM : ts.length ≤ 1100000) {j : Nat} (hj : j < n) (ht : Tabs w) :
    Calls Tryz.prog 41 #[bptr b, .string ⟨(ansT n j (vecOf (visOf n hs)) ((beyondL hs x v).map trOf)).toArray⟩] w fun e w' => e = .returned (.int .i64 0) ∧ ∃ o' d', PR (learnX xq j (vecOf (visOf n hs))) w' o' t b n i d' ∧ TouchT (· = t) w o w' o' ∧ RecD d (beyondL hs x v) d' :=
  receive_pr h hT hd hH hm x v rfl hM hj (ans_size hH (Nat.le_trans (hH.few hm) hM) hj (fun _ hu => bey_mem hu) (bey_few hs x v)) ht
end Go.Proofs.YtiplgdkpnhamaaaGreatDoor.Tv

namespace Go.Proofs.YtiplgdkpnhamaaaGreatDoor.Tv
open Go.RowKit
def put {α : Type} (f : Nat → α) (i : Nat) (x : α) : Nat → α := fun j => if j = i then x else f j
theorem put_same {α : Type} (f : Nat → α) (i : Nat) (x : α) : put f i x i = x := by simp [put]
theorem put_other {α : Type} {f : Nat → α} {i j : Nat} {x : α} (h : j ≠ i) : put f i x j = f j := by simp [put, h]
theorem cnt_sub {n : Nat} {hs ts : List RTx} (hT : HistG n ts) (h : HistG n hs) (hm : ∀ u, u ∈ hs → u ∈ ts) (k : Nat) : cntR hs k ≤ cntR ts k := by
  by_cases c : cntR hs k = 0
  · omega
  · obtain ⟨u, h1, h2, h3⟩ := h.has (r := k) (s := cntR hs k) (by omega) (Int.le_refl _)
    have := (hT.seq_le (hm u h1)).2
    rw [show u.rep.toNat = k by omega, h3] at this
    omega
theorem cntR_app (a b : List RTx) (k : Nat) : cntR (a ++ b) k = cntR a k + cntR b k := by simp [cntR]
theorem RecD.more {d d' : DRep} {us : List RTx} (h : RecD d us d') : (∃ l, d'.hs = d.hs ++ l) ∧ d'.opn = d.opn ∧ ∀ u, u ∈ d'.hs → u ∈ d.hs ∨ u ∈ us := by
  obtain ⟨zs, rfl, hp, -⟩ := h
  exact ⟨passD_pre zs d, passD_opn d zs, fun u hu => (passD_mem zs d u hu).imp id fun h => hp.mem_iff.1 h⟩
theorem RecD.cnt {d d' : DRep} {us : List RTx} (h : RecD d us d') (k : Nat) : cntR d.hs k ≤ cntR d'.hs k := by
  obtain ⟨⟨l, e⟩, -, -⟩ := h.more
  rw [e, cntR_app]; omega
structure Net (n : Nat) (w : World) (o : Nat → Tag) (T : Nat → Tag) (B : Nat → Nat) (ts : List RTx) (D : Nat → DRep) (X : Nat → DX) : Prop where
  hist : HistG n ts
  few : ts.length ≤ 1100000
  dif : ∀ i j, i < n → j < n → T i = T j → i = j
  pr : ∀ i, i < n → PR (X i) w o (T i) (B i) n i (D i)
  sub : ∀ i, i < n → ∀ u, u ∈ (D i).hs → u ∈ ts
  own : ∀ i, i < n → cntR ts i = cntR (D i).hs i
  tabs : Tabs w
  low : ∀ q, q < 6 → ∀ i, i < n → o q ≠ T i
  gone : ∀ i k r, i < n → k < n → (X i).gone r ≤ cntR (D k).hs r
def grp (n : Nat) (T : Nat → Tag) (t : Tag) : Prop := ∃ i, i < n ∧ t = T i
section
variable {n : Nat} {w w' : World} {o o' : Nat → Tag} {T : Nat → Tag} {B : Nat → Nat} {ts ts' : List RTx} {D : Nat → DRep} {X : Nat → DX}
theorem Net.move (h : Net n w o T B ts D X) (hm : ∀ q, q < w.heap.size → (q < 6 ∨ grp n T (o q)) → w'.heap[q]? = w.heap[q]? ∧ o' q = o q) : Net n w' o' T B ts D X :=
  ⟨h.hist, h.few, h.dif, fun i hi => (h.pr i hi).move fun q hq e => by
    obtain ⟨a, b⟩ := hm q hq (Or.inr ⟨i, hi, e⟩)
    exact ⟨a, b.trans e⟩, h.sub, h.own, h.tabs.kept fun q hq => (hm q (by have := h.tabs.room; omega) (Or.inl hq)).1, fun q hq i hi => by
    rw [(hm q (by have := h.tabs.room; omega) (Or.inl hq)).2]; exact h.low q hq i hi, h.gone⟩
theorem Net.below (h : Net n w o T B ts D X) (hb : Below w.heap.size w w') : Net n w' o T B ts D X := h.move fun q hq _ => ⟨hb.block q hq, rfl⟩
theorem Net.len (h : Net n w o T B ts D X) {i : Nat} (hi : i < n) : (D i).hs.length ≤ 1100000 := Nat.le_trans ((h.pr i hi).hist.1.few (h.sub i hi)) h.few
theorem Net.turn (h : Net n w o T B ts D X) {i : Nat} (hi : i < n) {d' : DRep} {x' : DX} (hp : PR x' w' o' (T i) (B i) n i d') (ht : TouchT (· = T i) w o w' o') (hT : HistG n ts') (hf : ts'.length ≤ 1100000) (hsub : ∀ u, u ∈ ts → u ∈ ts') (hd : ∀ u, u ∈ d'.hs → u ∈ ts') (hown : cntR ts' i = cntR d'.hs i) (hoth : ∀ k, k < n → k ≠ i → cntR ts' k = cntR ts k) (hmono : ∀ r, cntR (D i).hs r ≤ cntR d'.hs r) (hg : ∀ k r, k < n → x'.gone r ≤ cntR (put D i d' k).hs r) : Net n w' o' T B ts' (put D i d') (put X i x') := by
  have hroom := h.tabs.room
  refine ⟨hT, hf, h.dif, fun k hk => ?_, fun k hk u hu => ?_, fun k hk => ?_, h.tabs.kept fun q hq => ht.touch.block q (by omega) (h.low q hq i hi), fun q hq k hk => by rw [ht.same q (by omega)]; exact h.low q hq k hk, fun a k r ha hk => ?_⟩
  · by_cases c : k = i
    · subst c; rw [put_same, put_same]; exact hp
    · rw [put_other c, put_other c]
      exact (h.pr k hk).move fun q hq e => ⟨ht.touch.block q hq (by rw [e]; exact fun x => c (h.dif k i hk hi x)), (ht.same q hq).trans e⟩
  · by_cases c : k = i
    · subst c; rw [put_same] at hu; exact hd u hu
    · rw [put_other c] at hu; exact hsub u (h.sub k hk u hu)
  · by_cases c : k = i
    · subst c; rw [put_same]; exact hown
    · rw [put_other c, hoth k hk c]; exact h.own k hk
  · by_cases c : a = i
    · subst c; rw [put_same]; exact hg k r hk
    · rw [put_other c]
      have := h.gone a k r ha hk
      by_cases c2 : k = i
      · subst c2; rw [put_same]; have := hmono r; omega
      · rw [put_other c2]; exact this
theorem Net.still (h : Net n w o T B ts D X) {i : Nat} (hi : i < n) {d' : DRep} {x' : DX} (hp : PR x' w' o' (T i) (B i) n i d') (ht : TouchT (· = T i) w o w' o') (he : d'.hs = (D i).hs) (hx : x'.gone = (X i).gone) : Net n w' o' T B ts (put D i d') (put X i x') :=
  h.turn hi hp ht h.hist h.few (fun _ hu => hu) (by rw [he]; exact h.sub i hi) (by rw [he]; exact h.own i hi) (fun _ _ _ => rfl) (fun r => by rw [he]; exact Nat.le_refl _) (fun k r hk => by
    rw [hx]
    by_cases c : k = i
    · subst c; rw [put_same, he]; exact h.gone k k r hi hi
    · rw [put_other c]; exact h.gone i k r hi hk)
theorem Net.more (h : Net n w o T B ts D X) {i : Nat} (hi : i < n) {d' : DRep} {x' : DX} {u : RTx} (hp : PR x' w' o' (T i) (B i) n i d') (ht : TouchT (· = T i) w o w' o') (he : d'.hs = (D i).hs ++ [u]) (hr : u.rep = i) (hx : x'.gone = (X i).gone) (hf : ts.length + 1 ≤ 1100000) : Net n w' o' T B (ts ++ [u]) (put D i d') (put X i x') := by
  have hD := (h.pr i hi).hist.1
  have hnew : NewOk n (D i).hs u := by
    have hH := hp.hist.1
    rw [he] at hH
    have := hH.tx (D i).hs.length (by simp)
    rwa [List.take_left' rfl, List.getElem_append_right (Nat.le_refl _), List.getElem_singleton] at this
  have hrn : u.rep.toNat = i := by omega
  have hn : NewOk n ts u := by
    refine ⟨hnew.r0, hnew.rn, ?_, ⟨hnew.saw.len, hnew.saw.pos, fun r => ?_, fun v hv hs r => ?_⟩, hnew.ops, hnew.one⟩
    · have := hnew.seq
      rw [hrn] at this ⊢
      rw [this, h.own i hi]
    · have := hnew.saw.le r
      have := cnt_sub h.hist hD (h.sub i hi) r
      omega
    · refine hnew.saw.clo v ?_ hs r
      rw [mem_seen h.hist hD (h.sub i hi) hv]
      exact Int.le_trans (sees_le.1 hs) (hnew.saw.le _)
  refine h.turn hi hp ht (h.hist.snoc hn) (by simpa using hf) (fun v hv => by simp [hv]) (fun v hv => ?_) ?_ (fun k _ hk => ?_) (fun r => ?_) (fun k r hk => ?_)
  · rw [he] at hv
    rcases List.mem_append.1 hv with hv | hv
    · simp [h.sub i hi v hv]
    · simp [List.mem_singleton.1 hv]
  · rw [he, cntR_snoc, cntR_snoc, h.own i hi]
  · rw [cntR_snoc, if_neg (by omega)]; rfl
  · rw [he, cntR_snoc]; omega
  · rw [hx]
    by_cases c : k = i
    · subst c; rw [put_same, he, cntR_snoc]; have := h.gone k k r hi hi; omega
    · rw [put_other c]; exact h.gone i k r hi hk
theorem touch_grp {i : Nat} (h : TouchT (· = T i) w o w' o') (hi : i < n) : TouchT (grp n T) w o w' o' := h.mono fun _ e => ⟨i, hi, e⟩
theorem Net.summary (h : Net n w o T B ts D X) {b : Nat} (hb : b < n) : Calls Tryz.prog 37 #[bptr (B b)] w fun e w' => e = .returned (.string ⟨(sumT n b (visOf n (D b).hs)).toArray⟩) ∧ Net n w' o T B ts D X ∧ TouchT (grp n T) w o w' o := by
  have a := summary_pr (h.pr b hb) (h.len hb) h.tabs
  rw [(h.pr b hb).hist.2.1] at a
  refine a.mono ?_
  rintro e w' ⟨rfl, hB⟩
  exact ⟨rfl, h.below hB, (TouchT.refl _ _ _).below hB⟩
theorem Net.answer (h : Net n w o T B ts D X) {a : Nat} (ha : a < n) {hs : List RTx} (hH : HistG n hs) (hm : ∀ u, u ∈ hs → u ∈ ts) {b : Nat} (hb : b < n) : Calls Tryz.prog 40 #[bptr (B a), .string ⟨(sumT n b (visOf n hs)).toArray⟩] w fun e w' => e = .returned (.tuple #[.string ⟨(ansT n a (vecOf (visOf n (D a).hs)) ((beyondL (D a).hs (X a) (vecOf (visOf n hs))).map trOf)).toArray⟩, .int .i64 0]) ∧ ∃ o', Net n w' o' T B ts D (put X a (learnX (X a) b (vecOf (visOf n hs)))) ∧ TouchT (grp n T) w o w' o' := by
  refine (answer_of (h.pr a ha) (h.len ha) hb (Nat.le_trans (hH.few hm) h.few) h.tabs fun q hq => h.low q hq a ha).mono ?_
  rintro e w' ⟨rfl, o', h1, h2⟩
  refine ⟨rfl, o', ?_, touch_grp h2 ha⟩
  have := h.still ha h1 h2 rfl rfl
  have e : put D a (D a) = D := by funext k; by_cases c : k = a <;> simp [put, c]
  rwa [e] at this
theorem Net.receive (h : Net n w o T B ts D X) {b : Nat} (hb : b < n) {hs : List RTx} (hH : HistG n hs) (hm : ∀ u, u ∈ hs → u ∈ ts) (x : DX) (v : Vec) {a : Nat} (ha : a < n) : Calls Tryz.prog 41 #[bptr (B b), .string ⟨(ansT n a (vecOf (visOf n hs)) ((beyondL hs x v).map trOf)).toArray⟩] w fun e w' => e = .returned (.int .i64 0) ∧ ∃ o' d', Net n w' o' T B ts (put D b d') (put X b (learnX (X b) a (vecOf (visOf n hs)))) ∧ TouchT (grp n T) w o w' o' ∧ RecD (D b) (beyondL hs x v) d' := by
  refine (receive_of (h.pr b hb) h.hist (h.sub b hb) hH hm x v h.few ha h.tabs).mono ?_
  rintro e w' ⟨rfl, o', d', h1, h2, h3⟩
  refine ⟨rfl, o', d', ?_, touch_grp h2 hb, h3⟩
  have hsub : ∀ u, u ∈ d'.hs → u ∈ ts := fun u hu => (h3.more.2.2 u hu).elim (h.sub b hb u) fun hu => hm u (bey_mem hu)
  have hc := h3.cnt
  refine h.turn hb h1 h2 h.hist h.few (fun _ hu => hu) hsub ?_ (fun _ _ _ => rfl) hc (fun k r hk => ?_)
  · have h4 := cnt_sub h.hist h1.hist.1 hsub b
    have h5 := hc b
    have h6 := h.own b hb
    omega
  · show (X b).gone r ≤ _
    by_cases c : k = b
    · subst c; rw [put_same]; have := h.gone k k r hb hb; have := hc r; omega
    · rw [put_other c]; exact h.gone b k r hb hk
end
end Go.Proofs.YtiplgdkpnhamaaaGreatDoor.Tv

namespace Go.Proofs.YtiplgdkpnhamaaaGreatDoor.Tv
open Go.RowKit
def tellX (n : Nat) (D : Nat → DRep) (X : Nat → DX) (a b : Nat) : Nat → DX := put (put X a (learnX (X a) b (vecOf (visOf n (D b).hs)))) b (learnX (put X a (learnX (X a) b (vecOf (visOf n (D b).hs))) b) a (vecOf (visOf n (D a).hs)))
def TellEnd (n : Nat) (w : World) (o : Nat → Tag) (T : Nat → Tag) (B : Nat → Nat) (ts : List RTx) (D : Nat → DRep) (X : Nat → DX) (a b : Nat) (e : Ending) (w' : World) : Prop :=
  e = .returned (.bool true) ∧ ∃ o' d' X', Net n w' o' T B ts (put D b d') X' ∧ TouchT (grp n T) w o w' o' ∧ RecD (D b) (beyondL (D a).hs (X a) (vecOf (visOf n (D b).hs))) d' ∧ (∀ k, (X' k).gone = (X k).gone) ∧ X' = tellX n D X a b
set_option maxRecDepth 100000 in
set_option maxHeartbeats 4000000 in
theorem tells_any {n : Nat} {w : World} {o : Nat → Tag} {T : Nat → Tag} {B : Nat → Nat} {ts : List RTx} {D : Nat → DRep} {X : Nat → DX} (h : Net n w o T B ts D X) {a b : Nat} (ha : a < n) (hb : b < n) :
    Calls Tryz.prog 39 #[bptr (B a), bptr (B b)] w (TellEnd n w o T B ts D X a b) := by
  have hA := (h.pr a ha).hist.1
  have hB := (h.pr b hb).hist.1
  have hc1 := h.summary hb
  have hc2 : ∀ w1, Net n w1 o T B ts D X → _ := fun w1 (h1 : Net n w1 o T B ts D X) => h1.answer ha hB (h.sub b hb) hb
  have hc3 : ∀ w2 o2, Net n w2 o2 T B ts D (put X a (learnX (X a) b (vecOf (visOf n (D b).hs)))) → _ := fun w2 o2 (h2 : Net n w2 o2 T B ts D (put X a (learnX (X a) b (vecOf (visOf n (D b).hs))))) => h2.receive hb hA (h.sub a ha) (X a) (vecOf (visOf n (D b).hs)) ha
  have hE : ∀ w3 o2 o3 d' w1 w2, TouchT (grp n T) w o w1 o → TouchT (grp n T) w1 o w2 o2 → Net n w3 o3 T B ts (put D b d') (put (put X a (learnX (X a) b (vecOf (visOf n (D b).hs)))) b (learnX (put X a (learnX (X a) b (vecOf (visOf n (D b).hs))) b) a (vecOf (visOf n (D a).hs)))) → TouchT (grp n T) w2 o2 w3 o3 → RecD (D b) (beyondL (D a).hs (X a) (vecOf (visOf n (D b).hs))) d' → TellEnd n w o T B ts D X a b (.returned (.bool true)) w3 := fun w3 o2 o3 d' w1 w2 t1 t2 hN t3 hr => by
    refine ⟨rfl, o3, d', _, hN, (t1.trans t2).trans t3, hr, fun k => ?_, rfl⟩
    have e1 : ∀ k, (put X a (learnX (X a) b (vecOf (visOf n (D b).hs))) k).gone = (X k).gone := fun k => by
      by_cases c : k = a
      · subst c; rw [put_same]; rfl
      · rw [put_other c]
    by_cases c : k = b
    · subst c; rw [put_same]; exact e1 k
    · rw [put_other c]; exact e1 k
  generalize (⟨(sumT n b (visOf n (D b).hs)).toArray⟩ : ByteArray) = s at hc1 hc2
  generalize (⟨(ansT n a (vecOf (visOf n (D a).hs)) ((beyondL (D a).hs (X a) (vecOf (visOf n (D b).hs))).map trOf)).toArray⟩ : ByteArray) = t at hc2 hc3
  have H1 := hide hc1
  have H2 := hide hc2
  have H3 := hide hc3
  have HE := hide hE
  clear hc1 hc2 hc3 hE hA hB h
  go_enter Tryz.func39, Tryz.ntmps39
  go_wp2_with first
    | (go_at_call 37; refine H1.out.mono ?_; rintro e w1 ⟨rfl, hn1, t1⟩; have G1 := hide (⟨hn1, t1⟩ : _ ∧ _); clear hn1 t1)
    | (go_at_call 40; refine (H2.out _ G1.out.1).mono ?_; rintro e w2 ⟨rfl, o2, hn2, t2⟩; have G2 := hide (⟨hn2, t2⟩ : _ ∧ _); clear hn2 t2)
    | (go_at_call 41; refine (H3.out _ _ G2.out.1).mono ?_; rintro e w3 ⟨rfl, o3, d3, hn3, t3, hr3⟩; have G3 := hide (⟨hn3, t3, hr3⟩ : _ ∧ _ ∧ _); clear hn3 t3 hr3)
  go_ret
  exact HE.out _ _ _ _ _ _ G1.out.2 G2.out.2 G3.out.1 G3.out.2.1 G3.out.2.2
end Go.Proofs.YtiplgdkpnhamaaaGreatDoor.Tv

namespace Go.Proofs.YtiplgdkpnhamaaaGreatDoor.Tv
open Go.RowKit
set_option maxHeartbeats 400000 in
theorem kpick_any (c : Int) (n : Nat) (w : World) (hn : 0 < n) (hn' : n ≤ 1000000) (hc : -9223372036854775808 ≤ c) (hc' : c ≤ 9223372036854775807) :
    Calls Tryz.prog 29 #[.int .i64 c, .int .i64 n] w fun e w' => e = .returned (.int .i64 (pickOf c n)) ∧ w' = w := by
  by_cases h : c < 0
  · have HS : Hid ((pickOf c n : Int) = (-(c + 1)) % n) := by
      have h3 := Int.emod_nonneg (-(c + 1)) (show (n : Int) ≠ 0 by omega)
      unfold Hid pickOf; rw [if_pos h]; omega
    go_enter Tryz.func29, Tryz.ntmps29
    go_wp2
    all_goals go_ret
    all_goals refine ⟨ret_int ?_, rfl⟩
    all_goals rw [HS.out, ← Int.neg_tmod, Int.tmod_eq_emod_of_nonneg (by omega)]
  · have HS : Hid ((pickOf c n : Int) = c % n) := by
      have h3 := Int.emod_nonneg c (show (n : Int) ≠ 0 by omega)
      unfold Hid pickOf; rw [if_neg h]; omega
    go_enter Tryz.func29, Tryz.ntmps29
    go_wp2
    all_goals go_ret
    all_goals refine ⟨ret_int ?_, rfl⟩
    all_goals rw [HS.out]
def digOf (c : Int) : ByteArray := oneByte (48 + (pickOf c 9 : Int))
set_option maxRecDepth 100000 in
set_option maxHeartbeats 1000000 in
theorem digits_any (c : Int) (w : World) (hc : -9223372036854775808 ≤ c) (hc' : c ≤ 9223372036854775807) :
    Calls Tryz.prog 31 #[.int .i64 c] w fun e w' => e = .returned (.string (digOf c)) ∧ Below w.heap.size w w' := by
  have hp := kpick_any c 9 w (by omega) (by omega) hc hc'
  have hlt := pickOf_lt c 9 (by omega)
  have HD : Hid (digOf c = oneByte (48 + (pickOf c 9 : Int))) := rfl
  generalize pickOf c 9 = k at hp hlt HD
  have HP := hide hp
  clear hp
  have hcv := conv_one
  go_enter Tryz.func31, Tryz.ntmps31
  go_wp2_with (go_at_call 29; refine HP.out.mono ?_; rintro e w1 ⟨rfl, rfl⟩)
  go_ret
  exact ⟨by rw [HD.out]; rfl, (Below.refl _ _).alloc (Nat.le_refl _) _⟩
end Go.Proofs.YtiplgdkpnhamaaaGreatDoor.Tv

namespace Go.Proofs.YtiplgdkpnhamaaaGreatDoor.Tv
open Go.RowKit
def wS : ByteArray := ⟨#[115]⟩
def opIns (e : ByteArray) : ROp := ⟨3, wS, e, 0⟩
def wE (k : Nat) : ByteArray := oneByte (48 + (k : Int))
end Go.Proofs.YtiplgdkpnhamaaaGreatDoor.Tv

namespace Go.Proofs.YtiplgdkpnhamaaaGreatDoor.Tv
open Go.RowKit
theorem RecD.one {d d' : DRep} {u : RTx} (h : RecD d [u] d') (hc : canD d u = true) : d' = showD d u := by
  obtain ⟨zs, rfl, hp, -⟩ := h
  rw [List.perm_singleton.1 hp]
  show stepD d u = _
  unfold stepD
  rw [if_pos hc]
theorem bey_gone {hs : List RTx} {x x' : DX} {v : Vec} (h : x.gone = x'.gone) : beyondL hs x v = beyondL hs x' v := by
  unfold beyondL segB
  rw [h]
theorem can_vis {d d' : DRep} {u : RTx} (h : d.vis = d'.vis) : canD d u = canD d' u := by unfold canD; rw [h]
def dotI (u : RTx) : Int × Int := (u.rep, u.seq)
theorem bey_one {n : Nat} {hs : List RTx} (hH : HistG n hs) {x : DX} {v : Vec} {u : RTx} (hu : u ∈ hs) (h : (beyondL hs x v).map dotI = [dotI u]) : beyondL hs x v = [u] := by
  obtain ⟨a, e1, e2⟩ := List.map_eq_singleton_iff.1 h
  have ha : a ∈ hs := bey_mem (x := x) (v := v) (by rw [e1]; simp)
  have r1 : a.rep = u.rep := congrArg Prod.fst e2
  have r2 : a.seq = u.seq := congrArg Prod.snd e2
  rw [e1, hH.one_ ha hu (by rw [r1]) r2]
def atD (n : Nat) (hs : List RTx) : DRep := ⟨hs, visOf n hs, fun _ => none⟩
def wGo (n : Nat) (from_ to_ : List RTx) (u : RTx) : Bool := decide ((beyondL from_ newX (vecOf (visOf n to_))).map dotI = [dotI u]) && canD (atD n to_) u
theorem wGo_show {n : Nat} {a b : List RTx} {u : RTx} (h : wGo n a b u = true) (hH : HistG n a) (hu : u ∈ a) {x : DX} (hx : x.gone = newX.gone) {d d' : DRep} (hd : d.vis = visOf n b) (hr : RecD d (beyondL a x (vecOf (visOf n b))) d') : d' = showD d u := by
  unfold wGo at h
  rw [Bool.and_eq_true, decide_eq_true_eq] at h
  rw [bey_gone hx, bey_one hH hu h.1] at hr
  exact hr.one (by rw [can_vis (d' := atD n b) hd]; exact h.2)
end Go.Proofs.YtiplgdkpnhamaaaGreatDoor.Tv

namespace Go.Proofs.YtiplgdkpnhamaaaGreatDoor.Tv
open Go.RowKit
section
variable {w w' : World} {o o' : Nat → Tag} {tl tm : Tag} {lv : Value} {vs : List (Int × List ByteArray)} {xs : List (Int × Value)}
end
end Go.Proofs.YtiplgdkpnhamaaaGreatDoor.Tv

namespace Go.Proofs.YtiplgdkpnhamaaaGreatDoor.Tv
open Go.RowKit
end Go.Proofs.YtiplgdkpnhamaaaGreatDoor.Tv

namespace Go.Proofs.YtiplgdkpnhamaaaGreatDoor.Tv
open Go.RowKit
end Go.Proofs.YtiplgdkpnhamaaaGreatDoor.Tv

namespace Go.Proofs.YtiplgdkpnhamaaaGreatDoor.Tv
open Go.RowKit
end Go.Proofs.YtiplgdkpnhamaaaGreatDoor.Tv

namespace Go.Proofs.YtiplgdkpnhamaaaGreatDoor.Tv
open Go.RowKit
structure MadeAt (n j : Nat) (w : World) (o : Nat → Tag) (T : Nat → Tag) (B : Nat → Nat) : Prop where
  dif : ∀ i k, T i = T k → i = k
  pr : ∀ i, i < j → PR newX w o (T i) (B i) n i (newD n)
  tabs : Tabs w
  low : ∀ q, q < 6 → ∀ i, o q ≠ T i
theorem MadeAt.move {n j : Nat} {w w' : World} {o o' : Nat → Tag} {T : Nat → Tag} {B : Nat → Nat} (h : MadeAt n j w o T B) (hm : ∀ q, q < w.heap.size → (q < 6 ∨ ∃ i, o q = T i) → w'.heap[q]? = w.heap[q]? ∧ o' q = o q) : MadeAt n j w' o' T B :=
  ⟨h.dif, fun i hi => (h.pr i hi).move fun q hq e => by
    obtain ⟨a, b⟩ := hm q hq (Or.inr ⟨i, e⟩)
    exact ⟨a, b.trans e⟩, h.tabs.kept fun q hq => (hm q (by have := h.tabs.room; omega) (Or.inl hq)).1, fun q hq i => by
    rw [(hm q (by have := h.tabs.room; omega) (Or.inl hq)).2]; exact h.low q hq i⟩
theorem MadeAt.next {n j : Nat} {w w' : World} {o : Nat → Tag} {T : Nat → Tag} {B : Nat → Nat} {b : Nat} (h : MadeAt n j w o T B) (hB : Below w.heap.size w w') (hp : PR newX w' (own2 o w.heap.size fun _ => T j) (T j) b n j (newD n)) : MadeAt n (j + 1) w' (own2 o w.heap.size fun _ => T j) T (put B j b) := by
  have h' : MadeAt n j w' (own2 o w.heap.size fun _ => T j) T B := h.move fun q hq _ => ⟨hB.block q hq, own2_low hq⟩
  refine ⟨h'.dif, fun i hi => ?_, h'.tabs, h'.low⟩
  by_cases c : i = j
  · subst c; rw [put_same]; exact hp
  · rw [put_other c]; exact h'.pr i (by omega)
theorem MadeAt.net {n : Nat} {w : World} {o : Nat → Tag} {T : Nat → Tag} {B : Nat → Nat} (h : MadeAt n n w o T B) (hn : n ≤ 5) : Net n w o T B [] (fun _ => newD n) (fun _ => newX) :=
  ⟨⟨hn, fun j hj => by simp at hj⟩, by simp, fun i j _ _ e => h.dif i j e, fun i hi => h.pr i hi, fun i _ u hu => hu, fun i _ => rfl, h.tabs, fun q hq i _ => h.low q hq i, fun i k r _ _ => Nat.zero_le _⟩
theorem Net.beside {n : Nat} {w w' : World} {o o' : Nat → Tag} {T : Nat → Tag} {B : Nat → Nat} {ts : List RTx} {D : Nat → DRep} {X : Nat → DX} {A : Tag → Prop} (h : Net n w o T B ts D X) (k : TouchT A w o w' o') (h1 : ∀ i, i < n → ¬ A (T i)) (h2 : ∀ q, q < 6 → ¬ A (o q)) : Net n w' o' T B ts D X :=
  h.move fun q hq e => ⟨k.touch.block q hq (by
    rcases e with e | ⟨i, hi, e⟩
    · exact h2 q e
    · rw [e]; exact h1 i hi), k.same q hq⟩
end Go.Proofs.YtiplgdkpnhamaaaGreatDoor.Tv

namespace Go.Proofs.YtiplgdkpnhamaaaGreatDoor.Tv
open Go.RowKit
end Go.Proofs.YtiplgdkpnhamaaaGreatDoor.Tv

namespace Go.Proofs.YtiplgdkpnhamaaaGreatDoor.Tv
open Go.RowKit
theorem put_self {α : Type} (f : Nat → α) (i : Nat) : put f i (f i) = f := by funext k; by_cases c : k = i <;> simp [put, c]
theorem begin_hs (d : DRep) : (beginD d).hs = d.hs := by unfold beginD; split <;> rfl
theorem does_hs (d : DRep) (tx : Int) (p : ROp) : (doesD d tx p).hs = d.hs := by
  unfold doesD
  split
  · rfl
  · split <;> rfl
theorem abort_hs (d : DRep) (tx : Int) : (abortD d tx).hs = d.hs := by unfold abortD; split <;> rfl
def commitT (ts : List RTx) (i : Nat) (d : DRep) (tx : Int) : List RTx :=
  match opnAt d tx with
  | none => ts
  | some t => if t.ops.length = 0 then ts else ts ++ [done i d t]
section
variable {n : Nat} {w : World} {o : Nat → Tag} {T : Nat → Tag} {B : Nat → Nat} {ts : List RTx} {D : Nat → DRep} {X : Nat → DX} {i : Nat}
theorem Net.room (h : Net n w o T B ts D X) (hi : i < n) : Room (D i) := by
  refine ⟨h.len hi, fun j hj => ?_⟩
  have hv := (h.pr i hi).hist.2.1
  have hj' : j < (visOf n (D i).hs).length := by rw [← hv]; exact hj
  have hjn : j < n := by rwa [visOf_len] at hj'
  have e : (D i).vis[j] = (visOf n (D i).hs)[j] := by simp only [hv]
  have h1 := visOf_get (hs := (D i).hs) hjn
  rw [List.getD_eq_getElem?_getD, List.getElem?_eq_getElem hj'] at h1
  have h2 : (visOf n (D i).hs)[j] = cntR (D i).hs j := h1
  have := cntR_le (D i).hs j
  have := h.len hi
  rw [e, h2]; omega
theorem Net.calm (h : Net n w o T B ts D X) (hi : i < n) {d' : DRep} {w' : World} {o' : Nat → Tag} (hp : PR (X i) w' o' (T i) (B i) n i d') (ht : TouchT (· = T i) w o w' o') (he : d'.hs = (D i).hs) : Net n w' o' T B ts (put D i d') X ∧ TouchT (grp n T) w o w' o' := by
  have := h.still hi hp ht he rfl
  rw [put_self] at this
  exact ⟨this, touch_grp ht hi⟩
theorem Net.begins (h : Net n w o T B ts D X) (hi : i < n) : Calls Tryz.prog 27 #[ptr (B i)] w fun e w' => e = .returned (beginAns (D i)) ∧ ∃ o', Net n w' o' T B ts (put D i (beginD (D i))) X ∧ TouchT (grp n T) w o w' o' := by
  refine ((papi X).begins w o (T i) (B i) n i (D i) (h.pr i hi) (h.room hi)).mono ?_
  rintro e w' ⟨rfl, o', a, c⟩
  exact ⟨rfl, o', h.calm hi a c (begin_hs _)⟩
theorem Net.insert (h : Net n w o T B ts D X) (hi : i < n) (tx : Int) (p : ROp) (hk : p.kind = 3) (hs : p.key.size ≤ maxLen) (hv : p.value.size ≤ maxLen) : Calls Tryz.prog 38 #[ptr (B i), .int .i64 tx, .string p.key, .string p.value] w fun e w' => e = .returned (.int .i64 (doesErr (opnAt (D i) tx) p)) ∧ ∃ o', Net n w' o' T B ts (put D i (doesD (D i) tx p)) X ∧ TouchT (grp n T) w o w' o' := by
  refine ((papi X).insert w o (T i) (B i) n i (D i) tx p (h.pr i hi) (h.room hi) hk hs hv).mono ?_
  rintro e w' ⟨rfl, o', a, c⟩
  exact ⟨rfl, o', h.calm hi a c (does_hs _ _ _)⟩
theorem Net.abort (h : Net n w o T B ts D X) (hi : i < n) (tx : Int) : Calls Tryz.prog 34 #[ptr (B i), .int .i64 tx] w fun e w' => e = .returned (abortAns (D i) tx) ∧ ∃ o', Net n w' o' T B ts (put D i (abortD (D i) tx)) X ∧ TouchT (grp n T) w o w' o' := by
  refine ((papi X).abort w o (T i) (B i) n i (D i) tx (h.pr i hi) (h.room hi)).mono ?_
  rintro e w' ⟨rfl, o', a, c⟩
  exact ⟨rfl, o', h.calm hi a c (abort_hs _ _)⟩
theorem Net.commit (h : Net n w o T B ts D X) (hi : i < n) (tx : Int) (hf : ts.length + 1 ≤ 1100000) : Calls Tryz.prog 32 #[ptr (B i), .int .i64 tx] w fun e w' => e = .returned (commitAns i (D i) tx) ∧ ∃ o', Net n w' o' T B (commitT ts i (D i) tx) (put D i (commitD i (D i) tx)) X ∧ TouchT (grp n T) w o w' o' := by
  refine ((papi X).commit w o (T i) (B i) n i (D i) tx (h.pr i hi) (h.room hi)).mono ?_
  rintro e w' ⟨rfl, o', a, c⟩
  refine ⟨rfl, o', ?_⟩
  unfold commitT
  unfold commitD at a ⊢
  cases e : opnAt (D i) tx with
  | none =>
    simp only [e] at a ⊢
    exact h.calm hi a c rfl
  | some t =>
    simp only [e] at a ⊢
    by_cases c0 : t.ops.length = 0
    · rw [if_pos c0] at a ⊢
      rw [if_pos c0]
      exact h.calm hi a c rfl
    · rw [if_neg c0] at a ⊢
      rw [if_neg c0]
      have := h.more hi a c rfl rfl rfl hf
      rw [put_self] at this
      exact ⟨this, touch_grp c hi⟩
end
end Go.Proofs.YtiplgdkpnhamaaaGreatDoor.Tv

namespace Go.Proofs.YtiplgdkpnhamaaaGreatDoor.Tv
open Go.RowKit
section
variable {n : Nat} {w : World} {o : Nat → Tag} {T : Nat → Tag} {B : Nat → Nat} {ts : List RTx} {D : Nat → DRep} {X : Nat → DX} {i : Nat}
theorem Net.read (h : Net n w o T B ts D X) (hi : i < n) (tl : Tag) (htl : tl ≠ T i) (tx : Int) (key : ByteArray) (hs : key.size ≤ maxLen) : Calls Tryz.prog 33 #[ptr (B i), .int .i64 tx, .string key] w fun e w' => ∃ lv o', e = .returned (valAgg (readAns (opnAt (D i) tx) key (D i).hs n).1 lv (readAns (opnAt (D i) tx) key (D i).hs n).2.2) ∧
    Net n w' o' T B ts D X ∧ TouchT (grp n T) w o w' o' ∧ Pc w' o' tl 9 1 lv (readAns (opnAt (D i) tx) key (D i).hs n).2.1.length (strs (readAns (opnAt (D i) tx) key (D i).hs n).2.1) := by
  refine ((papi X).read w o (T i) tl (B i) n i (D i) tx key (h.pr i hi) (h.room hi) htl hs).mono ?_
  rintro e w' ⟨lv, o', rfl, a, c, p⟩
  obtain ⟨h1, h2⟩ := h.calm hi a c rfl
  rw [put_self] at h1
  exact ⟨lv, o', rfl, h1, h2, p⟩
end
end Go.Proofs.YtiplgdkpnhamaaaGreatDoor.Tv

namespace Go.Proofs.YtiplgdkpnhamaaaGreatDoor.Tv
open Go.RowKit
def stD (n : Nat) (hs : List RTx) : Option (List ROp) → DRep
  | none => ⟨hs, visOf n hs, fun _ => none⟩
  | some ops => ⟨hs, visOf n hs, fun j => if j = 0 then some ⟨0, 0, visOf n hs, ops⟩ else none⟩
def mkT (n i : Nat) (hs : List RTx) (ops : List ROp) : RTx := ⟨i, (cntR hs i : Int) + 1, visOf n hs, ops⟩
theorem stD_hs (n : Nat) (hs : List RTx) (x : Option (List ROp)) : (stD n hs x).hs = hs := by cases x <;> rfl
theorem stD_vis (n : Nat) (hs : List RTx) (x : Option (List ROp)) : (stD n hs x).vis = visOf n hs := by cases x <;> rfl
theorem stD_new (n : Nat) : newD n = stD n [] none := by
  unfold newD stD
  congr 1
  refine List.ext_getElem (by simp [visOf]) fun j h1 h2 => ?_
  simp [visOf, cntR]
theorem free_new : freeSlot (fun _ => none) = 0 := by kernel_rfl
theorem stD_begin (n : Nat) (hs : List RTx) : beginD (stD n hs none) = stD n hs (some []) ∧ beginAns (stD n hs none) = .tuple #[.int .i64 0, .int .i64 0] := by
  constructor
  · show beginD ⟨hs, visOf n hs, fun _ => none⟩ = _
    unfold beginD
    simp only [free_new]
    rfl
  · show beginAns ⟨hs, visOf n hs, fun _ => none⟩ = _
    unfold beginAns
    simp only [free_new]
    rfl
theorem stD_opn (n : Nat) (hs : List RTx) (ops : List ROp) : opnAt (stD n hs (some ops)) 0 = some ⟨0, 0, visOf n hs, ops⟩ := rfl
theorem stD_does {n : Nat} {hs : List RTx} {ops : List ROp} {p : ROp} (h : doesErr (some ⟨0, 0, visOf n hs, ops⟩) p = 0) : doesD (stD n hs (some ops)) 0 p = stD n hs (some (ops ++ [p])) := by
  unfold doesD
  rw [stD_opn]
  simp only [h, if_true]
  unfold stD
  congr 1
  funext j
  by_cases c : j = 0 <;> simp [setSlot, c]
theorem stD_commit {n i : Nat} {hs : List RTx} {ops : List ROp} (hi : i < n) (ho : 0 < ops.length) : commitD i (stD n hs (some ops)) 0 = stD n (hs ++ [mkT n i hs ops]) none ∧ commitAns i (stD n hs (some ops)) 0 = .tuple #[.agg #[.int .i64 i, .int .i64 ((cntR hs i : Int) + 1)], .int .i64 0] ∧ ∀ ts, commitT ts i (stD n hs (some ops)) 0 = ts ++ [mkT n i hs ops] := by
  have e1 : done i (stD n hs (some ops)) ⟨0, 0, visOf n hs, ops⟩ = mkT n i hs ops := by
    unfold done mkT
    rw [stD_vis, visOf_get hi]
  have e2 : (visOf n hs).set i ((visOf n hs).getD i 0 + 1) = visOf n (hs ++ [mkT n i hs ops]) := by
    rw [visOf_snoc (u := mkT n i hs ops) (Int.natCast_nonneg i) (Int.ofNat_lt.2 hi)]; rfl
  refine ⟨?_, ?_, fun ts => ?_⟩
  · unfold commitD
    rw [stD_opn]
    simp only [if_neg (Nat.ne_of_gt ho), e1, stD_hs, stD_vis]
    rw [e2]
    show _ = (⟨_, _, _⟩ : DRep)
    congr 1
    funext j
    by_cases c : j = 0 <;> simp [setSlot, stD, c]
  · unfold commitAns
    rw [stD_opn]
    simp only [if_neg (Nat.ne_of_gt ho), stD_vis]
    rw [visOf_get hi]
  · unfold commitT
    rw [stD_opn]
    simp only [if_neg (Nat.ne_of_gt ho), e1]
theorem stD_abort (n : Nat) (hs : List RTx) (ops : List ROp) : abortD (stD n hs (some ops)) 0 = stD n hs none ∧ abortAns (stD n hs (some ops)) 0 = .int .i64 0 := by
  constructor
  · unfold abortD
    rw [stD_opn]
    simp only [Option.isSome_some, if_true, endD]
    show (⟨_, _, _⟩ : DRep) = ⟨_, _, _⟩
    congr 1
    funext j
    by_cases c : j = 0 <;> simp [setSlot, stD, c]
  · unfold abortAns
    rw [stD_opn]; rfl
theorem stD_show {n : Nat} {hs : List RTx} {u : RTx} (h0 : 0 ≤ u.rep) (h1 : u.rep < n) : showD (stD n hs none) u = stD n (hs ++ [u]) none := by
  unfold showD
  rw [stD_hs, stD_vis, ← visOf_snoc h0 h1]; rfl
structure Gn (n : Nat) (w : World) (o : Nat → Tag) (T : Nat → Tag) (B : Nat → Nat) (ts : List RTx) (H : Nat → List RTx) (O : Nat → Option (List ROp)) : Prop where
  ex : ∃ X, Net n w o T B ts (fun i => stD n (H i) (O i)) X ∧ ∀ k, (X k).gone = newX.gone
theorem put_st (n : Nat) (H : Nat → List RTx) (O : Nat → Option (List ROp)) (i : Nat) (hs : List RTx) (x : Option (List ROp)) : put (fun i => stD n (H i) (O i)) i (stD n hs x) = fun j => stD n (put H i hs j) (put O i x j) := by
  funext j
  by_cases c : j = i
  · subst c; rw [put_same, put_same, put_same]
  · rw [put_other c, put_other c, put_other c]
section
variable {n : Nat} {w w' : World} {o o' : Nat → Tag} {T : Nat → Tag} {B : Nat → Nat} {ts : List RTx} {H : Nat → List RTx} {O : Nat → Option (List ROp)} {i : Nat}
theorem Gn.move (h : Gn n w o T B ts H O) (hm : ∀ q, q < w.heap.size → (q < 6 ∨ grp n T (o q)) → w'.heap[q]? = w.heap[q]? ∧ o' q = o q) : Gn n w' o' T B ts H O := by
  obtain ⟨X, h1, h2⟩ := h.ex
  exact ⟨X, h1.move hm, h2⟩
theorem Gn.beside {A : Tag → Prop} (h : Gn n w o T B ts H O) (k : TouchT A w o w' o') (h1 : ∀ i, i < n → ¬ A (T i)) (h2 : ∀ q, q < 6 → ¬ A (o q)) : Gn n w' o' T B ts H O := by
  obtain ⟨X, a, b⟩ := h.ex
  exact ⟨X, a.beside k h1 h2, b⟩
theorem Gn.hist (h : Gn n w o T B ts H O) : HistG n ts := by
  obtain ⟨X, a, b⟩ := h.ex
  exact a.hist
theorem Gn.histAt (h : Gn n w o T B ts H O) (hi : i < n) : HistG n (H i) ∧ ∀ u, u ∈ H i → u ∈ ts := by
  obtain ⟨X, a, b⟩ := h.ex
  have h1 := (a.pr i hi).hist.1
  have h2 := a.sub i hi
  simp only [stD_hs] at h1 h2
  exact ⟨h1, h2⟩
theorem MadeAt.gn (h : MadeAt n n w o T B) (hn : n ≤ 5) : Gn n w o T B [] (fun _ => []) (fun _ => none) := by
  have := h.net hn
  refine ⟨_, ?_, fun k => rfl⟩
  rw [stD_new] at this
  exact this
theorem Gn.begins (h : Gn n w o T B ts H O) (hi : i < n) (hO : O i = none) : Calls Tryz.prog 27 #[bptr (B i)] w fun e w' => e = .returned (.tuple #[.int .i64 0, .int .i64 0]) ∧ ∃ o', Gn n w' o' T B ts H (put O i (some [])) ∧ TouchT (grp n T) w o w' o' := by
  obtain ⟨X, a, b⟩ := h.ex
  refine (a.begins hi).mono ?_
  rintro e w' ⟨rfl, o', h1, h2⟩
  simp only [hO] at h1
  rw [(stD_begin n (H i)).1, put_st, put_self] at h1
  simp only [hO]
  exact ⟨by rw [(stD_begin n (H i)).2], o', ⟨X, h1, b⟩, h2⟩
theorem gn_does {ops : List ROp} (hO : O i = some ops) {p : ROp} (he : doesErr (some ⟨0, 0, visOf n (H i), ops⟩) p = 0) {e : Ending} {X : Nat → DX} (b : ∀ k, (X k).gone = newX.gone) (h1 : e = .returned (.int .i64 (doesErr (opnAt (stD n (H i) (O i)) 0) p)) ∧ ∃ o', Net n w' o' T B ts (put (fun i => stD n (H i) (O i)) i (doesD (stD n (H i) (O i)) 0 p)) X ∧ TouchT (grp n T) w o w' o') : e = .returned (.int .i64 0) ∧ ∃ o', Gn n w' o' T B ts H (put O i (some (ops ++ [p]))) ∧ TouchT (grp n T) w o w' o' := by
  obtain ⟨rfl, o', h1, h2⟩ := h1
  rw [hO] at h1 ⊢
  rw [stD_does he, put_st, put_self] at h1
  rw [stD_opn, he]
  exact ⟨rfl, o', ⟨X, h1, b⟩, h2⟩
theorem Gn.insert (h : Gn n w o T B ts H O) (hi : i < n) {ops : List ROp} (hO : O i = some ops) (p : ROp) (hk : p.kind = 3) (hs : p.key.size ≤ maxLen) (hv : p.value.size ≤ maxLen) (he : doesErr (some ⟨0, 0, visOf n (H i), ops⟩) p = 0) : Calls Tryz.prog 38 #[bptr (B i), .int .i64 0, .string p.key, .string p.value] w fun e w' => e = .returned (.int .i64 0) ∧ ∃ o', Gn n w' o' T B ts H (put O i (some (ops ++ [p]))) ∧ TouchT (grp n T) w o w' o' := by
  obtain ⟨X, a, b⟩ := h.ex
  exact (a.insert hi 0 p hk hs hv).mono fun e w' h1 => gn_does hO he b h1
theorem Gn.commit (h : Gn n w o T B ts H O) (hi : i < n) {ops : List ROp} (hO : O i = some ops) (ho : 0 < ops.length) (hf : ts.length + 1 ≤ 1100000) : Calls Tryz.prog 32 #[bptr (B i), .int .i64 0] w fun e w' => e = .returned (.tuple #[.agg #[.int .i64 i, .int .i64 ((cntR (H i) i : Int) + 1)], .int .i64 0]) ∧ ∃ o', Gn n w' o' T B (ts ++ [mkT n i (H i) ops]) (put H i (H i ++ [mkT n i (H i) ops])) (put O i none) ∧ TouchT (grp n T) w o w' o' := by
  obtain ⟨X, a, b⟩ := h.ex
  refine (a.commit hi 0 hf).mono ?_
  rintro e w' ⟨rfl, o', h1, h2⟩
  simp only [hO] at h1
  obtain ⟨e1, e2, e3⟩ := stD_commit (hs := H i) hi ho
  rw [e1, e3, put_st] at h1
  simp only [hO]
  exact ⟨by rw [e2], o', ⟨X, h1, b⟩, h2⟩
theorem Gn.abort (h : Gn n w o T B ts H O) (hi : i < n) {ops : List ROp} (hO : O i = some ops) : Calls Tryz.prog 34 #[bptr (B i), .int .i64 0] w fun e w' => e = .returned (.int .i64 0) ∧ ∃ o', Gn n w' o' T B ts H (put O i none) ∧ TouchT (grp n T) w o w' o' := by
  obtain ⟨X, a, b⟩ := h.ex
  refine (a.abort hi 0).mono ?_
  rintro e w' ⟨rfl, o', h1, h2⟩
  simp only [hO] at h1
  rw [(stD_abort n (H i) ops).1, put_st, put_self] at h1
  simp only [hO]
  exact ⟨by rw [(stD_abort n (H i) ops).2], o', ⟨X, h1, b⟩, h2⟩
theorem Gn.read (h : Gn n w o T B ts H O) (hi : i < n) {ops : List ROp} (hO : O i = some ops) (tl : Tag) (htl : tl ≠ T i) (key : ByteArray) (hs : key.size ≤ maxLen) {s : Int} {l : List ByteArray} {er : Int} (he : readAns (some ⟨0, 0, visOf n (H i), ops⟩) key (H i) n = (s, l, er)) : Calls Tryz.prog 33 #[bptr (B i), .int .i64 0, .string key] w fun e w' => ∃ lv o', e = .returned (valAgg s lv er) ∧ Gn n w' o' T B ts H O ∧ TouchT (grp n T) w o w' o' ∧ Pc w' o' tl 9 1 lv l.length (strs l) := by
  obtain ⟨X, a, b⟩ := h.ex
  refine (a.read hi tl htl 0 key hs).mono ?_
  rintro e w' ⟨lv, o', rfl, h1, h2, h3⟩
  simp only [hO, stD_hs, stD_opn, he] at h3 ⊢
  exact ⟨lv, o', rfl, ⟨X, h1, b⟩, h2, h3⟩
theorem RecD.st {n : Nat} {hs us : List RTx} {d' : DRep} (h : RecD (stD n hs none) us d') (hv : d'.vis = visOf n d'.hs) : d' = stD n d'.hs none := by
  have := h.more.2.1
  cases d' with
  | mk a b c =>
    simp only at this hv
    subst hv this
    rfl
theorem Gn.tells (h : Gn n w o T B ts H O) {a b : Nat} (ha : a < n) (hb : b < n) (hO : O b = none) : Calls Tryz.prog 39 #[bptr (B a), bptr (B b)] w fun e w' => e = .returned (.bool true) ∧ ∃ o' hs, Gn n w' o' T B ts (put H b hs) O ∧ TouchT (grp n T) w o w' o' ∧ RecD (stD n (H b) none) (beyondL (H a) newX (vecOf (visOf n (H b)))) (stD n hs none) := by
  obtain ⟨X, k1, k2⟩ := h.ex
  refine (tells_any k1 ha hb).mono ?_
  rintro e w' ⟨rfl, o', d', X', h1, h2, h3, h4, -⟩
  simp only [stD_hs, hO] at h3
  have hp := (h1.pr b hb).hist.2.1
  rw [put_same] at hp
  have hd := h3.st hp
  rw [bey_gone (k2 a)] at h3
  rw [hd, put_st] at h1
  rw [hd] at h3
  have e : put O b none = O := by rw [← hO, put_self]
  rw [e] at h1
  exact ⟨rfl, o', d'.hs, ⟨X', h1, fun k => (h4 k).trans (k2 k)⟩, h2, h3⟩
theorem Gn.tells1 (h : Gn n w o T B ts H O) {a b : Nat} (ha : a < n) (hb : b < n) (hO : O b = none) {u : RTx} (hu : u ∈ H a) (hg : wGo n (H a) (H b) u = true) : Calls Tryz.prog 39 #[bptr (B a), bptr (B b)] w fun e w' => e = .returned (.bool true) ∧ ∃ o', Gn n w' o' T B ts (put H b (H b ++ [u])) O ∧ TouchT (grp n T) w o w' o' := by
  refine (h.tells ha hb hO).mono ?_
  rintro e w' ⟨rfl, o', hs, h1, h2, h3⟩
  have hH := (h.histAt ha).1
  have := wGo_show hg hH hu (x := newX) rfl (stD_vis n (H b) none) h3
  obtain ⟨j, hj, e⟩ := List.getElem_of_mem hu
  have hn := hH.tx j hj
  rw [e] at hn
  rw [stD_show hn.r0 hn.rn] at this
  have e2 : hs = H b ++ [u] := by
    have := congrArg DRep.hs this
    rwa [stD_hs, stD_hs] at this
  rw [e2] at h1
  exact ⟨rfl, o', h1, h2⟩
end
end Go.Proofs.YtiplgdkpnhamaaaGreatDoor.Tv
