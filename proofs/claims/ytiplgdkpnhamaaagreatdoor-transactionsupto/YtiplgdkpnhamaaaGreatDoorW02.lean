/- The texts R3, R6, R1, R4, R2, P3, joined. -/
import Derived.Test.YtiplgdkpnhamaaaGreatDoorW01
import Derived.Test.YtiplgdkpnhamaaaGreatDoorProg
import Derived.Maps.AppendAt

/- The reference's sees, is, copied and Tx.elements: what each answers. -/
namespace Go.Proofs.YtiplgdkpnhamaaaGreatDoor
open Go.RowKit

theorem Tryz.infoStr : (Tryz.prog.info? 9).map (fun i => (i.zero, i.size, i.bytes)) = some (some (.string ⟨#[]⟩), 1, 16) := by kernel_rfl
theorem Tryz.infoInt : (Tryz.prog.info? 3).map (fun i => (i.zero, i.size, i.bytes)) = some (some (.int .i64 0), 1, 8) := by kernel_rfl

set_option maxHeartbeats 400000 in
theorem sees_any (w : World) (v : Value) (vec : List Int) (r s : Int) (h0 : 0 ≤ r) (h1 : r < vec.length) (hrow : Row w 3 1 v vec.length (ints vec)) :
    Calls Tryz.prog 174 #[v, .agg #[.int .i64 r, .int .i64 s]] w fun e w' => e = .returned (.bool (seesV vec r s)) ∧ Below w.heap.size w w' := by
  obtain ⟨g, cap, rfl, hcap, hm, hg, hc, hf⟩ := hrow.pos (by omega)
  obtain ⟨k, rfl⟩ := Int.eq_ofNat_of_zero_le h0
  have hk : k < vec.length := by omega
  have h2 := hc k (by omega)
  rw [ints_get _ _ hk] at h2
  have HS : Hid (seesV vec (k : Int) s = decide (s ≤ vec[k])) := by simp [Hid, seesV, hk]
  clear hc hf
  have HR : Hid _ := hrow
  clear hrow
  generalize vec[k] = x at *
  go_enter Tryz.func174, Tryz.ntmps174
  go_wp2
  go_quiet (fail)
  go_wp2
  go_ret
  exact ⟨ret_bool (by rw [HS.out]), below_drewN ((Below.refl _ _).alloc (Nat.le_refl _) _) _⟩

set_option maxHeartbeats 400000 in
theorem is_any (w : World) (b : Nat) (v : Value) (xs : List XTx) (tx : Int) (hn : xs.length ≤ 1000000)
    (hv : w.cell? ⟨b, 2, none⟩ = some v) (hrow : Row w 217 5 v xs.length (xs.flatMap XTx.cells)) :
    Calls Tryz.prog 133 #[.pointer (some ⟨b, 0, none⟩), .int .i64 tx] w fun e w' => e = .returned (.bool (isOpenAt xs tx)) ∧ w' = w := by
  by_cases ht : 0 ≤ tx ∧ tx < xs.length
  · obtain ⟨g, cap, rfl, hcap, hm, hg, hc, hf⟩ := hrow.pos (by omega)
    obtain ⟨k, rfl⟩ := Int.eq_ofNat_of_zero_le ht.1
    have hk : k < xs.length := by omega
    have h2 := hc (k * 5 + 0) (by omega)
    rw [flat_get _ 5 XTx.cells_len _ _ _ hk (by omega)] at h2
    simp only [XTx.cells, List.getElem?_cons_zero, Nat.add_zero] at h2
    have HS : Hid (isOpenAt xs (k : Int) = xs[k].isOpen) := by simp [Hid, isOpenAt, hk]
    clear hc hf
    have HR : Hid _ := hrow
    clear hrow ht
    generalize xs[k] = x at *
    go_enter Tryz.func133, Tryz.ntmps133
    go_wp2
    go_ret
    exact ⟨ret_bool (by rw [HS.out]), rfl⟩
  · have HS : Hid (isOpenAt xs tx = false) := by simp only [Hid, isOpenAt]; rw [dif_neg ht]
    obtain ⟨ao, cap, rfl, hcap, hm, hc⟩ := hrow.shape
    clear hc
    have HR : Hid _ := hrow
    clear hrow
    have ht' : tx < 0 ∨ (xs.length : Int) ≤ tx := by omega
    clear ht
    rcases ht' with ht | ht
    · go_enter Tryz.func133, Tryz.ntmps133
      go_wp2
      go_ret
      exact ⟨ret_bool (by rw [HS.out]), rfl⟩
    · have h0 : 0 ≤ tx := by omega
      go_enter Tryz.func133, Tryz.ntmps133
      go_wp2
      go_ret
      exact ⟨ret_bool (by rw [HS.out]), rfl⟩

set_option maxHeartbeats 400000 in
theorem copied_any (w : World) (v : Value) (l : List Int) (h0 : 0 < l.length) (h1 : l.length ≤ 1000000) (hrow : Row w 3 1 v l.length (ints l)) :
    Calls Tryz.prog 132 #[v] w fun e w' => ∃ v', e = .returned v' ∧ w'.ownsRow w.heap.size 3 1 v' l.length (ints l) ∧ Below w.heap.size w w' := by
  obtain ⟨g, cap, rfl, hcap, hm, hg, hc, hf⟩ := hrow.pos h0
  clear hf
  have HR : Hid _ := hrow
  clear hrow
  obtain ⟨i0, hi, hz0, hz1, hz2⟩ := info_parts Tryz.infoInt
  go_enter Tryz.func132, Tryz.ntmps132
  go_wp2_with (at_builtin; refine wpList_append_own _ rfl _ _ 44 rfl w.heap.size 3 i0 (.int .i64 0) 1 8 Tryz.underlying44 hi hz0 hz1 hz2 rfl (by decide) _ _ _ rfl (World.ownsRow_nil _ _ _ _) ⟨g, 0, none⟩ l.length cap (ints l) rfl (by simp [ints]) ?hn ?h1 ?hm ?hb (by omega) ?_)
  case hn =>
    intro j u hu
    have hj : j < l.length := by
      have := (List.getElem?_eq_some_iff.1 hu).1; simpa [ints] using this
    rw [Addr.add_lit, Nat.zero_add, hc j (by omega), hu]
  case h1 => intro u hu; simp only [ints, List.mem_map] at hu; obtain ⟨a, _, rfl⟩ := hu; rfl
  case hm => unfold maxLen; omega
  case hb => omega
  intro v1 w1 hown hgrow hnil
  go_wp2
  go_ret
  refine ⟨_, rfl, by simpa using hown, (Below.refl _ _).grown hgrow (Nat.le_refl _) (fun k h => by simp [Value.ownBlock] at h)⟩

set_option maxHeartbeats 400000 in
theorem elements_any (key : ByteArray) (w : World) (b off : Nat) (v : Value) (ops : List ROp) (hn : ops.length ≤ 1000000) (hb : b < w.heap.size)
   (hv : w.cell? ⟨b, off + 4, none⟩ = some v) (hrow : Row w 171 4 v ops.length (ops.flatMap ROp.cells)) :
    Calls Tryz.prog 141 #[.pointer (some ⟨b, off, none⟩), .string key] w fun e w' => ∃ v', e = .returned v' ∧ w'.ownsRow w.heap.size 9 1 v' (elemsOf key ops).length (strs (elemsOf key ops)) ∧ Below w.heap.size w w' := by
  obtain ⟨ao, cap, rfl, hcap, hm, hc⟩ := hrow.shape
  have hlt := fun k hk => hrow.lt (k := k) hk
  have HR : Hid _ := hrow
  clear hrow
  obtain ⟨i0, hi, hz0, hz1, hz2⟩ := info_parts Tryz.infoStr
  go_enter Tryz.func141, Tryz.ntmps141
  go_wp2
  go_loopw [5, 6] (fun l i wr => ∃ k : Nat, k ≤ ops.length ∧ i = .int .i64 k ∧ wr.ownsRow w.heap.size 9 1 l (elemsOf key (ops.take k)).length (strs (elemsOf key (ops.take k))) ∧ Below w.heap.size w wr) (fun _ i _ => ops.length - (intOf i).toNat)
  case atStart => exact ⟨0, Nat.zero_le _, rfl, by simpa [elemsOf, strs] using World.ownsRow_nil _ _ _ _, Below.refl _ _⟩
  case round =>
    obtain ⟨k, hk, rfl, hown, hB⟩ := hrel
    have hsz := hB.size
    have hv' : wr.cell? ⟨b, off + 4, none⟩ = some (.slice ao ops.length cap) := by rw [hB.cell (p := ⟨b, off + 4, none⟩) hb]; exact hv
    have hb' : b < wr.heap.size := by omega
    clear hv
    by_cases hlk : k < ops.length
    · obtain ⟨g, rfl, h1⟩ := hc (k * 4 + 1) (by omega)
      obtain ⟨_, e2, h2⟩ := hc (k * 4 + 2) (by omega)
      cases e2
      have hg : g < w.heap.size := hlt g rfl
      rw [flat_get _ 4 ROp.cells_len _ _ _ (by omega) (by omega), ← hB.cell (p := ⟨g, _, none⟩) hg] at h1 h2
      simp only [ROp.cells, List.getElem?_cons_zero, List.getElem?_cons_succ] at h1 h2
      have HS : Hid (elemsOf key (ops.take (k + 1)) = elemsOf key (ops.take k) ++ (if ops[k].key = key then [ops[k].value] else [])) := by
        rw [List.take_succ_eq_append_getElem hlk]; exact elemsOf_snoc _ _ _
      have hle := elemsOf_len key (ops.take k)
      rw [List.length_take] at hle
      clear hc hlt
      have hg' : g < wr.heap.size := by omega
      generalize ops[k] = o at *
      generalize elemsOf key (ops.take k) = es at *
      by_cases hko : o.key = key
      · have hk1 : (o.key.toList == key.toList) = true := str_eq.2 hko
        rw [if_pos hko] at HS
        clear hko
        go_wp2_with (at_builtin; refine wpList_append_own _ rfl _ _ 41 rfl w.heap.size 9 i0 (.string ⟨#[]⟩) 1 16 Tryz.underlying41 hi hz0 hz1 hz2 rfl (by decide) _ _ _ rfl (hown.alloc _) ⟨wr.heap.size, 0, none⟩ 1 1 [.string o.value] rfl rfl (cell_one_new _ _ _) (by intro u hu; simp at hu; subst hu; rfl) (by unfold maxLen; omega) (by omega) (by simp; omega) ?_; intro v1 w1 hown1 hgrow1 hnil1)
        go_roundw
        case rel =>
          refine ⟨k + 1, by omega, by go_num, ?_, (hB.alloc (by omega) _).grown hgrow1 (by simp; omega) (fun j hj => (hown.lt j hj).1)⟩
          rw [HS.out, strs_snoc]; simpa using hown1
        case measure => simp [intOf]; omega
      · have hk1 : (o.key.toList == key.toList) = false := str_ne.2 hko
        rw [if_neg hko, List.append_nil] at HS
        clear hko
        go_wp2
        go_roundw
        case rel => exact ⟨k + 1, by omega, by go_num, by rw [HS.out]; exact hown, hB⟩
        case measure => simp [intOf]; omega
    · go_wp2
      go_ret
      refine ⟨_, rfl, ?_, hB⟩
      rw [List.take_of_length_le (by omega)] at hown
      exact hown

end Go.Proofs.YtiplgdkpnhamaaaGreatDoor

/- The reference's with: a text more in a list in the order of bytes, each once. -/
namespace Go.Proofs.YtiplgdkpnhamaaaGreatDoor
open Go.RowKit

theorem hide {p : Prop} (h : p) : Hid p := h
def strLt (a b : ByteArray) : Bool := Op.bytesLess a.toList b.toList
def insAt (L : List ByteArray) (s : ByteArray) (k : Nat) : List ByteArray := L.take k ++ s :: L.drop k
def place (L : List ByteArray) (s : ByteArray) : Nat → Nat
  | 0 => 0
  | k + 1 => if strLt s (L.getD k noEl) then place L s k else k + 1
def withOf (L : List ByteArray) (s : ByteArray) : List ByteArray := if L.any (fun a => decide (a = s)) then L else insAt L s (place L s L.length)
theorem insAt_len (L : List ByteArray) (s : ByteArray) (k : Nat) (h : k ≤ L.length) : (insAt L s k).length = L.length + 1 := by
  simp [insAt]; omega
theorem insAt_end (L : List ByteArray) (s : ByteArray) : insAt L s L.length = L ++ [s] := by simp [insAt]
theorem insAt_at (L : List ByteArray) (s : ByteArray) (k : Nat) (h : k ≤ L.length) : (insAt L s k)[k]? = some s := by
  rw [insAt, List.getElem?_append_right (by simp; omega)]; simp [Nat.min_eq_left h]
theorem insAt_before (L : List ByteArray) (s : ByteArray) (k j : Nat) (hj : j < k) (h : k ≤ L.length) : (insAt L s k)[j]? = L[j]? := by
  rw [insAt, List.getElem?_append_left (by simp; omega), List.getElem?_take, if_pos hj]
theorem insAt_step (L : List ByteArray) (s : ByteArray) (m : Nat) (h : m < L.length) : ((insAt L s (m + 1)).set (m + 1) L[m]).set m s = insAt L s m := by
  apply List.ext_getElem?
  intro i
  rw [List.getElem?_set, List.getElem?_set]
  by_cases h1 : m = i
  · subst h1; rw [if_pos rfl, insAt_at L s m (by omega)]; simp [insAt]; omega
  · rw [if_neg h1]
    by_cases h2 : m + 1 = i
    · subst h2
      rw [if_pos rfl, if_pos (by rw [insAt_len _ _ _ h]; omega), insAt, List.getElem?_append_right (by simp; omega)]
      simp only [List.length_take, Nat.min_eq_left (Nat.le_of_lt h)]
      rw [show m + 1 - m = 0 + 1 from by omega, List.getElem?_cons_succ, List.getElem?_drop]
      simp [h]
    · rw [if_neg h2, insAt, insAt]
      by_cases h3 : i < m
      · rw [List.getElem?_append_left (by simp; omega), List.getElem?_append_left (by simp; omega), List.getElem?_take, List.getElem?_take, if_pos (by omega), if_pos h3]
      · rw [List.getElem?_append_right (by simp; omega), List.getElem?_append_right (by simp; omega)]
        simp only [List.length_take, Nat.min_eq_left (show m + 1 ≤ L.length from h), Nat.min_eq_left (Nat.le_of_lt h)]
        obtain ⟨d, rfl⟩ : ∃ d, i = m + 2 + d := ⟨i - (m + 2), by omega⟩
        rw [show m + 2 + d - (m + 1) = d + 1 from by omega, show m + 2 + d - m = (d + 1) + 1 from by omega]
        simp only [List.getElem?_cons_succ, List.getElem?_drop]
        congr 1; omega
theorem withOf_len (L : List ByteArray) (s : ByteArray) : (withOf L s).length ≤ L.length + 1 := by
  have hp : ∀ k, place L s k ≤ k := by
    intro k
    induction k with
    | zero => exact Nat.le_refl _
    | succ k ih => unfold place; split <;> omega
  unfold withOf; split
  · omega
  · rw [insAt_len _ _ _ (hp _)]; exact Nat.le_refl _
theorem strs_set (l : List ByteArray) (j : Nat) (s : ByteArray) : (strs l).set j (.string s) = strs (l.set j s) := by simp [strs, List.map_set]

theorem Touch.drewN {S : Nat → Prop} {a w : World} (h : Touch S a w) (n : Nat) : Touch S a (w.drewN n) := ⟨h.os, h.tape, h.output, h.size, h.block⟩
theorem with_blk {v : Value} {g n cap : Nat} {w : World} {o : Obj} (h : (Value.slice (some ⟨g, 0, none⟩) n cap).ownBlock = v.ownBlock ∨ (Value.slice (some ⟨g, 0, none⟩) n cap).ownBlock = some (w.alloc o).heap.size) : v.ownBlock = some g ∨ w.heap.size ≤ g := by
  rcases h with h | h
  · exact Or.inl h.symm
  · simp [Value.ownBlock] at h; exact Or.inr (by omega)
theorem with_end {v : Value} {g n cap : Nat} {w : World} (h : v.ownBlock = some g ∨ w.heap.size ≤ g) {k : Nat} (hk : (Value.slice (some ⟨g, 0, none⟩) n cap).ownBlock = some k) : v.ownBlock = some k ∨ w.heap.size ≤ k := by
  simp [Value.ownBlock] at hk; subst hk; exact h

set_option maxRecDepth 100000 in
set_option maxHeartbeats 1000000 in
theorem with_any (w : World) (v : Value) (L : List ByteArray) (s : ByteArray) (hn : L.length ≤ 100000000)
    (hrow : w.ownsRow 0 9 1 v L.length (strs L)) :
    Calls Tryz.prog 140 #[v, .string s] w fun e w' => ∃ v', e = .returned v' ∧ w'.ownsRow 0 9 1 v' (withOf L s).length (strs (withOf L s)) ∧ Touch (fun k => v.ownBlock = some k) w w' ∧ (∀ k, v'.ownBlock = some k → v.ownBlock = some k ∨ w.heap.size ≤ k) := by
  obtain ⟨ao, cap, rfl, hcap, hm, hc⟩ := Row.shape hrow
  obtain ⟨i0, hi, hz0, hz1, hz2⟩ := info_parts Tryz.infoStr
  have HR := hide hrow
  clear hrow
  go_enter Tryz.func140, Tryz.ntmps140
  go_wp2
  go_loop [5] (fun i => ∃ k : Nat, k ≤ L.length ∧ i = .int .i64 k ∧ ∀ j (hj : j < L.length), j < k → ¬ L[j] = s) (fun i => L.length - (intOf i).toNat)
  case atStart => exact ⟨0, Nat.zero_le _, rfl, fun j hj h => by omega⟩
  case round =>
    obtain ⟨k, hk, rfl, hno⟩ := hrel
    have HN := hide hno
    clear hno
    by_cases hlk : k < L.length
    · obtain ⟨g, rfl, h1⟩ := hc k (by omega)
      rw [strs_get _ _ hlk] at h1
      clear hc
      by_cases he : L[k] = s
      · have he' : (L[k].toList == s.toList) = true := str_eq.2 he
        have HW : Hid (withOf L s = L) := by
          unfold Hid withOf; rw [if_pos (List.any_eq_true.2 ⟨L[k], List.getElem_mem hlk, by simp [he]⟩)]
        clear he
        generalize L[k] = a at *
        go_wp2
        go_ret
        exact ⟨_, rfl, by rw [HW.out]; exact HR.out, Touch.refl _ _, fun k hk => Or.inl hk⟩
      · have he' : (L[k].toList == s.toList) = false := str_ne.2 he
        have HN' : Hid (∀ j (hj : j < L.length), j < k + 1 → ¬ L[j] = s) := fun j hj h => by
          by_cases e : j = k
          · subst e; exact he
          · exact HN.out j hj (by omega)
        clear he HN
        generalize L[k] = a at *
        go_wp2
        exact ⟨⟨k + 1, by omega, by go_num, HN'.out⟩, by simp [intOf]; omega⟩
    · have HW : Hid (withOf L s = insAt L s (place L s L.length)) := by
        unfold Hid withOf
        rw [if_neg]
        intro hmem
        obtain ⟨a, ha, hd⟩ := List.any_eq_true.1 hmem
        obtain ⟨j, hj, e⟩ := List.mem_iff_getElem.1 ha
        exact HN.out j hj (by omega) (e.trans (of_decide_eq_true hd))
      clear hc HN
      go_wp2_with (at_builtin; refine wpList_append_own_at _ rfl _ _ 41 rfl 0 9 i0 (.string ⟨#[]⟩) 1 16 Tryz.underlying41 hi hz0 hz1 hz2 rfl (by decide) _ _ _ rfl (HR.out.alloc _) ⟨w.heap.size, 0, none⟩ 1 1 [.string s] rfl rfl (cell_one_new _ _ _) (by intro u hu; simp at hu; subst hu; rfl) (by unfold maxLen; omega) (by omega) (Nat.zero_le _) ?_; intro v1 w1 hown1 hgrow1 hnil1 hat1;
                     have hBw : Touch (fun k => (Value.slice ao L.length cap).ownBlock = some k) w w1 := ((Touch.refl _ _).alloc _).grown hgrow1 (fun j hj => Or.inl hj);
                     have hown2 : w1.ownsRow 0 9 1 v1 (L.length + 1) (strs (insAt L s L.length)) := (by rw [insAt_end, strs_snoc]; exact hown1);
                     obtain ⟨g, cap1, rfl, hcap1, hm1, hg1, -, -⟩ := Row.pos hown2 (by omega);
                     have hgb : Hid ((Value.slice ao L.length cap).ownBlock = some g ∨ w.heap.size ≤ g) := with_blk hat1;
                     clear hown1 hgrow1 hnil1 hat1;
                     have HO := hide hown2;
                     clear hown2)
      go_loopw [6] (fun kk wr => ∃ k : Nat, k ≤ L.length ∧ kk = .int .i64 k ∧ place L s k = place L s L.length ∧ wr.ownsRow 0 9 1 (.slice (some ⟨g, 0, none⟩) (L.length + 1) cap1) (L.length + 1) (strs (insAt L s k)) ∧ Touch (fun k => (Value.slice ao L.length cap).ownBlock = some k) w wr) (fun kk _ => (intOf kk).toNat)
      case atStart => exact ⟨L.length, Nat.le_refl _, by go_num, rfl, HO.out, hBw⟩
      case round =>
        obtain ⟨k, hk, rfl, hpl, hown, hB⟩ := hrel
        have HPL := hide hpl
        clear hpl
        cases k with
        | zero =>
          go_wp2
          go_quiet (fail)
          go_wp2
          go_ret
          refine ⟨_, rfl, ?_, hB.drewN _, fun k hk => with_end hgb.out hk⟩
          have e0 : withOf L s = insAt L s 0 := by rw [HW.out, ← HPL.out]; rfl
          rw [e0, insAt_len _ _ _ (Nat.zero_le _)]
          exact hown
        | succ m =>
          have hc1 : wr.cell? ⟨g, m + 1, none⟩ = some (.string s) := by
            rw [hown.cellAt (m + 1) (by omega), strs, List.getElem?_map, insAt_at _ _ _ hk]; rfl
          have hc0 : wr.cell? ⟨g, m, none⟩ = some (.string L[m]) := by
            rw [hown.cellAt m (by omega), strs, List.getElem?_map, insAt_before _ _ _ _ (by omega) hk]; simp [show m < L.length from hk]
          have hfz : ∀ j, wr.frozen? ⟨g, j, none⟩ = false := fun j => hown.frozenAt j
          have HOW := hide hown
          have hst : ((insAt L s (m + 1)).set (m + 1) L[m]).set m s = insAt L s m := insAt_step L s m hk
          have HST := hide hst
          have hplm : place L s (m + 1) = if strLt s L[m] then place L s m else m + 1 := by
            rw [place]; simp [show m < L.length from hk]
          have HPM := hide hplm
          clear hst hplm hown
          cases hlt : Op.bytesLess s.toList L[m].toList
          · go_wp2
            go_quiet (fail)
            go_wp2
            go_ret
            refine ⟨_, rfl, ?_, hB.drewN _, fun k hk => with_end hgb.out hk⟩
            rw [HW.out, ← HPL.out, HPM.out, if_neg (by rw [strLt, hlt]; simp), insAt_len _ _ _ hk]
            exact HOW.out
          · go_wp2
            go_quiet (fail)
            go_wp2
            have hown3 : (wr.drewN nq).ownsRow 0 9 1 (.slice (some ⟨g, 0, none⟩) (L.length + 1) cap1) (L.length + 1) (strs (insAt L s (m + 1))) := HOW.out
            have h1 := (hown3.stored (m + 1) (.string L[m])).1
            have h2 := (h1.stored m (.string s)).1
            rw [strs_set, strs_set, HST.out] at h2
            refine ⟨⟨m, by omega, rfl, ?_, h2, ((hB.drewN _).setCell hgb.out _).setCell hgb.out _⟩, by simp [intOf]⟩
            rw [← HPL.out, HPM.out, if_pos (by rw [strLt, hlt])]

end Go.Proofs.YtiplgdkpnhamaaaGreatDoor

/- The reference's kind and Tx.sum: what each answers. -/
namespace Go.Proofs.YtiplgdkpnhamaaaGreatDoor
open Go.RowKit

set_option maxHeartbeats 400000 in
theorem kind_any (s : ByteArray) (w : World) (hs : s.size ≤ maxLen) :
    Calls Tryz.prog 134 #[.string s] w fun e w' => e = .returned (.int .u8 (kindOf s)) ∧ w' = w := by
  unfold maxLen at hs
  go_enter Tryz.func134, Tryz.ntmps134
  go_wp2
  all_goals go_ret
  all_goals refine ⟨ret_int ?_, rfl⟩
  all_goals first | (rw [kindOf_long (by omega)]; done) | rw [kindOf_in (by omega)]
  all_goals try simp only [bne_iff_ne, ne_eq, bne_eq_false_iff_eq] at *
  all_goals (split <;> omega)

set_option maxHeartbeats 400000 in
theorem sum_any (key : ByteArray) (w : World) (b off : Nat) (v : Value) (ops : List ROp) (hn : ops.length ≤ 1000000)
   (hv : w.cell? ⟨b, off + 4, none⟩ = some v) (hrow : Row w 171 4 v ops.length (ops.flatMap ROp.cells)) :
    Calls Tryz.prog 136 #[.pointer (some ⟨b, off, none⟩), .string key] w fun e w' => e = .returned (.int .i64 (sumOf key ops)) ∧ w' = w := by
  obtain ⟨ao, cap, rfl, hcap, hm, hc⟩ := hrow.shape
  have HR := hrow; clear hrow
  have HR : Hid _ := HR
  go_enter Tryz.func136, Tryz.ntmps136
  go_wp2
  go_loop [5, 6] (fun s i => ∃ k : Nat, k ≤ ops.length ∧ i = .int .i64 k ∧ s = .int .i64 (sumOf key (ops.take k))) (fun _ i => ops.length - (intOf i).toNat)
  case atStart => exact ⟨0, Nat.zero_le _, rfl, rfl⟩
  case round =>
    obtain ⟨k, hk, rfl, rfl⟩ := hrel
    by_cases hlt : k < ops.length
    · obtain ⟨g, rfl, h0⟩ := hc (k * 4 + 0) (by omega)
      obtain ⟨_, e1, h1⟩ := hc (k * 4 + 1) (by omega)
      obtain ⟨_, e2, h2⟩ := hc (k * 4 + 3) (by omega)
      cases e1; cases e2
      rw [flat_get _ 4 ROp.cells_len _ _ _ hlt (by omega)] at h0 h1 h2
      simp only [ROp.cells, List.getElem?_cons_zero, List.getElem?_cons_succ, Nat.add_zero] at h0 h1 h2
      have HS : Hid (sumOf key (ops.take (k + 1)) = if ops[k].kind = 1 ∧ ops[k].key = key then wrap64 (sumOf key (ops.take k) + ops[k].amount) else sumOf key (ops.take k)) := by
        rw [List.take_succ_eq_append_getElem hlt]; exact sumOf_snoc _ _ _
      clear hc
      go_wp2
      · exact ⟨⟨k + 1, by omega, by go_num, by rw [HS.out, if_pos ⟨‹_›, str_eq.1 ‹_›⟩]⟩, by simp [intOf]; omega⟩
      · exact ⟨⟨k + 1, by omega, by go_num, by rw [HS.out, if_neg (fun h => str_ne.1 ‹_› h.2)]⟩, by simp [intOf]; omega⟩
      · exact ⟨⟨k + 1, by omega, by go_num, by rw [HS.out, if_neg (fun h => absurd h.1 ‹_›)]⟩, by simp [intOf]; omega⟩
    · go_wp2
      go_ret
      exact ⟨ret_int (by rw [List.take_of_length_le (by omega)]), rfl⟩


end Go.Proofs.YtiplgdkpnhamaaaGreatDoor

/- The reference's Counter and find: what each answers. -/
namespace Go.Proofs.YtiplgdkpnhamaaaGreatDoor
open Go.RowKit

set_option maxHeartbeats 1000000 in
theorem counter_any (w : World) (gb n : Nat) (av v : Value) (xs : List XTx) (ts : List RTx) (vec : List Int) (key : ByteArray) (G : GrpIn w gb n av xs ts) (hvl : vec.length = n)
    (hrow : Row w 3 1 v vec.length (ints vec)) :
    Calls Tryz.prog 135 #[.pointer (some ⟨gb, 0, none⟩), v, .string key] w fun e w' => e = .returned (.int .i64 (counterOf vec key ts)) ∧ Below w.heap.size w w' := by
  obtain ⟨ao, cap, rfl, hcap, hgb⟩ := G.shape
  have hbig := G.big
  have ha := G.ha
  have HG : Hid _ := G
  have HR : Hid _ := hrow
  have HL : Hid _ := hvl
  clear G hrow hvl
  go_enter Tryz.func135, Tryz.ntmps135
  go_wp2
  go_loopw [7, 8] (fun m i wr => ∃ k : Nat, k ≤ ts.length ∧ i = .int .i64 k ∧ m = .int .i64 (counterOf vec key (ts.take k)) ∧ Below w.heap.size w wr) (fun _ i _ => ts.length - (intOf i).toNat)
  case atStart => exact ⟨0, Nat.zero_le _, rfl, rfl, Below.refl _ _⟩
  case round =>
    obtain ⟨k, hk, rfl, rfl, hB⟩ := hrel
    have G1 := HG.out.below hB
    have ha1 := G1.ha
    clear ha
    by_cases hlk : k < ts.length
    · obtain ⟨ga, x, rfl, hga, h1, h2, h3, h4, ht, hr, hsl⟩ := G1.pick k hlk
      have HS : Hid (counterOf vec key (ts.take (k + 1)) = if seesV vec ts[k].rep ts[k].seq then wrap64 (counterOf vec key (ts.take k) + sumOf key ts[k].ops) else counterOf vec key (ts.take k)) := by
        rw [List.take_succ_eq_append_getElem hlk]; exact counterOf_snoc _ _ _ _
      clear G1 hsl
      have HT : Hid _ := ht
      clear ht
      generalize ts[k] = t at *
      have hrow1 : Hid (Row wr 3 1 v vec.length (ints vec)) := Row.below HR.out hB
      go_wp2_with fail
      refine (sees_any _ _ vec _ _ (by omega) (by have := HL.out; omega) hrow1.out).mono ?_
      rintro e w1 ⟨rfl, hB1⟩
      have ha2 := cell_later hB1 ha1
      have h42 := cell_later hB1 h4
      clear ha1 h1 h2 h3 h4
      cases hsee : seesV vec t.rep t.seq
      · go_wp2_with fail
        exact ⟨⟨k + 1, by omega, by go_num, by rw [HS.out, hsee]; rfl, hB.trans (hB1.mono hB.size)⟩, by simp [intOf]; omega⟩
      · go_wp2_with fail
        refine (sum_any key _ ga (k * 5) _ t.ops (by have := HT.out.few; omega) (by assumption) (HT.out.below hB1).ops).mono ?_
        rintro e w2 ⟨rfl, rfl⟩
        go_wp2_with fail
        exact ⟨⟨k + 1, by omega, by go_num, by rw [HS.out, hsee]; rfl, hB.trans (hB1.mono hB.size)⟩, by simp [intOf]; omega⟩
    · go_wp2
      go_ret
      exact ⟨ret_int (by rw [List.take_of_length_le (by omega)]), hB⟩

set_option maxHeartbeats 1000000 in
theorem find_any (w : World) (gb n ga cap : Nat) (xs : List XTx) (ts : List RTx) (r s : Int) (G : GrpIn w gb n (.slice (some ⟨ga, 0, none⟩) ts.length cap) xs ts)
    (i : Nat) (hi : i < ts.length) (hit : isDot r s ts[i] = true) (hno : ∀ j (hj : j < i), isDot r s (ts[j]'(by omega)) = false) :
    Calls Tryz.prog 143 #[.pointer (some ⟨gb, 0, none⟩), .agg #[.int .i64 r, .int .i64 s]] w fun e w' => e = .returned (.pointer (some ⟨ga, i * 5, none⟩)) ∧ Below w.heap.size w w' := by
  obtain ⟨_, _, _, hcap, hgb⟩ := G.shape
  have hbig := G.big
  have ha := G.ha
  have HG : Hid _ := G
  have HN : Hid _ := hno
  have HI : Hid _ := hit
  clear G hno hit
  go_enter Tryz.func143, Tryz.ntmps143
  go_wp2
  go_loopw [5] (fun j wr => ∃ k : Nat, k ≤ i ∧ j = .int .i64 k ∧ Below (w.heap.size + 1) (w.alloc (.cells #[.int .i64 r, .int .i64 s] 62)) wr) (fun j _ => ts.length - (intOf j).toNat)
  case atStart => exact ⟨0, Nat.zero_le _, rfl, Below.refl _ _⟩
  case round =>
    obtain ⟨k, hk, rfl, hbe⟩ := hrel
    have hB : Below w.heap.size w wr := ((Below.refl _ _).alloc (Nat.le_refl _) _).trans (hbe.mono (by omega))
    have hd0 : wr.cell? ⟨w.heap.size, 0, none⟩ = some (.int .i64 r) := by rw [hbe.cell (p := ⟨w.heap.size, 0, none⟩) (by simp)]; simp
    have hd1 : wr.cell? ⟨w.heap.size, 1, none⟩ = some (.int .i64 s) := by rw [hbe.cell (p := ⟨w.heap.size, 1, none⟩) (by simp)]; simp
    have G1 := HG.out.below hB
    have ha1 := G1.ha
    have hlk : k < ts.length := by omega
    obtain ⟨_, x, e, hga, h1, h2, h3, h4, ht, hr, hsl⟩ := G1.pick k hlk
    cases e
    clear G1 hsl ht h3 h4 ha
    have HT : Hid (isDot r s ts[k] = decide (ts[k].rep = r ∧ ts[k].seq = s)) := rfl
    by_cases hki : k = i
    · subst hki
      have hh := of_decide_eq_true HI.out
      have hh1 : (ts[k].rep == r) = true := by rw [hh.1]; simp
      have hh2 : (ts[k].seq == s) = true := by rw [hh.2]; simp
      clear HI HT HN hh
      generalize ts[k] = t at *
      go_wp2
      go_quiet (fail)
      go_wp2
      go_ret
      exact ⟨rfl, below_drewN hB _⟩
    · have hh := HN.out k (by omega)
      have hh' : ¬ (ts[k].rep = r ∧ ts[k].seq = s) := of_decide_eq_false hh
      clear HI HT HN hh
      generalize ts[k] = t at *
      by_cases hh1 : t.rep = r
      · have hh2 : (t.rep == r) = true := by rw [hh1]; simp
        have hh3 : (t.seq == s) = false := by simp; exact fun h => hh' ⟨hh1, h⟩
        clear hh1 hh'
        go_wp2
        go_quiet (fail)
        go_wp2
        exact ⟨⟨k + 1, by omega, by go_num, below_drewN hbe _⟩, by simp [intOf]; omega⟩
      · have hh2 : (t.rep == r) = false := by simp; exact hh1
        clear hh1 hh'
        go_wp2
        go_quiet (fail)
        go_wp2
        exact ⟨⟨k + 1, by omega, by go_num, below_drewN hbe _⟩, by simp [intOf]; omega⟩

end Go.Proofs.YtiplgdkpnhamaaaGreatDoor

/- The reference's Tx.last: what it answers. -/
namespace Go.Proofs.YtiplgdkpnhamaaaGreatDoor
open Go.RowKit

set_option maxHeartbeats 400000 in
theorem last_any (key el : ByteArray) (w : World) (b off : Nat) (v : Value) (ops : List ROp) (hn : ops.length ≤ 1000000) (hb : b < w.heap.size)
   (hv : w.cell? ⟨b, off + 4, none⟩ = some v) (hrow : Row w 171 4 v ops.length (ops.flatMap ROp.cells)) :
    Calls Tryz.prog 137 #[.pointer (some ⟨b, off, none⟩), .string key, .string el] w fun e w' => e = .returned (lastAgg (lastOf key el ops)) ∧ Below w.heap.size w w' := by
  obtain ⟨ao, cap, rfl, hcap, hm, hc⟩ := hrow.shape
  have hlt := fun k hk => hrow.lt (k := k) hk
  have HR : Hid _ := hrow
  clear hrow
  go_enter Tryz.func137, Tryz.ntmps137
  go_wp2
  go_loopw [8] (fun i wr => ∃ k : Nat, k ≤ ops.length ∧ i = .int .i64 ((k : Int) - 1) ∧ (∀ j (hj : j < ops.length), k ≤ j → hits key el ops[j] = false) ∧ Below (w.heap.size + 1) (w.alloc (.cells #[.int .i64 0, .string ⟨#[]⟩, .string ⟨#[]⟩, .int .i64 0] 171)) wr) (fun i _ => (intOf i + 1).toNat)
  case atStart => exact ⟨ops.length, Nat.le_refl _, rfl, fun j hj h => by omega, Below.refl _ _⟩
  case round =>
    obtain ⟨k, hk, rfl, hno, hbe⟩ := hrel
    have hB : Below w.heap.size w wr := ((Below.refl _ _).alloc (Nat.le_refl _) _).trans (hbe.mono (by omega))
    have hsz : w.heap.size + 1 ≤ wr.heap.size := by have := hbe.size; simpa using this
    have hv' : wr.cell? ⟨b, off + 4, none⟩ = some (.slice ao ops.length cap) := by rw [hB.cell (p := ⟨b, off + 4, none⟩) hb]; exact hv
    have hf : ∀ j, wr.frozen? ⟨w.heap.size, j, none⟩ = false := fun j => by rw [hbe.frozen (p := ⟨w.heap.size, j, none⟩) (by simp)]; exact frozen_new _ _ _ _
    have hr0 : wr.cell? ⟨w.heap.size, 0, none⟩ = some (.int .i64 0) := by rw [hbe.cell (p := ⟨w.heap.size, 0, none⟩) (by simp)]; simp
    have hr1 : wr.cell? ⟨w.heap.size, 1, none⟩ = some (.string ⟨#[]⟩) := by rw [hbe.cell (p := ⟨w.heap.size, 1, none⟩) (by simp)]; simp
    have hr2 : wr.cell? ⟨w.heap.size, 2, none⟩ = some (.string ⟨#[]⟩) := by rw [hbe.cell (p := ⟨w.heap.size, 2, none⟩) (by simp)]; simp
    have hr3 : wr.cell? ⟨w.heap.size, 3, none⟩ = some (.int .i64 0) := by rw [hbe.cell (p := ⟨w.heap.size, 3, none⟩) (by simp)]; simp
    have hb' : b < wr.heap.size := by omega
    have hz' : w.heap.size < wr.heap.size := by omega
    clear hv
    cases k with
    | zero =>
      have HN : Hid (lastOf key el ops = none) := lastOf_none fun j hj => hno j hj (by omega)
      clear hno hc
      go_wp2
      refine bodyPost_ret (v := lastAgg none) (by simp [results, Tryz.results137, go_sem, lastAgg, ROp.none, ROp.agg, hr0, hr1, hr2, hr3]) rfl ⟨by rw [HN.out], ?_⟩
      exact ((((hB.setCell (by simp) _).setCell (by simp) _).setCell (by simp) _).setCell (by simp) _)
    | succ m =>
      obtain ⟨g, rfl, h0⟩ := hc (m * 4 + 0) (by omega)
      obtain ⟨_, e1, h1⟩ := hc (m * 4 + 1) (by omega)
      obtain ⟨_, e2, h2⟩ := hc (m * 4 + 2) (by omega)
      obtain ⟨_, e3, h3⟩ := hc (m * 4 + 3) (by omega)
      cases e1; cases e2; cases e3
      have hg : g < w.heap.size := hlt g rfl
      rw [flat_get _ 4 ROp.cells_len _ _ _ (by omega) (by omega), ← hB.cell (p := ⟨g, _, none⟩) hg] at h0 h1 h2 h3
      simp only [ROp.cells, List.getElem?_cons_zero, List.getElem?_cons_succ, Nat.add_zero] at h0 h1 h2 h3
      clear hc hlt
      have hg' : g < wr.heap.size := by omega
      have e : ((m + 1 : Nat) : Int) - 1 = m := by omega
      rw [e]; clear e
      by_cases hh : hits key el ops[m] = true
      · have HN : Hid (lastOf key el ops = some ops[m]) := lastOf_hit (by omega) hh fun j hj h => hno j hj (by omega)
        have hh' := of_decide_eq_true hh
        have hk1 : (ops[m].key.toList == key.toList) = true := str_eq.2 hh'.1
        have h2k : ops[m].kind = 2 ∨ (ops[m].value.toList == el.toList) = true := hh'.2.imp id str_eq.2
        clear hno hh hh'
        generalize ops[m] = o at *
        rcases h2k with h2k | h2k
        · have hk2 : (o.kind == 2) = true := by simp [h2k]
          clear h2k
          go_wp2
          refine bodyPost_ret (v := lastAgg (some o)) (by simp [results, Tryz.results137, go_sem, lastAgg, ROp.agg, hr0, hr1, hr2, hr3, hz']; try omega) rfl ⟨by rw [HN.out], ?_⟩
          exact (((((hB.setCell (by simp) _).setCell (by simp) _).setCell (by simp) _).setCell (by simp) _).alloc (by simp; omega) _)
        · go_wp2
          all_goals
            refine bodyPost_ret (v := lastAgg (some o)) (by simp [results, Tryz.results137, go_sem, lastAgg, ROp.agg, hr0, hr1, hr2, hr3, hz']; try omega) rfl ⟨by rw [HN.out], ?_⟩
            exact (((((hB.setCell (by simp) _).setCell (by simp) _).setCell (by simp) _).setCell (by simp) _).alloc (by simp; omega) _)
      · have hno' : Hid (∀ j (hj : j < ops.length), m ≤ j → hits key el ops[j] = false) := fun j hj h => by
          by_cases e : j = m
          · subst e; simpa using hh
          · exact hno j hj (by omega)
        have hh' : ¬ (ops[m].key = key ∧ (ops[m].kind = 2 ∨ ops[m].value = el)) := fun h => hh (decide_eq_true h)
        clear hno hh
        by_cases hk1 : ops[m].key = key
        · have hk2 : ¬ ops[m].kind = 2 := fun h => hh' ⟨hk1, .inl h⟩
          have hk3 : (ops[m].value.toList == el.toList) = false := str_ne.2 fun h => hh' ⟨hk1, .inr h⟩
          have hk1' : (ops[m].key.toList == key.toList) = true := str_eq.2 hk1
          clear hh' hk1
          go_wp2
          all_goals exact ⟨⟨m, by omega, rfl, hno'.out, hbe.alloc (by omega) _⟩, by simp [intOf]⟩
        · have hk1' : (ops[m].key.toList == key.toList) = false := str_ne.2 hk1
          clear hh' hk1
          go_wp2
          all_goals exact ⟨⟨m, by omega, rfl, hno'.out, hbe.alloc (by omega) _⟩, by simp [intOf]⟩

end Go.Proofs.YtiplgdkpnhamaaaGreatDoor

/- What is told of a set, as plain functions. -/
namespace Go.Proofs.YtiplgdkpnhamaaaGreatDoor
open Go.RowKit

def lastKind (o : Option ROp) : Int := (o.getD ROp.none).kind
def goneStep (v : List Int) (key el : ByteArray) (t : RTx) (acc : Bool) (u : RTx) : Bool :=
  acc || (seesV v u.rep u.seq && seesV u.saw t.rep t.seq && (lastOf key el u.ops).isSome && decide (lastKind (lastOf key el u.ops) = 4))
/-- Does one of them that removes the element undo t's insert? -/
def goneOf (v : List Int) (key el : ByteArray) (t : RTx) (ts : List RTx) : Bool := ts.foldl (goneStep v key el t) false
theorem goneOf_snoc (v : List Int) (key el : ByteArray) (t : RTx) (ts : List RTx) (u : RTx) : goneOf v key el t (ts ++ [u]) = goneStep v key el t (goneOf v key el t ts) u := by simp [goneOf]
def setEl (v : List Int) (key : ByteArray) (ts : List RTx) (t : RTx) (acc : List ByteArray) (el : ByteArray) : List ByteArray :=
  if lastKind (lastOf key el t.ops) = 3 then (if goneOf v key el t ts then acc else withOf acc el) else acc
def setTx (v : List Int) (key : ByteArray) (ts : List RTx) (acc : List ByteArray) (t : RTx) : List ByteArray :=
  if seesV v t.rep t.seq then (elemsOf key t.ops).foldl (setEl v key ts t) acc else acc
/-- A set: the elements that are told by those that v sees. -/
def setOf (v : List Int) (key : ByteArray) (ts : List RTx) : List ByteArray := ts.foldl (setTx v key ts) []
theorem setEl_len (v : List Int) (key : ByteArray) (ts : List RTx) (t : RTx) (acc : List ByteArray) (el : ByteArray) : (setEl v key ts t acc el).length ≤ acc.length + 1 := by
  unfold setEl
  split
  · split
    · omega
    · exact withOf_len _ _
  · omega

theorem setA {W w : World} {kd d3 : Int} {d1 d2 : ByteArray} {t : TypeId} {b : Bool} (h : Below W.drew.heap.size W.drew w) :
    ∃ pb, Value.pointer (some ⟨w.heap.size, 0, none⟩) = .pointer (some ⟨pb, 0, none⟩) ∧ (w.alloc (.cells #[.int .i64 kd, .string d1, .string d2, .int .i64 d3] t)).cell? ⟨pb, 0, none⟩ = some (.int .i64 kd) ∧
      Value.bool b = .bool b ∧ Below W.heap.size W (w.alloc (.cells #[.int .i64 kd, .string d1, .string d2, .int .i64 d3] t)) := by
  have h' : Below W.heap.size W w := ((Below.refl _ _).drew).trans h
  exact ⟨w.heap.size, rfl, by simp, rfl, h'.alloc h'.size _⟩
theorem setB {W w : World} {c : Array Value} {t : TypeId} {kd d3 : Int} {d1 d2 : ByteArray} {b : Bool} (h : Below (W.alloc (.cells c t)).drew.heap.size (W.alloc (.cells c t)).drew w) (hc : 0 < c.size) :
    ∃ pb, Value.pointer (some ⟨W.heap.size, 0, none⟩) = .pointer (some ⟨pb, 0, none⟩) ∧ ((((w.setCell ⟨W.heap.size, 0, none⟩ (.int .i64 kd)).setCell ⟨W.heap.size, 1, none⟩ (.string d1)).setCell ⟨W.heap.size, 2, none⟩ (.string d2)).setCell ⟨W.heap.size, 3, none⟩ (.int .i64 d3)).cell? ⟨pb, 0, none⟩ = some (.int .i64 kd) ∧
      Value.bool b = .bool b ∧ Below W.heap.size W ((((w.setCell ⟨W.heap.size, 0, none⟩ (.int .i64 kd)).setCell ⟨W.heap.size, 1, none⟩ (.string d1)).setCell ⟨W.heap.size, 2, none⟩ (.string d2)).setCell ⟨W.heap.size, 3, none⟩ (.int .i64 d3)) := by
  have hs : W.heap.size < (W.alloc (.cells c t)).drew.heap.size := by show W.heap.size < (W.alloc (.cells c t)).heap.size; simp
  have h' : Below W.heap.size W w := (((Below.refl _ _).alloc (Nat.le_refl _) _).drew).trans (h.mono (Nat.le_of_lt hs))
  have hcell : w.cell? ⟨W.heap.size, 0, none⟩ = some c[0] := by
    rw [h.cell (p := ⟨W.heap.size, 0, none⟩) hs]
    show (W.alloc (.cells c t)).cell? _ = _
    simp [hc]
  refine ⟨W.heap.size, rfl, ?_, rfl, ((((h'.setCell (Nat.le_refl _) _).setCell (Nat.le_refl _) _).setCell (Nat.le_refl _) _).setCell (Nat.le_refl _) _)⟩
  simp [hcell, go_sem]

end Go.Proofs.YtiplgdkpnhamaaaGreatDoor
